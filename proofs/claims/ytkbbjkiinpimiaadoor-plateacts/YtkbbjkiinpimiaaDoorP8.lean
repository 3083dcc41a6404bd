/-
  PLATE AND DOCUMENT SIDE BY SIDE: what each act answers, as numbers; the closed fact 'plated'.
-/
import Derived.Test.YtkbbjkiinpimiaaDoorP8P
import Derived.Test.YtkbbjkiinpimiaaDoorP7
namespace Go.Proofs.YtkbbjkiinpimiaaDoor
open Go.RowKit

theorem write_rp (r : Nat) (B s : ByteArray) (l a l' : Int) (off cuts : Bool) (w : World) (h : RP w r B off l' cuts) (hk : Lk l off l' cuts) (hB : B.size ≤ 1000) :
    Calls Tryd.prog 39 #[.pointer (some ⟨r, 0, none⟩), .int .i64 a, .string s] w fun e w' => e = .returned (.int .i64 (wC B s l a)) ∧ (∃ off2 l2 cuts2, RP w' r (wB B s l a) off2 l2 cuts2 ∧ Lk (wL B s l a) off2 l2 cuts2) ∧ Kept (In1 r) w w' := by
  by_cases hb : wBad B s a
  · simp only [wC, wB, wL, if_pos hb]
    refine (rpwrite_bound r B s off cuts l' a w h hB hb).mono ?_
    rintro e w' ⟨rfl, rfl⟩
    exact ⟨rfl, ⟨off, l', cuts, h, hk⟩, Kept.refl _ _⟩
  · rcases hk with ⟨rfl, rfl⟩ | ⟨rfl, rfl, rfl⟩ | ⟨rfl, rfl, rfl, h0, h1⟩
    · simp only [wC, wB, wL, if_neg hb, if_pos]
      refine (rpwrite_off r B s cuts l' a w h hB hb).mono ?_
      rintro e w' ⟨rfl, rfl⟩
      exact ⟨rfl, ⟨true, l', cuts, h, .inl ⟨rfl, rfl⟩⟩, Kept.refl _ _⟩
    · have hb' := hb
      unfold wBad at hb'
      obtain ⟨a', rfl⟩ : ∃ a' : Nat, a = a' := ⟨a.toNat, by omega⟩
      simp only [wC, wB, wL, if_neg hb, if_neg (show ¬ (-1 : Int) = -2 by omega), if_neg (show ¬ ((0 : Int) ≤ -1 ∧ (-1 : Int) < (s.size : Int)) by omega), if_pos (show (-1 : Int) < 0 by omega), Int.toNat_natCast]
      refine (rpwrite_free r B s l' a' w h hB (by omega)).mono ?_
      rintro e w' ⟨rfl, h1, h2⟩
      exact ⟨rfl, ⟨_, _, _, h1, .inr (.inl ⟨rfl, rfl, rfl⟩)⟩, h2⟩
    · have hb' := hb
      unfold wBad at hb'
      obtain ⟨a', rfl⟩ : ∃ a' : Nat, a = a' := ⟨a.toNat, by omega⟩
      obtain ⟨l', rfl⟩ : ∃ l' : Nat, l = l' := ⟨l.toNat, by omega⟩
      simp only [wC, wB, wL, if_neg hb, if_neg (show ¬ (l' : Int) = -2 by omega), Int.toNat_natCast, if_neg (show ¬ (l' : Int) < 0 by omega)]
      by_cases hn : (0 : Int) ≤ l' ∧ (l' : Int) < s.size
      · simp only [if_pos hn]
        refine (rpwrite_near r B s l' a' w h hB (by omega) (by omega)).mono ?_
        rintro e w' ⟨rfl, h1, h2⟩
        exact ⟨rfl, ⟨_, _, _, h1, .inl ⟨rfl, rfl⟩⟩, h2⟩
      · simp only [if_neg hn]
        refine (rpwrite_far r B s l' a' w h hB (by omega) (by omega) h1).mono ?_
        rintro e w' ⟨rfl, h3, h4⟩
        exact ⟨rfl, ⟨_, _, _, h3, .inr (.inr ⟨rfl, rfl, rfl, by omega, by omega⟩)⟩, h4⟩

theorem cut_rp (r : Nat) (B : ByteArray) (l n l' : Int) (off cuts : Bool) (w : World) (h : RP w r B off l' cuts) (hk : Lk l off l' cuts) (hn9 : n ≤ 9223372036854775807) :
    Calls Tryd.prog 41 #[.pointer (some ⟨r, 0, none⟩), .int .i64 n] w fun e w' => e = .returned (.int .i64 (cC l n)) ∧ (∃ off2 l2 cuts2, RP w' r B off2 l2 cuts2 ∧ Lk (cL l n) off2 l2 cuts2) ∧ Kept (In1 r) w w' := by
  by_cases hn : n < 0
  · simp only [cC, cL, if_pos hn]
    refine (rpcut_bound _ n w hn).mono ?_
    rintro e w' ⟨rfl, rfl⟩
    exact ⟨rfl, ⟨_, _, _, h, hk⟩, Kept.refl _ _⟩
  · have fin : ∀ (hl : ¬ l = -2), off = false → Calls Tryd.prog 41 #[.pointer (some ⟨r, 0, none⟩), .int .i64 n] w fun e w' => e = .returned (.int .i64 (cC l n)) ∧ (∃ off2 l2 cuts2, RP w' r B off2 l2 cuts2 ∧ Lk (cL l n) off2 l2 cuts2) ∧ Kept (In1 r) w w' := by
      rintro hl rfl
      simp only [cC, cL, if_neg hn, if_neg hl]
      refine (rpcut_ok r B cuts l' n w h hn).mono ?_
      rintro e w' ⟨rfl, h3, h4⟩
      exact ⟨rfl, ⟨_, _, _, h3, .inr (.inr ⟨rfl, rfl, rfl, by omega, by omega⟩)⟩, h4⟩
    rcases hk with ⟨rfl, rfl⟩ | ⟨rfl, rfl, rfl⟩ | ⟨rfl, rfl, rfl, h0, h1⟩
    · simp only [cC, cL, if_neg hn, if_pos]
      refine (rpcut_off r B cuts l' n w h hn).mono ?_
      rintro e w' ⟨rfl, rfl⟩
      exact ⟨rfl, ⟨_, _, _, h, .inl ⟨rfl, rfl⟩⟩, Kept.refl _ _⟩
    · exact fin (by omega) rfl
    · exact fin (by omega) rfl

theorem err_rp (r : Nat) (B : ByteArray) (l a n l' : Int) (off cuts : Bool) (w : World) (h : RP w r B off l' cuts) (hk : Lk l off l' cuts) (hB : B.size ≤ 1000) :
    Calls Tryd.prog 37 #[.pointer (some ⟨r, 0, none⟩), .int .i64 a, .int .i64 n] w fun e w' => e = .returned (.int .i64 (rC B l a n)) ∧ w' = w := by
  by_cases hb : a < 0 ∨ n < 0 ∨ (B.size : Int) - n < a
  · simp only [rC, if_pos hb]
    exact rperr_bound r B off cuts l' a n w h hB hb
  · simp only [rC, if_neg hb]
    refine (rperr_in r B off cuts l' a n w h hB hb).mono ?_
    rintro e w' ⟨rfl, rfl⟩
    refine ⟨?_, rfl⟩
    rcases hk with ⟨rfl, rfl⟩ | ⟨rfl, rfl, rfl⟩ | ⟨rfl, rfl, rfl, h0, h1⟩
    · rfl
    · rfl
    · rw [if_neg (show ¬ l = -2 by omega)]; rfl
end Go.Proofs.YtkbbjkiinpimiaaDoor
