/-
  THE WALK of the law's asJournal: two journals tell the same.
  BOTH JOURNALS SIDE BY SIDE: every Put's answer; what stands along the law JournalActs.
-/
import Derived.Test.YtkbbjkiinpimiaaDoorRT
import Derived.Test.YtkbbjkiinpimiaaDoorRVP
namespace Go.Proofs.YtkbbjkiinpimiaaDoor
open Go.RowKit

end Go.Proofs.YtkbbjkiinpimiaaDoor
namespace Go.Proofs.YtkbbjkiinpimiaaDoor
open Go.RowKit

/-- The program's blocks and the document's are others, and new. -/
structure Apart (w0 : World) (j p q m gn gs r : Nat) : Prop where
  dis : ∀ x, In3 j p q x → ¬ In4 m gn gs r x
  low : ∀ x, In4 m gn gs r x → w0.heap.size ≤ x
section
variable {w0 w w' : World} {j p q m gn gs r : Nat} {E : Nat → Nat × St} {over dead : Bool} {B : ByteArray} {l : Int} {A : Nat → Addr}
theorem rput_any (dl ph pr a : Int) (o : POut) (ho : pOut E over B l dl ph pr a = o) (h : RK w m gn gs r E over B l) (hn : ∀ d, d < 6 → (E d).1 < 4294967296) :
    Calls Tryd.prog 52 #[.pointer (some ⟨m, 0, none⟩), .int .i64 dl, .agg #[.int .i64 ph, .int .i64 pr, .int .i64 a]] w fun e w' => e = .returned (.int .i64 (o.c : Int)) ∧ RK w' m gn gs r o.e o.over o.b o.l ∧ Kept (In4 m gn gs r) w w' := by
  subst ho
  unfold pOut
  cases over with
  | true =>
    rw [if_pos rfl]
    refine (rput_over dl ph pr a h).mono ?_
    rintro e w' ⟨rfl, hb⟩
    exact ⟨rfl, h.later hb, Kept.of_below hb⟩
  | false =>
    rw [if_neg (by decide)]
    by_cases hb : (0 ≤ dl ∧ dl < 6) ∧ fitsB ph pr a = true
    · rw [if_pos hb]
      obtain ⟨d, h1, h2, h3, rfl, rfl, rfl, rfl⟩ := in_nat hb
      simp only [Int.toNat_natCast]
      exact rput_in d h1 h2 h3 h (by omega) hb.2 (hn d (by omega))
    · rw [if_neg hb]
      refine (rput_bound dl ph pr a h hb).mono ?_
      rintro e w' ⟨rfl, hb'⟩
      exact ⟨rfl, h.later hb', Kept.of_below hb'⟩
theorem RK.far {S : Nat → Prop} (h : RK w m gn gs r E over B l) (k : Kept S w w') (hd : ∀ x, S x → ¬ In4 m gn gs r x) : RK w' m gn gs r E over B l :=
  h.kept k (fun e => hd _ e (.inl rfl)) (fun e => hd _ e (.inr (.inl rfl))) (fun e => hd _ e (.inr (.inr (.inl rfl)))) (fun e => hd _ e (.inr (.inr (.inr rfl))))
/-- A cut on the document's plate. -/
theorem rcut_rk (n : Int) (c : Nat) (l' : Int) (h : RK w m gn gs r E over B l) (hn : n ≤ 9223372036854775807) (hc : cC l n = c) (hl : cL l n = l') :
    Calls Tryd.prog 41 #[.pointer (some ⟨r, 0, none⟩), .int .i64 n] w fun e w' => e = .returned (.int .i64 (c : Int)) ∧ RK w' m gn gs r E over B l' ∧ Kept (In4 m gn gs r) w w' := by
  subst hc hl
  obtain ⟨off, l2, cuts, p1, p2⟩ := h.rp
  refine (cut_rp r B l n l2 off cuts w p1 p2 hn).mono ?_
  rintro e w' ⟨rfl, hx, hk⟩
  exact ⟨rfl, ⟨h.rj.kept hk (fun e => h.rm e.symm) (fun e => h.rn e.symm) (fun e => h.rs e.symm), hx, h.rm, h.rn, h.rs, h.sz, h.s6⟩, hk.mono (fun k e => .inr (.inr (.inr e)))⟩
/-- The document's plate has power again. -/
theorem ron_rk (h : RK w m gn gs r E over B l) :
    Calls Tryd.prog 43 #[.pointer (some ⟨r, 0, none⟩)] w fun e w' => e = .returned (.tuple #[]) ∧ RK w' m gn gs r E over B (-1) ∧ Kept (In4 m gn gs r) w w' := by
  obtain ⟨off, l2, cuts, p1, p2⟩ := h.rp
  refine (rpon_any r B off cuts l2 w p1).mono ?_
  rintro e w' ⟨rfl, hx, hk⟩
  exact ⟨rfl, ⟨h.rj.kept hk (fun e => h.rm e.symm) (fun e => h.rn e.symm) (fun e => h.rs e.symm), ⟨false, l2, false, hx, .inr (.inl ⟨rfl, rfl, rfl⟩)⟩, h.rm, h.rn, h.rs, h.sz, h.s6⟩, hk.mono (fun k e => .inr (.inr (.inr e)))⟩
theorem ropen_rk (h : RK w m gn gs r E over B l) :
    Calls Tryd.prog 51 #[.pointer (some ⟨r, 0, none⟩)] w fun e w' => ∃ m' gn' gs', e = .returned (.pointer (some ⟨m', 0, none⟩)) ∧ RK w' m' gn' gs' r (dealL B.data.toList) false B l ∧ Below w.heap.size w w' ∧ w.heap.size ≤ m' ∧ w.heap.size ≤ gn' ∧ w.heap.size ≤ gs' := by
  obtain ⟨off, l2, cuts, p1, p2⟩ := h.rp
  have hl := row_ltJ p1
  refine (ropen_any r B off cuts l2 w p1 h.sz h.s6).mono ?_
  rintro e w' ⟨m', gn', gs', rfl, hj, hb, b1, b2, b3⟩
  exact ⟨m', gn', gs', rfl, ⟨hj, ⟨off, l2, cuts, p1.kept (S := fun _ => False) (Kept.of_below hb) (fun x => x), p2⟩, by omega, by omega, by omega, h.sz, h.s6⟩, hb, b1, b2, b3⟩
end
end Go.Proofs.YtkbbjkiinpimiaaDoor
