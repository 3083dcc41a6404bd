/-
  WALKS of package judge: Agree.
-/
import Derived.Test.YtadhpkopkkjmfaaDoorEC
namespace Go.Proofs.YtadhpkopkkjmfaaDoor
open Go.RowKit

/-- Is a state final? -/
def finS (s : S3) : Bool := decide (s.p = 2 ∨ s.p = 3)
/-- The end that the first k states tell. -/
def endS (L : List S3) : Int := L.foldl (fun x s => if x = 0 ∧ finS s = true then s.p else x) 0
theorem endS_snoc (L : List S3) (s : S3) : endS (L ++ [s]) = if endS L = 0 ∧ finS s = true then s.p else endS L := by unfold endS; rw [List.foldl_append]; rfl
/-- Does a state disagree with those ahead of it? -/
def disB (P : List S3) (s : S3) : Bool := finS s && P.any fun q => finS q && decide (q.p ≠ s.p)
/-- The first state that disagrees; the list's length: none. -/
def AgF (L : List S3) (c k : Nat) : Prop := (∀ j (h : j < L.length), j < k → disB (L.take j) (L[j]'h) = false) ∧ ((c = 0 ∧ k = L.length) ∨ ∃ h : k < L.length, c = 9 ∧ disB (L.take k) (L[k]'h) = true)
theorem agF_ex (L : List S3) : ∃ c k, AgF L c k := by
  have gen : ∀ r k, k + r = L.length → (∀ j (h : j < L.length), j < k → disB (L.take j) (L[j]'h) = false) → ∃ c k, AgF L c k := by
    intro r
    induction r with
    | zero => intro k hk hw; exact ⟨0, k, hw, .inl ⟨rfl, hk⟩⟩
    | succ r ih =>
      intro k hk hw
      have hlt : k < L.length := by omega
      cases hc : disB (L.take k) (L[k]'hlt) with
      | false =>
        refine ih (k + 1) (by omega) fun j hj h => ?_
        rcases Nat.lt_succ_iff_lt_or_eq.1 h with x | rfl
        · exact hw j hj x
        · exact hc
      | true => exact ⟨9, k, hw, .inr ⟨hlt, rfl, hc⟩⟩
  exact gen L.length 0 (by omega) (fun j _ h => absurd h (Nat.not_lt_zero _))
/-- What stands of states that agree. -/
structure AgK (P : List S3) : Prop where
  i0 : endS P = 0 → ∀ q, q ∈ P → finS q = false
  i1 : endS P ≠ 0 → (∃ q, q ∈ P ∧ finS q = true) ∧ ∀ q, q ∈ P → finS q = true → q.p = endS P
theorem AgK.nil : AgK [] := ⟨fun _ _ h => (by cases h), fun h => absurd rfl h⟩
theorem AgK.dis {P : List S3} (h : AgK P) (s : S3) : disB P s = (finS s && (endS P != 0 && s.p != endS P)) := by
  unfold disB
  cases hs : finS s with
  | false => rfl
  | true =>
    rw [Bool.true_and, Bool.true_and, Bool.eq_iff_iff, List.any_eq_true, Bool.and_eq_true, bne_iff_ne, bne_iff_ne]
    constructor
    · rintro ⟨q, hq, hx⟩
      rw [Bool.and_eq_true, decide_eq_true_eq] at hx
      by_cases e : endS P = 0
      · have := h.i0 e q hq; rw [hx.1] at this; cases this
      · have := (h.i1 e).2 q hq hx.1
        exact ⟨e, by omega⟩
    · rintro ⟨h1, h2⟩
      obtain ⟨⟨q, hq, hf⟩, h3⟩ := h.i1 h1
      refine ⟨q, hq, ?_⟩
      rw [Bool.and_eq_true, decide_eq_true_eq]
      exact ⟨hf, by have := h3 q hq hf; omega⟩
theorem AgK.snoc {P : List S3} {s : S3} (h : AgK P) (hd : disB P s = false) : AgK (P ++ [s]) := by
  rw [h.dis] at hd
  have hfs : finS s = true → s.p = 2 ∨ s.p = 3 := fun x => of_decide_eq_true x
  refine ⟨fun e q hq => ?_, fun e => ?_⟩
  · rw [endS_snoc] at e
    split at e
    · rename_i hc; have := hfs hc.2; omega
    · rename_i hc
      rcases List.mem_append.1 hq with x | x
      · exact h.i0 e q x
      · rw [List.mem_singleton] at x
        subst x
        cases hq2 : finS q with
        | false => rfl
        | true => exact absurd ⟨e, hq2⟩ hc
  · rw [endS_snoc] at e ⊢
    split
    · rename_i hc
      refine ⟨⟨s, by simp, hc.2⟩, fun q hq hf => ?_⟩
      rcases List.mem_append.1 hq with x | x
      · have := h.i0 hc.1 q x; rw [hf] at this; cases this
      · rw [List.mem_singleton] at x; rw [x]
    · rename_i hc
      rw [if_neg hc] at e
      obtain ⟨⟨q, hq, hf⟩, h3⟩ := h.i1 e
      refine ⟨⟨q, by simp [hq], hf⟩, fun r hr hrf => ?_⟩
      rcases List.mem_append.1 hr with x | x
      · exact h3 r x hrf
      · rw [List.mem_singleton] at x
        subst x
        rw [hrf, Bool.true_and, Bool.and_eq_false_iff, bne_eq_false_iff_eq, bne_eq_false_iff_eq] at hd
        rcases hd with x | x
        · exact absurd x e
        · exact x
theorem AgF.kept {L : List S3} : ∀ {k : Nat}, k ≤ L.length → (∀ j (h : j < L.length), j < k → disB (L.take j) (L[j]'h) = false) → AgK (L.take k)
  | 0, _, _ => by rw [List.take_zero]; exact AgK.nil
  | k + 1, hk, h => by
    rw [take_snoc L k hk]
    exact (AgF.kept (Nat.le_of_succ_le hk) (fun j hj hlt => h j hj (Nat.lt_succ_of_lt hlt))).snoc (h k hk (Nat.lt_succ_self _))
set_option maxHeartbeats 2000000 in
set_option maxRecDepth 100000 in
theorem jagree_any (A : Nat → Addr) (ad : Option Addr) (cap : Nat) (L : List S3) (c kk : Nat) (w : World) (hE : Held9 w A) (hL : SL w ad L) (hl : L.length ≤ 100000) (hF : AgF L c kk) :
    Calls Tryd.prog 11 #[.slice ad L.length cap] w fun e w' => ∃ v, e = .returned v ∧ FltV w' A c kk v w.heap.size ∧ Below w.heap.size w w' := by
  have HE := hid hE
  have HL := hid hL
  have HF := hid hF
  clear hE hL hF
  go_enter Tryd.func11, Tryd.ntmps11
  go_wp2_with fail
  go_loopw [3, 8] (fun u v wr => ∃ k : Nat, k ≤ kk ∧ u = .int .i64 (endS (L.take k)) ∧ v = .int .i64 (k : Int) ∧ Below w.heap.size w wr) (fun _ v _ => L.length - (intOf v).toNat)
  case atStart => exact ⟨0, Nat.zero_le _, rfl, rfl, Below.refl _ _⟩
  case round =>
    obtain ⟨k, hk, rfl, rfl, hb⟩ := hrel
    have HB := hid hb
    by_cases hlt : k < L.length
    · obtain ⟨b, o, rfl, y0, y1, y2⟩ := HL.out k hlt
      obtain ⟨⟨p, r, a⟩, HS⟩ : ∃ e, Hid (L[k]'hlt = e) := ⟨_, rfl⟩
      rw [HS.out] at y0 y1 y2
      replace y0 := cell_later hb y0
      replace y1 := cell_later hb y1
      replace y2 := cell_later hb y2
      obtain ⟨W2, HW2⟩ : ∃ W2, Hid (wr.alloc (.cells #[.int .i64 p, .int .i64 r, .int .i64 a] 34) = W2) := ⟨_, rfl⟩
      have hW2 := HW2.out
      have HB2 : Hid (Below w.heap.size w W2) := by rw [← HW2.out]; exact HB.out.alloc HB.out.size _
      have HRe : Hid (W2.heap[wr.heap.size]? = some (.cells #[.int .i64 p, .int .i64 r, .int .i64 a] 34 (0, 0))) := by rw [← HW2.out]; exact heap_alloc_new wr _
      obtain ⟨r0, r1, r2⟩ := threeE HRe.out
      have HK : Hid (AgK (L.take k)) := AgF.kept (by omega) (fun j hj hjk => HF.out.1 j hj (by omega))
      have HSn : Hid (L.take (k + 1) = L.take k ++ [⟨p, r, a⟩]) := by show _ = _; rw [take_snoc L k hlt, HS.out]
      have HD := hid (HK.out.dis ⟨p, r, a⟩)
      have HEs := hid (endS_snoc (L.take k) ⟨p, r, a⟩)
      rw [← HSn.out] at HEs
      obtain ⟨eN, HEn⟩ : ∃ x, Hid (endS (L.take (k + 1)) = x) := ⟨_, rfl⟩
      rw [HEn.out] at HEs
      obtain ⟨en, HEo⟩ : ∃ x, Hid (endS (L.take k) = x) := ⟨_, rfl⟩
      rw [HEo.out] at HEs HD ⊢
      have c8 := (HE.out.later HB2.out).cells.2.2.2.2.2.2.2.2
      clear hb
      cases hfin : finS ⟨p, r, a⟩ with
      | false =>
        have HP : Hid (decide (p = 2 ∨ p = 3) = false) := hfin
        have HX : Hid (eN = en) := HEs.out.trans (if_neg fun x => by have y := x.2; rw [hfin] at y; cases y)
        have hkk : k < kk := by
          rcases Nat.lt_or_ge k kk with x | x
          · exact x
          · obtain rfl : k = kk := by omega
            rcases HF.out.2 with ⟨-, h⟩ | ⟨h1, -, h3⟩
            · omega
            · rw [HS.out, HD.out, hfin] at h3; cases h3
        go_wp2_with fail
        refine (jisEnd_is p false _ HP.out).mono ?_
        rintro e w3 ⟨rfl, hx⟩
        subst w3
        go_wp2_with fail
        go_roundw
        case rel => exact ⟨k + 1, by omega, by rw [HEn.out, HX.out], by go_num, HB2.out⟩
        case measure => simp [intOf]; omega
      | true =>
        have HP : Hid (decide (p = 2 ∨ p = 3) = true) := hfin
        by_cases he : en = 0
        · subst he
          have HX : Hid (eN = p) := HEs.out.trans (if_pos ⟨rfl, hfin⟩)
          have hkk : k < kk := by
            rcases Nat.lt_or_ge k kk with x | x
            · exact x
            · obtain rfl : k = kk := by omega
              rcases HF.out.2 with ⟨-, h⟩ | ⟨h1, -, h3⟩
              · omega
              · rw [HS.out, HD.out, hfin] at h3; cases h3
          go_wp2_with fail
          refine (jisEnd_is p true _ HP.out).mono ?_
          rintro e w3 ⟨rfl, hx⟩
          subst w3
          go_wp2_with fail
          go_roundw
          case rel => exact ⟨k + 1, by omega, by rw [HEn.out, HX.out], by go_num, HB2.out⟩
          case measure => simp [intOf]; omega
        · have he2 : (en == 0) = false := beq_eq_false_iff_ne.2 he
          have HX : Hid (eN = en) := HEs.out.trans (if_neg fun x => he x.1)
          by_cases hp : p = en
          · have HP2 : Hid ((p != en) = false) := by show (p != en) = false; rw [hp]; simp
            have hkk : k < kk := by
              rcases Nat.lt_or_ge k kk with x | x
              · exact x
              · obtain rfl : k = kk := by omega
                rcases HF.out.2 with ⟨-, h⟩ | ⟨h1, -, h3⟩
                · omega
                · rw [HS.out, HD.out, hfin, HP2.out, Bool.and_false, Bool.and_false] at h3; cases h3
            subst hp
            clear HP2
            go_wp2_with fail
            refine (jisEnd_is p true _ HP.out).mono ?_
            rintro e w3 ⟨rfl, hx⟩
            subst w3
            go_wp2_with fail
            go_roundw
            case rel => exact ⟨k + 1, by omega, by rw [HEn.out, HX.out], by go_num, HB2.out⟩
            case measure => simp [intOf]; omega
          · have hp2 : (p != en) = true := bne_iff_ne.2 hp
            have HKK : Hid (k = kk ∧ c = 9) := by
              have hd : disB (L.take k) (L[k]'hlt) = true := by rw [HS.out, HD.out, hfin, hp2, bne_iff_ne.2 he]; rfl
              rcases Nat.lt_or_ge k kk with x | x
              · have := HF.out.1 k hlt x; rw [hd] at this; cases this
              · obtain rfl : k = kk := by omega
                rcases HF.out.2 with ⟨-, h⟩ | ⟨h1, h2, h3⟩
                · omega
                · exact ⟨rfl, h2⟩
            go_wp2_with fail
            refine (jisEnd_is p true _ HP.out).mono ?_
            rintro e w3 ⟨rfl, hx⟩
            subst w3
            go_wp2_with fail
            go_ret
            refine ⟨_, rfl, .inr ⟨8, W2.heap.size, HKK.out.2, HB2.out.size, rfl, ?_, ?_⟩, HB2.out.alloc HB2.out.size _⟩
            · rw [cell_of_row _ _ _ _ _ _ (heap_alloc_new W2 _), ← HKK.out.1]; rfl
            · rw [cell_of_row _ _ _ _ _ _ (heap_alloc_new W2 _)]; rfl
    · have HC0 : Hid (c = 0) := by
        rcases HF.out.2 with ⟨h1, -⟩ | ⟨h1, -⟩
        · exact h1
        · omega
      have hk2 : ¬ ((k : Int) < (L.length : Int)) := by omega
      go_wp2_with fail
      go_ret
      exact ⟨_, rfl, .inl ⟨HC0.out, rfl⟩, HB.out⟩
end Go.Proofs.YtadhpkopkkjmfaaDoor
