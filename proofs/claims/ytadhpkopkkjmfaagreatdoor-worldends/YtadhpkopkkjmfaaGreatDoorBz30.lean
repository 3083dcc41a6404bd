/-
  On the way to WCommitsProof, WAgreesProof, WEndsProof, WWaitsProof: ED EE.
-/
import Derived.Test.YtadhpkopkkjmfaaGreatDoorBz24
import Derived.Test.YtadhpkopkkjmfaaGreatDoorBz17
set_option maxHeartbeats 8000000
set_option maxRecDepth 100000
namespace Go.Proofs.YtadhpkopkkjmfaaGreatDoor
open Go.RowKit
def outE (d : Int) : List E3 → Int
  | [] => 0
  | e :: r => if e.d = d then e.p else outE d r
theorem outE_at (d : Int) : ∀ (L : List E3) (k : Nat) (h : k < L.length), (∀ j (hj : j < L.length), j < k → (L[j]'hj).d ≠ d) → (L[k]'h).d = d → outE d L = (L[k]'h).p
  | [], _, h, _, _ => absurd h (Nat.not_lt_zero _)
  | e :: r, 0, _, _, hd => if_pos hd
  | e :: r, k + 1, h, hn, hd => by
    have h0 : e.d ≠ d := hn 0 (Nat.succ_pos _) (Nat.succ_pos _)
    rw [outE, if_neg h0]
    exact outE_at d r k (by simpa using h) (fun j hj hlt => hn (j + 1) (by simpa using hj) (by omega)) hd
theorem outE_none (d : Int) : ∀ (L : List E3), (∀ j (hj : j < L.length), (L[j]'hj).d ≠ d) → outE d L = 0
  | [], _ => rfl
  | e :: r, hn => by
    have h0 : e.d ≠ d := hn 0 (Nat.succ_pos _)
    rw [outE, if_neg h0]
    exact outE_none d r (fun j hj => hn (j + 1) (by simpa using hj))
theorem joutcome_any (ad : Option Addr) (cap : Nat) (L : List E3) (d : Int) (w : World) (hL : EL w ad L) (hl : L.length ≤ 100000) :
    Calls Tryz.prog 23 #[.slice ad L.length cap, .int .i64 d] w fun e w' => e = .returned (.int .i64 (outE d L)) ∧ Below w.heap.size w w' := by
  have HL := hid hL
  clear hL
  go_enter Tryz.func23, Tryz.ntmps23
  go_wp2_with fail
  go_loopw [9] (fun v wr => ∃ k : Nat, k ≤ L.length ∧ v = .int .i64 (k : Int) ∧ Hid (∀ j (hj : j < L.length), j < k → (L[j]'hj).d ≠ d) ∧ Below w.heap.size w wr) (fun v _ => L.length - (intOf v).toNat)
  case atStart => exact ⟨0, Nat.zero_le _, rfl, fun j _ h => absurd h (Nat.not_lt_zero _), Below.refl _ _⟩
  case round =>
    obtain ⟨k, hk, rfl, HN, hb⟩ := hrel
    have HB := hid hb
    by_cases hlt : k < L.length
    · obtain ⟨b, o, rfl, y0, y1, y2⟩ := HL.out k hlt
      obtain ⟨⟨s, dd, p⟩, HS⟩ : ∃ e, Hid (L[k]'hlt = e) := ⟨_, rfl⟩
      rw [HS.out] at y0 y1 y2
      replace y0 := cell_later hb y0
      replace y1 := cell_later hb y1
      replace y2 := cell_later hb y2
      have HBn : ∀ o, Hid (Below w.heap.size w (wr.alloc o)) := fun o => hid (HB.out.alloc HB.out.size o)
      clear hb
      by_cases hd : dd = d
      · subst hd
        have HO : Hid (outE dd L = p) := by have := outE_at dd L k hlt HN.out (by rw [HS.out]); rw [HS.out] at this; exact this
        go_wp2_with fail
        go_ret
        exact ⟨ret_int HO.out.symm, (HBn _).out⟩
      · have HN2 : Hid (∀ j (hj : j < L.length), j < k + 1 → (L[j]'hj).d ≠ d) := fun j hj h => by
          rcases Nat.lt_succ_iff_lt_or_eq.1 h with x | rfl
          · exact HN.out j hj x
          · rw [HS.out]; exact hd
        go_wp2_with fail
        go_roundw
        case rel => exact ⟨k + 1, by omega, by go_num, HN2.out, (HBn _).out⟩
        case measure => simp [intOf]; omega
    · have HO : Hid (outE d L = 0) := outE_none d L (fun j hj => HN.out j hj (by omega))
      have hk2 : ¬ ((k : Int) < (L.length : Int)) := by omega
      go_wp2_with fail
      go_ret
      exact ⟨ret_int HO.out.symm, HB.out⟩
theorem sizeFt : (Tryz.prog.info? 55).map (·.size) = some 2 := by kernel_rfl
def fltV (c a : Int) : Value := .agg #[.int .i64 c, .int .i64 a]
theorem rfine_any (w : World) : Calls Tryz.prog 73 #[] w fun e w' => e = .returned (fltV 0 (-1)) ∧ Below w.heap.size w w' := by
  go_enter Tryz.func73, Tryz.ntmps73
  go_wp2_with fail
  refine bodyPost_ret (results_cell_row rfl _ _ w.heap.size 55 #[.int .i64 0, .int .i64 (-1)] (0, 0) _ rfl (heap_alloc_new w _) Tryz.underlying55 rfl sizeFt) rfl ?_
  exact ⟨rfl, (Below.refl _ _).alloc (Nat.le_refl _) _⟩
theorem rfin_is (p : Int) (b : Bool) (w : World) (hb : decide (p = 2 ∨ p = 3) = b) : Calls Tryz.prog 37 #[.int .i64 p] w fun e w' => e = .returned (.bool b) ∧ w' = w := by
  subst hb
  by_cases h2 : p = 2
  · subst h2
    go_enter Tryz.func37, Tryz.ntmps37
    go_wp2_with fail
    go_ret
    exact ⟨rfl, rfl⟩
  · by_cases h3 : p = 3
    · subst h3
      go_enter Tryz.func37, Tryz.ntmps37
      go_wp2_with fail
      go_ret
      exact ⟨rfl, rfl⟩
    · rw [decide_eq_false (show ¬ (p = 2 ∨ p = 3) by omega)]
      have b2 : (p == 2) = false := beq_eq_false_iff_ne.2 h2
      have b3 : (p == 3) = false := beq_eq_false_iff_ne.2 h3
      go_enter Tryz.func37, Tryz.ntmps37
      go_wp2_with fail
      go_ret
      exact ⟨rfl, rfl⟩
theorem row2_set {w : World} {b : Nat} {x y : Value} {t : TypeId} (h : w.heap[b]? = some (.cells #[x, y] t (0, 0))) (u v : Value) : ((w.setCell ⟨b, 0, none⟩ u).setCell ⟨b, 1, none⟩ v).heap[b]? = some (.cells #[u, v] t (0, 0)) := by
  have e1 := heap_setCell_same w b 0 _ _ u h
  rw [heap_setCell_same _ b 1 _ _ v e1]
  rfl
theorem two_cells {w : World} {b : Nat} {a c : Value} {t : TypeId} {f : Nat × Nat} (h : w.heap[b]? = some (.cells #[a, c] t f)) : w.cell? ⟨b, 0, none⟩ = some a ∧ w.cell? ⟨b, 1, none⟩ = some c :=
  ⟨by rw [cell_of_row _ _ _ _ _ _ h]; rfl, by rw [cell_of_row _ _ _ _ _ _ h]; rfl⟩
theorem any_take_false {L : List E3} {k : Nat} {f : E3 → Bool} (h : ∀ j (hj : j < L.length), j < k → f (L[j]'hj) = false) (hk : k ≤ L.length) : (L.take k).any f = false := by
  rw [List.any_eq_false]
  intro x hx
  obtain ⟨j, hj, rfl⟩ := List.getElem_of_mem hx
  rw [List.length_take] at hj
  rw [List.getElem_take, h j (by omega) (by omega)]
  decide
theorem any_take_true {L : List E3} {k j : Nat} {f : E3 → Bool} (hj : j < L.length) (hk : j < k) (h : f (L[j]'hj) = true) : (L.take k).any f = true := by
  rw [List.any_eq_true]
  refine ⟨L[j]'hj, ?_, h⟩
  exact List.mem_iff_getElem.2 ⟨j, by rw [List.length_take]; omega, by rw [List.getElem_take]⟩
theorem evC_9 {n : Int} {L : List E3} {k j : Nat} {s d p : Int} (hok : bdB n ⟨s, d, p⟩ = true) (hj : j < L.length) (hjk : j < k) (h : decide ((L[j]'hj).d = d ∧ (L[j]'hj).p ≠ p) = true) : evC n (L.take k) ⟨s, d, p⟩ = 9 := by
  have h2 : spB (L.take k) ⟨s, d, p⟩ = true := any_take_true hj hjk h
  unfold evC
  rw [if_neg (by rw [hok]; decide), if_pos h2]
theorem evC_8 {n : Int} {L : List E3} {k j : Nat} {s d p : Int} (hok : bdB n ⟨s, d, p⟩ = true) (hk : k ≤ L.length) (hn : ∀ q (hq : q < L.length), q < k → decide ((L[q]'hq).d = d ∧ (L[q]'hq).p ≠ p) = false) (hj : j < L.length) (hjk : j < k) (h : decide ((L[j]'hj).d = d ∧ (L[j]'hj).s = s) = true) : evC n (L.take k) ⟨s, d, p⟩ = 8 := by
  have h1 : spB (L.take k) ⟨s, d, p⟩ = false := any_take_false hn hk
  have h2 : heB (L.take k) ⟨s, d, p⟩ = true := any_take_true hj hjk h
  unfold evC
  rw [if_neg (by rw [hok]; decide), if_neg (by rw [h1]; decide), if_pos h2]
theorem evC_0 {n : Int} {L : List E3} {k : Nat} {s d p : Int} (hok : bdB n ⟨s, d, p⟩ = true) (hk : k ≤ L.length) (hn : ∀ q (hq : q < L.length), q < k → decide ((L[q]'hq).d = d ∧ (L[q]'hq).p ≠ p) = false) (hm : ∀ q (hq : q < L.length), q < k → decide ((L[q]'hq).d = d ∧ (L[q]'hq).s = s) = false) : evC n (L.take k) ⟨s, d, p⟩ = 0 := by
  have h1 : spB (L.take k) ⟨s, d, p⟩ = false := any_take_false hn hk
  have h2 : heB (L.take k) ⟨s, d, p⟩ = false := any_take_false hm hk
  unfold evC
  rw [if_neg (by rw [hok]; decide), if_neg (by rw [h1]; decide), if_neg (by rw [h2]; decide)]
theorem revf_ok (ad : Option Addr) (cap : Nat) (L : List E3) (n : Int) (c kk : Nat) (r1 r2 : Int) (w : World) (h1 : 1 ≤ n) (h7 : n ≤ 7) (hL : EL w ad L) (hl : L.length ≤ 100000) (hF : EvF n L c kk) (hr1 : r1 = c) (hr2 : r2 = if c = 0 then -1 else (kk : Int)) :
    Calls Tryz.prog 29 #[.slice ad L.length cap, .int .i64 n] w fun e w' => e = .returned (fltV r1 r2) ∧ Below w.heap.size w w' := by
  have HR0 := hid (heap_alloc_new w (.cells #[.int .i64 0, .int .i64 0] 55))
  obtain ⟨W, HW⟩ : ∃ W, Hid (w.alloc (.cells #[.int .i64 0, .int .i64 0] 55) = W) := ⟨_, rfl⟩
  rw [HW.out] at HR0
  have hW := HW.out
  have HB0 : Hid (Below w.heap.size w W) := by rw [← HW.out]; exact (Below.refl _ _).alloc (Nat.le_refl _) _
  have HL := hid (hL.later HB0.out)
  have HF := hid hF
  have HR := hid (And.intro hr1 hr2)
  have H7 := hid h7
  -- what a store into the result comes to
  have HSt : Hid (∀ wr, Below W.heap.size W wr → wr.cell? ⟨w.heap.size, 0, none⟩ = some (.int .i64 0) ∧ wr.cell? ⟨w.heap.size, 1, none⟩ = some (.int .i64 0) ∧ wr.frozen? ⟨w.heap.size, 0, none⟩ = false ∧ wr.frozen? ⟨w.heap.size, 1, none⟩ = false ∧
      ∀ x y : Int, ((wr.setCell ⟨w.heap.size, 0, none⟩ (.int .i64 x)).setCell ⟨w.heap.size, 1, none⟩ (.int .i64 y)).heap[w.heap.size]? = some (.cells #[.int .i64 x, .int .i64 y] 55 (0, 0)) ∧ Below w.heap.size w ((wr.setCell ⟨w.heap.size, 0, none⟩ (.int .i64 x)).setCell ⟨w.heap.size, 1, none⟩ (.int .i64 y))) := fun wr hb => by
    have hr := row_later hb HR0.out
    exact ⟨(two_cells hr).1, (two_cells hr).2, frozen_of_row _ _ 0 _ _ hr, frozen_of_row _ _ 1 _ _ hr, fun x y => ⟨row2_set hr _ _, ((below_trans HB0.out hb).setCell (Nat.le_refl _) _).setCell (Nat.le_refl _) _⟩⟩
  unfold fltV
  clear hL hF hr1 hr2
  go_enter Tryz.func29, Tryz.ntmps29
  go_wp2_with fail
  go_loopw [5] (fun v wr => ∃ k : Nat, k ≤ kk ∧ v = .int .i64 (k : Int) ∧ Below W.heap.size W wr) (fun v _ => L.length - (intOf v).toNat)
  case atStart => exact ⟨0, Nat.zero_le _, rfl, Below.refl _ _⟩
  case round =>
    obtain ⟨k, hk, rfl, hb⟩ := hrel
    have HB := hid hb
    by_cases hlt : k < L.length
    · obtain ⟨b, o, rfl, y0, y1, y2⟩ := HL.out k hlt
      obtain ⟨⟨s, d, p⟩, HS⟩ : ∃ e, Hid (L[k]'hlt = e) := ⟨_, rfl⟩
      rw [HS.out] at y0 y1 y2
      replace y0 := cell_later hb y0
      replace y1 := cell_later hb y1
      replace y2 := cell_later hb y2
      obtain ⟨W2, HW2⟩ : ∃ W2, Hid (wr.alloc (.cells #[.int .i64 s, .int .i64 d, .int .i64 p] 121) = W2) := ⟨_, rfl⟩
      have hW2 := HW2.out
      have HB2 : Hid (Below W.heap.size W W2) := by rw [← HW2.out]; exact HB.out.alloc HB.out.size _
      have HRe : Hid (W2.heap[wr.heap.size]? = some (.cells #[.int .i64 s, .int .i64 d, .int .i64 p] 121 (0, 0))) := by rw [← HW2.out]; exact heap_alloc_new wr _
      obtain ⟨z0, z1, z2⟩ := threeE HRe.out
      obtain ⟨x3, H3⟩ : ∃ x, Hid (decide (p = 2 ∨ p = 3) = x) := ⟨_, rfl⟩
      obtain ⟨g0, g1, g2, g3, g4⟩ := HSt.out W2 HB2.out
      have HBd : Hid (bdB n ⟨s, d, p⟩ = false → r1 = 2 ∧ r2 = (k : Int)) := fun hbd => by
        have hc : evC n (L.take k) ⟨s, d, p⟩ = 2 := by unfold evC; rw [if_pos hbd]
        rcases Nat.lt_or_ge k kk with x | x
        · have := HF.out.1 k hlt x; rw [HS.out, hc] at this; cases this
        · obtain rfl : k = kk := by omega
          rcases HF.out.2 with ⟨-, h⟩ | ⟨h, h2, h3⟩
          · omega
          · rw [HS.out, hc] at h3
            subst h3
            exact ⟨HR.out.1, HR.out.2⟩
      clear hb
      by_cases k1 : s < 0
      · have HBad := hid (HBd.out (decide_eq_false (by simp only; omega)))
        go_wp2_with fail
        refine (rfin_is p x3 _ H3.out).mono ?_
        rintro e w3 ⟨rfl, hx⟩
        subst w3
        go_wp2_with fail
        refine bodyPost_ret (results_cell_row rfl _ _ w.heap.size 55 _ (0, 0) _ rfl (g4 _ _).1 Tryz.underlying55 rfl sizeFt) rfl ?_
        exact ⟨by rw [HBad.out.1, HBad.out.2], (g4 _ _).2⟩
      · have k1' : 0 ≤ s := by omega
        by_cases k2 : n ≤ s
        · have HBad := hid (HBd.out (decide_eq_false (by simp only; omega)))
          go_wp2_with fail
          refine (rfin_is p x3 _ H3.out).mono ?_
          rintro e w3 ⟨rfl, hx⟩
          subst w3
          go_wp2_with fail
          refine bodyPost_ret (results_cell_row rfl _ _ w.heap.size 55 _ (0, 0) _ rfl (g4 _ _).1 Tryz.underlying55 rfl sizeFt) rfl ?_
          exact ⟨by rw [HBad.out.1, HBad.out.2], (g4 _ _).2⟩
        · have k2' : s < n := by omega
          by_cases k3 : d < 0
          · have HBad := hid (HBd.out (decide_eq_false (by simp only; omega)))
            go_wp2_with fail
            refine (rfin_is p x3 _ H3.out).mono ?_
            rintro e w3 ⟨rfl, hx⟩
            subst w3
            go_wp2_with fail
            refine bodyPost_ret (results_cell_row rfl _ _ w.heap.size 55 _ (0, 0) _ rfl (g4 _ _).1 Tryz.underlying55 rfl sizeFt) rfl ?_
            exact ⟨by rw [HBad.out.1, HBad.out.2], (g4 _ _).2⟩
          · have k3' : 0 ≤ d := by omega
            by_cases k4 : 6 ≤ d
            · have HBad := hid (HBd.out (decide_eq_false (by simp only; omega)))
              go_wp2_with fail
              refine (rfin_is p x3 _ H3.out).mono ?_
              rintro e w3 ⟨rfl, hx⟩
              subst w3
              go_wp2_with fail
              refine bodyPost_ret (results_cell_row rfl _ _ w.heap.size 55 _ (0, 0) _ rfl (g4 _ _).1 Tryz.underlying55 rfl sizeFt) rfl ?_
              exact ⟨by rw [HBad.out.1, HBad.out.2], (g4 _ _).2⟩
            · have k4' : d < 6 := by omega
              cases x3 with
              | false =>
                have HBad := hid (HBd.out (decide_eq_false (by have := of_decide_eq_false H3.out; simp only; omega)))
                go_wp2_with fail
                refine (rfin_is p false _ H3.out).mono ?_
                rintro e w3 ⟨rfl, hx⟩
                subst w3
                go_wp2_with fail
                refine bodyPost_ret (results_cell_row rfl _ _ w.heap.size 55 _ (0, 0) _ rfl (g4 _ _).1 Tryz.underlying55 rfl sizeFt) rfl ?_
                exact ⟨by rw [HBad.out.1, HBad.out.2], (g4 _ _).2⟩
              | true =>
                have HOk : Hid (bdB n ⟨s, d, p⟩ = true) := decide_eq_true ⟨⟨k1', k2'⟩, ⟨k3', k4'⟩, of_decide_eq_true H3.out⟩
                have HCC : Hid (∀ cc, evC n (L.take k) ⟨s, d, p⟩ = cc → cc ≠ 0 → r1 = (cc : Int) ∧ r2 = (k : Int)) := fun cc hc h0 => by
                  rcases Nat.lt_or_ge k kk with x | x
                  · have := HF.out.1 k hlt x; rw [HS.out, hc] at this; exact absurd this h0
                  · obtain rfl : k = kk := by omega
                    rcases HF.out.2 with ⟨-, h⟩ | ⟨h, h2, h3⟩
                    · omega
                    · rw [HS.out, hc] at h3
                      subst h3
                      refine ⟨HR.out.1, ?_⟩
                      rw [HR.out.2, if_neg h0]
                have HX8 : Hid (∀ j (hj : j < L.length), j < k → decide ((L[j]'hj).d = d ∧ (L[j]'hj).p ≠ p) = true → r1 = 9 ∧ r2 = (k : Int)) := fun j hj hjk h => HCC.out 9 (evC_9 HOk.out hj hjk h) (by decide)
                have HX9 : Hid ((∀ q (hq : q < L.length), q < k → decide ((L[q]'hq).d = d ∧ (L[q]'hq).p ≠ p) = false) → ∀ j (hj : j < L.length), j < k → decide ((L[j]'hj).d = d ∧ (L[j]'hj).s = s) = true → r1 = 8 ∧ r2 = (k : Int)) := fun hn j hj hjk h => HCC.out 8 (evC_8 HOk.out (by omega) hn hj hjk h) (by decide)
                have HXl : Hid ((∀ q (hq : q < L.length), q < k → decide ((L[q]'hq).d = d ∧ (L[q]'hq).p ≠ p) = false) → (∀ q (hq : q < L.length), q < k → decide ((L[q]'hq).d = d ∧ (L[q]'hq).s = s) = false) → k < kk) := fun hn hm => by
                  have hc : evC n (L.take k) ⟨s, d, p⟩ = 0 := evC_0 HOk.out (by omega) hn hm
                  rcases Nat.lt_or_ge k kk with x | x
                  · exact x
                  · obtain rfl : k = kk := by omega
                    rcases HF.out.2 with ⟨-, h⟩ | ⟨h, h2, h3⟩
                    · omega
                    · rw [HS.out, hc] at h3; exact absurd h3.symm h2
                go_wp2_with fail
                refine (rfin_is p true _ H3.out).mono ?_
                rintro e w3 ⟨rfl, hx⟩
                subst w3
                go_wp2_with fail
                clear g0 g1 g2 g3 g4
                go_loopw [8] (fun v wr2 => ∃ j : Nat, j ≤ k ∧ v = .int .i64 (j : Int) ∧ Hid (∀ q (hq : q < L.length), q < j → decide ((L[q]'hq).d = d ∧ (L[q]'hq).p ≠ p) = false) ∧ Below W2.heap.size W2 wr2) (fun v _ => k - (intOf v).toNat)
                case atStart => exact ⟨0, Nat.zero_le _, rfl, fun q _ h => absurd h (Nat.not_lt_zero _), Below.refl _ _⟩
                case round =>
                  obtain ⟨j, hj, rfl, HJ, hbj⟩ := hrel
                  have HBj := hid hbj
                  by_cases hjk : j < k
                  · have hjl : j < L.length := by omega
                    obtain ⟨b', o', eb, x0, x1, x2⟩ := HL.out j hjl
                    obtain ⟨rfl, rfl⟩ : b = b' ∧ o = o' := by cases eb; exact ⟨rfl, rfl⟩
                    obtain ⟨⟨s', d', p'⟩, HSj⟩ : ∃ e, Hid (L[j]'hjl = e) := ⟨_, rfl⟩
                    rw [HSj.out] at x0 x1 x2
                    have HBw := hid (below_trans HB2.out hbj)
                    replace x0 := cell_later HBw.out x0
                    replace x1 := cell_later HBw.out x1
                    replace x2 := cell_later HBw.out x2
                    obtain ⟨z0, z1, z2⟩ := threeE (row_later hbj HRe.out)
                    obtain ⟨q0, q1, q2, q3, q4⟩ := HSt.out _ (below_drewN HBw.out 0)
                    clear hbj eb q0 q1 q2 q3 q4
                    have hStep : ∀ t : Bool, decide (d' = d ∧ p' ≠ p) = t → t = false → Hid (∀ q (hq : q < L.length), q < j + 1 → decide ((L[q]'hq).d = d ∧ (L[q]'hq).p ≠ p) = false) := fun t ht hf q hq h => by
                      rcases Nat.lt_succ_iff_lt_or_eq.1 h with x | rfl
                      · exact HJ.out q hq x
                      · rw [HSj.out]; exact ht.trans hf
                    by_cases e1 : d' = d
                    · by_cases e2 : p' ≠ p
                      · have HBad : Hid (r1 = 9 ∧ r2 = (k : Int)) := HX8.out j hjl hjk (by rw [HSj.out]; exact decide_eq_true ⟨e1, e2⟩)
                        clear hStep
                        subst e1
                        have e4 : (p' != p) = true := bne_iff_ne.2 e2
                        go_wp2_with fail
                        go_quiet (fail)
                        obtain ⟨g0, g1, g2, g3, g4⟩ := HSt.out _ (below_drewN HBw.out nq)
                        go_wp2_with fail
                        refine bodyPost_ret (results_cell_row rfl _ _ w.heap.size 55 _ (0, 0) _ rfl (g4 _ _).1 Tryz.underlying55 rfl sizeFt) rfl ?_
                        exact ⟨by rw [HBad.out.1, HBad.out.2], (g4 _ _).2⟩
                      · have HJ2 := hStep _ rfl (decide_eq_false fun h => e2 h.2)
                        clear hStep
                        subst e1
                        obtain rfl : p' = p := Classical.not_not.1 e2
                        clear e2
                        go_wp2_with fail
                        go_quiet (fail)
                        go_wp2_with fail
                        go_roundw
                        case rel => exact ⟨j + 1, by omega, by go_num, HJ2.out, below_drewN HBj.out _⟩
                        case measure => simp [intOf]; omega
                    · have HJ2 := hStep _ rfl (decide_eq_false fun h => e1 h.1)
                      clear hStep
                      have e3 : (d' == d) = false := beq_eq_false_iff_ne.2 e1
                      go_wp2_with fail
                      go_quiet (fail)
                      go_wp2_with fail
                      go_roundw
                      case rel => exact ⟨j + 1, by omega, by go_num, HJ2.out, below_drewN HBj.out _⟩
                      case measure => simp [intOf]; omega
                  · have hjk2 : ¬ ((j : Int) < (k : Int)) := by omega
                    have HN8 : Hid (∀ q (hq : q < L.length), q < k → decide ((L[q]'hq).d = d ∧ (L[q]'hq).p ≠ p) = false) := fun q hq h => HJ.out q hq (by omega)
                    replace HX9 := hid (HX9.out HN8.out)
                    have HBp := HBj
                    clear hbj
                    go_wp2_with fail
                    go_loopw [9] (fun v wr2 => ∃ j : Nat, j ≤ k ∧ v = .int .i64 (j : Int) ∧ Hid (∀ q (hq : q < L.length), q < j → decide ((L[q]'hq).d = d ∧ (L[q]'hq).s = s) = false) ∧ Below W2.heap.size W2 wr2) (fun v _ => k - (intOf v).toNat)
                    case atStart => exact ⟨0, Nat.zero_le _, rfl, fun q _ h => absurd h (Nat.not_lt_zero _), HBp.out⟩
                    case round =>
                      obtain ⟨j, hj, rfl, HJ, hbj⟩ := hrel
                      have HBj := hid hbj
                      by_cases hjk : j < k
                      · have hjl : j < L.length := by omega
                        obtain ⟨b', o', eb, x0, x1, x2⟩ := HL.out j hjl
                        obtain ⟨rfl, rfl⟩ : b = b' ∧ o = o' := by cases eb; exact ⟨rfl, rfl⟩
                        obtain ⟨⟨s', d', p'⟩, HSj⟩ : ∃ e, Hid (L[j]'hjl = e) := ⟨_, rfl⟩
                        rw [HSj.out] at x0 x1 x2
                        have HBw := hid (below_trans HB2.out hbj)
                        replace x0 := cell_later HBw.out x0
                        replace x1 := cell_later HBw.out x1
                        replace x2 := cell_later HBw.out x2
                        obtain ⟨z0, z1, z2⟩ := threeE (row_later hbj HRe.out)
                        obtain ⟨q0, q1, q2, q3, q4⟩ := HSt.out _ (below_drewN HBw.out 0)
                        clear hbj eb q0 q1 q2 q3 q4
                        have hStep : ∀ t : Bool, decide (d' = d ∧ s' = s) = t → t = false → Hid (∀ q (hq : q < L.length), q < j + 1 → decide ((L[q]'hq).d = d ∧ (L[q]'hq).s = s) = false) := fun t ht hf q hq h => by
                          rcases Nat.lt_succ_iff_lt_or_eq.1 h with x | rfl
                          · exact HJ.out q hq x
                          · rw [HSj.out]; exact ht.trans hf
                        by_cases e1 : d' = d
                        · by_cases e2 : s' = s
                          · have HBad : Hid (r1 = 8 ∧ r2 = (k : Int)) := HX9.out j hjl hjk (by rw [HSj.out]; exact decide_eq_true ⟨e1, e2⟩)
                            clear hStep
                            subst e1
                            subst e2
                            go_wp2_with fail
                            go_quiet (fail)
                            obtain ⟨g0, g1, g2, g3, g4⟩ := HSt.out _ (below_drewN HBw.out nq)
                            go_wp2_with fail
                            refine bodyPost_ret (results_cell_row rfl _ _ w.heap.size 55 _ (0, 0) _ rfl (g4 _ _).1 Tryz.underlying55 rfl sizeFt) rfl ?_
                            exact ⟨by rw [HBad.out.1, HBad.out.2], (g4 _ _).2⟩
                          · have HJ2 := hStep _ rfl (decide_eq_false fun h => e2 h.2)
                            clear hStep
                            subst e1
                            have e4 : (s' == s) = false := beq_eq_false_iff_ne.2 e2
                            go_wp2_with fail
                            go_quiet (fail)
                            go_wp2_with fail
                            go_roundw
                            case rel => exact ⟨j + 1, by omega, by go_num, HJ2.out, below_drewN HBj.out _⟩
                            case measure => simp [intOf]; omega
                        · have HJ2 := hStep _ rfl (decide_eq_false fun h => e1 h.1)
                          clear hStep
                          have e3 : (d' == d) = false := beq_eq_false_iff_ne.2 e1
                          go_wp2_with fail
                          go_quiet (fail)
                          go_wp2_with fail
                          go_roundw
                          case rel => exact ⟨j + 1, by omega, by go_num, HJ2.out, below_drewN HBj.out _⟩
                          case measure => simp [intOf]; omega
                      · have hjk2 : ¬ ((j : Int) < (k : Int)) := by omega
                        have HN9 : Hid (∀ q (hq : q < L.length), q < k → decide ((L[q]'hq).d = d ∧ (L[q]'hq).s = s) = false) := fun q hq h => HJ.out q hq (by omega)
                        have hkk := HXl.out HN8.out HN9.out
                        have HBe := hid (below_trans HB2.out HBj.out)
                        clear hbj
                        go_wp2_with fail
                        go_roundw
                        case rel => exact ⟨k + 1, by omega, by go_num, HBe.out⟩
                        case measure => simp [intOf]; omega
    · have HC0 : Hid (r1 = 0 ∧ r2 = -1) := by
        rcases HF.out.2 with ⟨h1, h2⟩ | ⟨h1, -⟩
        · subst h1; exact ⟨HR.out.1, HR.out.2⟩
        · omega
      have hk2 : ¬ ((k : Int) < (L.length : Int)) := by omega
      have HFn := hid (rfine_any wr)
      unfold fltV at HFn
      go_wp2_with fail
      refine HFn.out.mono ?_
      rintro e w3 ⟨rfl, hb3⟩
      obtain ⟨g0, g1, g2, g3, g4⟩ := HSt.out w3 (below_trans hb hb3)
      clear hb hb3
      go_wp2_with fail
      refine bodyPost_ret (results_cell_row rfl _ _ w.heap.size 55 _ (0, 0) _ rfl (g4 _ _).1 Tryz.underlying55 rfl sizeFt) rfl ?_
      exact ⟨by rw [HC0.out.1, HC0.out.2], (g4 _ _).2⟩
end Go.Proofs.YtadhpkopkkjmfaaGreatDoor
