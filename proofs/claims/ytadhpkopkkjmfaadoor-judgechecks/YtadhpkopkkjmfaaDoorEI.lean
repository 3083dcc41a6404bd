/-
  THE LAW JudgeChecks, along its loops.
-/
import Derived.Test.YtadhpkopkkjmfaaDoorEH
namespace Go.Proofs.YtadhpkopkkjmfaaDoor
open Go.RowKit

/-- What the document finds of states: no fault, or the first. -/
def agR (c k : Nat) : Int × Int := (c, if c = 0 then -1 else (k : Int))
theorem outE_drop (d : Int) (L : List E3) (k : Nat) (h : k < L.length) : outE d (L.drop k) = if (L[k]'h).d = d then (L[k]'h).p else outE d (L.drop (k + 1)) := by
  rw [List.drop_eq_getElem_cons h]; rfl
theorem faulted_agg (A : Nat → Addr) (c k base : Nat) (v : Value) (r1 r2 : Int) (w : World) (hE : Held9 w A) (hc : c ≤ 9) (hv : FltV w A c k v base) (h1 : r1 = (agR c k).1) (h2 : r2 = (agR c k).2) :
    Calls Tryd.prog 7 #[v, .agg #[.int .i64 r1, .int .i64 r2]] w fun e w' => e = .returned (.bool true) ∧ Below w.heap.size w w' := faulted_flt A c k base v r1 r2 w hE hc hv h1 h2
set_option maxHeartbeats 8000000 in
set_option maxRecDepth 100000 in
theorem jlaw_any (A : Nat → Addr) (ad : Option Addr) (cap : Nat) (L : List E3) (n d : Int) (at_ : Option Addr) (capT : Nat) (T : List S3) (w : World) (hE : Held9 w A) (hL : EL w ad L) (hT : SL w at_ T) (hn : at_ = none → capT = 0) :
    Calls Tryd.prog 3 #[.slice ad L.length cap, .int .i64 n, .int .i64 d, .slice at_ T.length capT] w fun e w' => e = .returned (.bool true) ∧ Below w.heap.size w w' := by
  have HE := hid hE
  have HL := hid hL
  have HT := hid hT
  have HN := hid hn
  obtain ⟨i0, hi, hz0, hz1, hz2⟩ := info_parts Tryd.infoEvE
  clear hE hL hT hn
  by_cases h60 : 60 < L.length
  · have e1 : (60 : Int) < (L.length : Int) := by omega
    go_enter Tryd.func3, Tryd.ntmps3
    go_wp2_with fail
    refine (judged_any A w HE.out).mono ?_
    rintro e w1 ⟨rfl, hb⟩
    have HB1 := hid hb
    clear hb
    go_wp2_with fail
    go_ret
    exact ⟨rfl, HB1.out⟩
  · have e1 : ¬ (60 : Int) < (L.length : Int) := by omega
    by_cases h60t : 60 < T.length
    · have e2 : (60 : Int) < (T.length : Int) := by omega
      go_enter Tryd.func3, Tryd.ntmps3
      go_wp2_with fail
      refine (judged_any A w HE.out).mono ?_
      rintro e w1 ⟨rfl, hb⟩
      have HB1 := hid hb
      clear hb
      go_wp2_with fail
      go_ret
      exact ⟨rfl, HB1.out⟩
    · have e2 : ¬ (60 : Int) < (T.length : Int) := by omega
      go_enter Tryd.func3, Tryd.ntmps3
      go_wp2_with fail
      refine (judged_any A w HE.out).mono ?_
      rintro e w1 ⟨rfl, hb⟩
      have HB1 := hid hb
      clear hb
      go_wp2_with fail
      go_loopw [10, 12] (fun v i wr => ∃ k : Nat, k ≤ L.length ∧ i = .int .i64 (k : Int) ∧ wr.ownsRow w.heap.size 28 3 v k (evCells (L.take k)) ∧ Below w.heap.size w wr) (fun _ i _ => L.length - (intOf i).toNat)
      case atStart => exact ⟨0, Nat.zero_le _, rfl, World.ownsRow_nil _ _ _ _, HB1.out⟩
      case round =>
        obtain ⟨k, hk, rfl, hown, hb⟩ := hrel
        have HB := hid hb
        by_cases hlt : k < L.length
        · obtain ⟨b, o, rfl, y0, y1, y2⟩ := HL.out k hlt
          obtain ⟨⟨es, ed, ep⟩, HS⟩ : ∃ e, Hid (L[k]'hlt = e) := ⟨_, rfl⟩
          rw [HS.out] at y0 y1 y2
          replace y0 := cell_later hb y0
          replace y1 := cell_later hb y1
          replace y2 := cell_later hb y2
          obtain ⟨W2, HW2⟩ : ∃ W2, Hid (wr.drew.alloc (.cells #[.int .i64 es, .int .i64 ed, .int .i64 ep] 28) = W2) := ⟨_, rfl⟩
          have hW2 := HW2.out
          have HB2 : Hid (Below wr.heap.size wr W2) := by rw [← HW2.out]; exact (Below.refl _ _).drew.alloc (Nat.le_refl _) _
          have HO : Hid (W2.ownsRow w.heap.size 28 3 u10 k (evCells (L.take k))) := own_later hown HB2.out (Nat.le_refl _)
          have HLit : Hid (∀ j u, (e3L ⟨es, ed, ep⟩)[j]? = some u → W2.cell? ((⟨wr.heap.size, 0, none⟩ : Addr).add j) = some u) := by rw [← HW2.out]; exact lit_cellsE wr.drew 28 (e3L ⟨es, ed, ep⟩)
          have HTk := hid (evCells_take L k hlt)
          rw [HS.out] at HTk
          have hbs : w.heap.size ≤ W2.heap.size := Nat.le_trans hb.size HB2.out.size
          have hk60 : k ≤ 1000000000000 := by omega
          have HBo : Hid (∀ w', W2.grownBy w' u10.ownBlock → Below w.heap.size w w') := fun w' hg => Below.grown (below_trans HB.out HB2.out) hg hbs (fun q hq => (HO.out.lt q hq).1)
          clear hb hown
          go_wp2_with fail
          go_region_law ((refine step_append_ev1 (by rfl) _ _ (by rfl) w.heap.size k u10 (evCells (L.take k)) ⟨wr.heap.size, 0, none⟩ 1 ⟨es, ed, ep⟩ (by rfl) (by rfl) (by exact HO.out) (by exact HLit.out) hk60 hbs ?_; intro ad' cap' w' hown hg; have HS2 := hid (And.intro hown (HBo.out w' hg)); clear hown hg))
          all_goals go_wp2_with fail
          all_goals go_roundw
          all_goals first | (simp [intOf]; omega) | skip
          all_goals exact ⟨k + 1, by omega, by go_num, by rw [HTk.out]; exact HS2.out.1, HS2.out.2⟩
        · obtain rfl : k = L.length := by omega
          rw [List.take_length] at hown
          obtain ⟨adO, capO, rfl, -, -, hO⟩ := own_el hown
          have HOw := hid hO
          have hk2 : ¬ ((L.length : Int) < (L.length : Int)) := by omega
          clear hown hb hO
          go_wp2_with fail
          go_loopw [11, 13] (fun u i wz => ∃ k : Nat, k ≤ L.length ∧ i = .int .i64 ((k : Int) - 1) ∧ u = .int .i64 (outE d (L.drop k)) ∧ wz = wr) (fun _ i _ => (intOf i + 1).toNat)
          case atStart => exact ⟨L.length, Nat.le_refl _, rfl, by rw [List.drop_length]; rfl, rfl⟩
          case round =>
            obtain ⟨k, hk, rfl, rfl, hz⟩ := hrel
            subst hz
            cases k with
            | succ k =>
              have hlt : k < L.length := by omega
              obtain ⟨b, o, rfl, y0, y1, y2⟩ := (HL.out.later HB.out) k hlt
              obtain ⟨⟨es, ed, ep⟩, HS⟩ : ∃ e, Hid (L[k]'hlt = e) := ⟨_, rfl⟩
              rw [HS.out] at y0 y1 y2
              have HD := hid (outE_drop d L k hlt)
              rw [HS.out] at HD
              rw [show (((k + 1 : Nat) : Int) - 1) = (k : Int) by omega]
              by_cases hd : ed = d
              · subst hd
                have HD2 : Hid (outE ed (L.drop k) = ep) := HD.out.trans (if_pos rfl)
                clear HD
                go_wp2_with fail
                go_roundw
                case rel => exact ⟨k, by omega, by go_num, by rw [HD2.out], trivial⟩
                case measure => simp [intOf]
              · have HD2 : Hid (outE d (L.drop k) = outE d (L.drop (k + 1))) := HD.out.trans (if_neg hd)
                have e3 : (ed == d) = false := beq_eq_false_iff_ne.2 hd
                clear HD
                go_wp2_with fail
                go_roundw
                case rel => exact ⟨k, by omega, by go_num, by rw [HD2.out], trivial⟩
                case measure => simp [intOf]
            | zero =>
              rw [List.drop_zero, show (((0 : Nat) : Int) - 1) = -1 from rfl]
              have HFn := hid (rfine_any wr)
              unfold fltV at HFn
              go_wp2_with fail
              refine HFn.out.mono ?_
              rintro e w5 ⟨rfl, hb5⟩
              have HB5 := hid (below_trans HB.out hb5)
              have HO5 := hid (HOw.out.later hb5)
              clear hb5
              obtain ⟨c, kk, HF⟩ : ∃ c kk, Hid (AgF T c kk) := agF_ex T
              go_wp2_with fail
              go_loopw [15] (fun i wq => ∃ k : Nat, ∃ c0 a0 : Int, i = .int .i64 (k : Int) ∧ wq.heap[w5.heap.size]? = some (.cells #[.int .i64 c0, .int .i64 a0] 30 (0, 0)) ∧ Below w5.heap.size w5 wq ∧ Hid ((k ≤ kk ∧ c0 = 0 ∧ a0 = -1) ∨ (k = kk + 1 ∧ kk < T.length ∧ c = 9 ∧ c0 = 9 ∧ a0 = (kk : Int)))) (fun i _ => T.length + 1 - (intOf i).toNat)
              case atStart => exact ⟨0, 0, -1, rfl, heap_alloc_new w5 _, (Below.refl _ _).alloc (Nat.le_refl _) _, .inl ⟨Nat.zero_le _, rfl, rfl⟩⟩
              case round =>
                obtain ⟨k, c0, a0, rfl, hrow, hb6, HK⟩ := hrel
                obtain ⟨f0, f1⟩ := two_cells hrow
                by_cases hgo : k < T.length ∧ c0 = 0
                · obtain ⟨hlt, rfl⟩ := hgo
                  have hkk : k ≤ kk := by
                    rcases HK.out with h | h
                    · exact h.1
                    · omega
                  obtain rfl : a0 = -1 := by
                    rcases HK.out with h | h
                    · exact h.2.2
                    · omega
                  obtain ⟨b, o, rfl, y0, -, -⟩ := HT.out k hlt
                  obtain ⟨⟨p, pr, pa⟩, HS⟩ : ∃ e, Hid (T[k]'hlt = e) := ⟨_, rfl⟩
                  rw [HS.out] at y0
                  have HB6 := hid hb6
                  have HRow := hid hrow
                  obtain ⟨x1, H1⟩ : ∃ x, Hid (decide (p = 2 ∨ p = 3) = x) := ⟨_, rfl⟩
                  clear hb6 hrow
                  go_wp2_with fail
                  go_loopw [16] (fun i wq2 => ∃ j : Nat, ∃ c0 a0 : Int, j ≤ k ∧ i = .int .i64 (j : Int) ∧ wq2.heap[w5.heap.size]? = some (.cells #[.int .i64 c0, .int .i64 a0] 30 (0, 0)) ∧ Below w5.heap.size w5 wq2 ∧ Hid (((T.take j).any (fun q => finS q && decide (q.p ≠ p)) = false ∨ x1 = false) ∧ c0 = 0 ∧ a0 = -1 ∨ ((T.take j).any (fun q => finS q && decide (q.p ≠ p)) = true ∧ x1 = true) ∧ c0 = 9 ∧ a0 = (k : Int))) (fun i _ => k - (intOf i).toNat)
                  case atStart => exact ⟨0, 0, -1, Nat.zero_le _, rfl, HRow.out, HB6.out, .inl ⟨.inl rfl, rfl, rfl⟩⟩
                  case round =>
                    obtain ⟨j, c1, a1, hj, rfl, hrow2, hb7, HK2⟩ := hrel
                    have HB7 := hid hb7
                    by_cases hjk : j < k
                    · have hjl : j < T.length := by omega
                      obtain ⟨b', o', eb, x0, -, -⟩ := HT.out j hjl
                      obtain ⟨rfl, rfl⟩ : b = b' ∧ o = o' := by cases eb; exact ⟨rfl, rfl⟩
                      obtain ⟨⟨p', pr', pa'⟩, HSj⟩ : ∃ e, Hid (T[j]'hjl = e) := ⟨_, rfl⟩
                      rw [HSj.out] at x0
                      have HBw := hid (HB5.out.trans (hb7.mono HB5.out.size))
                      have y7 := cell_later HBw.out y0
                      have x7 := cell_later HBw.out x0
                      obtain ⟨g0, g1⟩ := two_cells hrow2
                      have z0 := frozen_of_row _ _ 0 _ _ hrow2
                      have z1 := frozen_of_row _ _ 1 _ _ hrow2
                      have HRow2 := hid hrow2
                      have HAny : Hid ((T.take (j + 1)).any (fun q => finS q && decide (q.p ≠ p)) = ((T.take j).any (fun q => finS q && decide (q.p ≠ p)) || (decide (p' = 2 ∨ p' = 3) && decide (p' ≠ p)))) := by
                        show _ = _
                        rw [take_snoc T j hjl, List.any_append, HSj.out, List.any_cons, List.any_nil, Bool.or_false]
                        rfl
                      obtain ⟨x2, H2⟩ : ∃ x, Hid (decide (p' = 2 ∨ p' = 3) = x) := ⟨_, rfl⟩
                      rw [H2.out] at HAny
                      clear hb7 hrow2 eb
                      go_wp2_with fail
                      refine (rfin_is p x1 _ H1.out).mono ?_
                      rintro e w8 ⟨rfl, hx⟩
                      subst w8
                      go_wp2_with fail
                      refine (rfin_is p' x2 _ H2.out).mono ?_
                      rintro e w8 ⟨rfl, hx⟩
                      subst w8
                      cases x1 with
                      | false =>
                        have HK3 : Hid (c1 = 0 ∧ a1 = -1) := by
                          rcases HK2.out with h | h
                          · exact h.2
                          · cases h.1.2
                        go_wp2_with fail
                        go_quiet (fail)
                        go_wp2_with fail
                        go_roundw
                        case rel => exact ⟨j + 1, c1, a1, by omega, by go_num, HRow2.out, below_drewN HB7.out _, .inl ⟨.inr (by trivial), HK3.out.1, HK3.out.2⟩⟩
                        case measure => simp [intOf]; omega
                      | true =>
                        cases x2 with
                        | false =>
                          rw [Bool.false_and, Bool.or_false] at HAny
                          go_wp2_with fail
                          go_quiet (fail)
                          go_wp2_with fail
                          go_roundw
                          case rel => exact ⟨j + 1, c1, a1, by omega, by go_num, HRow2.out, below_drewN HB7.out _, by rw [HAny.out]; exact HK2.out⟩
                          case measure => simp [intOf]; omega
                        | true =>
                          rw [Bool.true_and] at HAny
                          by_cases hp : p' = p
                          · rw [show decide (p' ≠ p) = false from decide_eq_false (fun h => h hp), Bool.or_false] at HAny
                            subst hp
                            go_wp2_with fail
                            go_quiet (fail)
                            go_wp2_with fail
                            go_roundw
                            case rel => exact ⟨j + 1, c1, a1, by omega, by go_num, HRow2.out, below_drewN HB7.out _, by rw [HAny.out]; exact HK2.out⟩
                            case measure => simp [intOf]; omega
                          · rw [show decide (p' ≠ p) = true from decide_eq_true hp, Bool.or_true] at HAny
                            have e5 : (p != p') = true := bne_iff_ne.2 (fun h => hp h.symm)
                            have HSet := hid (row2_set HRow2.out (.int .i64 9) (.int .i64 (k : Int)))
                            have HBs := hid ((HB7.out.setCell (p := ⟨w5.heap.size, 0, none⟩) (Nat.le_refl _) (.int .i64 9)).setCell (p := ⟨w5.heap.size, 1, none⟩) (Nat.le_refl _) (.int .i64 (k : Int)))
                            go_wp2_with fail
                            go_quiet (fail)
                            go_wp2_with fail
                            go_roundw
                            case rel => exact ⟨j + 1, 9, k, by omega, by go_num, HSet.out, below_drewN HBs.out _, .inr ⟨⟨HAny.out, by trivial⟩, by trivial, by trivial⟩⟩
                            case measure => simp [intOf]; omega
                    · obtain rfl : j = k := by omega
                      have HDis : Hid (disB (T.take j) (T[j]'hlt) = (x1 && (T.take j).any (fun q => finS q && decide (q.p ≠ p)))) := by
                        show _ = _
                        rw [HS.out, ← H1.out]; rfl
                      have HNx : Hid ((j + 1 ≤ kk ∧ c1 = 0 ∧ a1 = -1) ∨ (j + 1 = kk + 1 ∧ kk < T.length ∧ c = 9 ∧ c1 = 9 ∧ a1 = (kk : Int))) := by
                        rcases HK2.out with ⟨h, h2, h3⟩ | ⟨⟨h, hx⟩, h2, h3⟩
                        · left
                          have hd : disB (T.take j) (T[j]'hlt) = false := by
                            rw [HDis.out]
                            rcases h with h | h
                            · rw [h, Bool.and_false]
                            · rw [h, Bool.false_and]
                          rcases Nat.lt_or_ge j kk with q | q
                          · exact ⟨q, h2, h3⟩
                          · obtain rfl : j = kk := by omega
                            rcases HF.out.2 with ⟨-, r⟩ | ⟨_, _, r⟩
                            · omega
                            · rw [hd] at r; cases r
                        · right
                          have hd : disB (T.take j) (T[j]'hlt) = true := by rw [HDis.out, hx, h]; rfl
                          rcases Nat.lt_or_ge j kk with q | q
                          · have := HF.out.1 j hlt q; rw [hd] at this; cases this
                          · obtain rfl : j = kk := by omega
                            rcases HF.out.2 with ⟨-, r⟩ | ⟨_, r, _⟩
                            · omega
                            · exact ⟨rfl, hlt, r, h2, h3⟩
                      have HRow2 := hid hrow2
                      have hj2 : ¬ ((j : Int) < (j : Int)) := by omega
                      clear hrow2 hb7
                      go_wp2_with fail
                      go_roundw
                      case rel => exact ⟨j + 1, c1, a1, by go_num, HRow2.out, HB7.out, HNx.out⟩
                      case measure => simp [intOf]; omega
                · -- the answer
                  have HR : Hid (c0 = (agR c kk).1 ∧ a0 = (agR c kk).2) := by
                    unfold agR
                    rcases HK.out with ⟨h1, h2, h3⟩ | ⟨h1, h2, h3, h4, h5⟩
                    · have hge : ¬ k < T.length := fun h => hgo ⟨h, h2⟩
                      rcases HF.out.2 with ⟨r, -⟩ | ⟨r, _, _⟩
                      · subst r; exact ⟨h2, h3⟩
                      · omega
                    · subst h3; exact ⟨h4, h5⟩
                  have HB6 := hid hb6
                  have HRow := hid hrow
                  have HBe := hid (HB5.out.trans (hb6.mono HB5.out.size))
                  have hcond : (decide ((k : Int) < (T.length : Int)) && (c0 == 0)) = false := by
                    rw [Bool.and_eq_false_iff]
                    by_cases q : k < T.length
                    · exact .inr (beq_eq_false_iff_ne.2 (fun e => hgo ⟨q, e⟩))
                    · exact .inl (decide_eq_false (by omega))
                  clear hb6 hrow
                  obtain ⟨r1, r2, HRev, HChk⟩ : ∃ r1 r2 : Int, Hid _ ∧ Hid _ := jpair A ad adO cap capO L n w5 (HE.out.later HB5.out) (HL.out.later HB5.out) HO5.out (by omega)
                  have HFc : Hid (c ≤ 9) := by
                    rcases HF.out.2 with ⟨r, -⟩ | ⟨_, r, _⟩ <;> show c ≤ 9 <;> omega
                  have Hl60 : Hid (L.length ≤ 60 ∧ T.length ≤ 60) := ⟨by omega, by omega⟩
                  unfold fltV at HRev HChk
                  clear hgo HK h60 h60t
                  by_cases q : k < T.length
                  · have e6 : (c0 == 0) = false := by
                      rw [decide_eq_true (show (k : Int) < (T.length : Int) by omega), Bool.true_and] at hcond
                      exact hcond
                    clear hcond
                    go_wp2_with fail
                    go_region_held3 (fun W => W.cell? ⟨w5.heap.size, 0, none⟩ = some (.int .i64 c0) ∧ W.cell? ⟨w5.heap.size, 1, none⟩ = some (.int .i64 a0)) (first | exact ⟨g0, g1⟩ | exact ⟨f0, f1⟩ | go_keep) (first
                      | (go_at_call 8; (with_reducible refine (HChk.out _ (by first | exact HB6.out | exact HB6.out.drew)).mono ?_); rintro e w6 ⟨v6, rfl, hb6, hf6⟩; have HB6a := hid (HB6.out.drew.trans (hb6.mono HB6.out.size)); have HFa := hid hf6; obtain ⟨g0, g1⟩ := And.intro (cell_later hb6 f0) (cell_later hb6 f1); clear hb6 hf6)
                      | (go_at_call 9; (with_reducible refine (HRev.out _ HB6a.out).mono ?_); rintro e w7 ⟨rfl, hb7⟩; have HB7a := hid (HB6a.out.trans (hb7.mono HB6a.out.size)); have HFb := hid hb7; replace g0 := cell_later hb7 g0; replace g1 := cell_later hb7 g1; clear hb7)
                      | (go_at_call 7; (with_reducible refine (HFa.out _ HFb.out).mono ?_); rintro e w8 ⟨rfl, hb8⟩; have HB8a := hid (HB7a.out.trans (hb8.mono HB7a.out.size)); replace g0 := cell_later hb8 g0; replace g1 := cell_later hb8 g1; clear hb8)
                      | (go_at_call 10; (with_reducible refine (joutcome_any adO capO L d _ (HO5.out.later HB8a.out) (by have := Hl60.out.1; omega)).mono ?_); rintro e w9 ⟨rfl, hb9⟩; have HB9a := hid (HB8a.out.trans (hb9.mono HB8a.out.size)); replace g0 := cell_later hb9 g0; replace g1 := cell_later hb9 g1; clear hb9)
                      | (go_at_call 12; (with_reducible refine (ownStates_any at_ capT T _ (by have := Hl60.out.2; omega) HN.out ((HT.out.later HB5.out).later HB9a.out)).mono ?_); rintro e w10 ⟨aX, capX, rfl, hLX, hb10⟩; have HBXa := hid (HB9a.out.trans (hb10.mono HB9a.out.size)); have HLX := hid hLX; replace g0 := cell_later hb10 g0; replace g1 := cell_later hb10 g1; clear hb10 hLX)
                      | (go_at_call 11; (with_reducible refine (jagree_any A aX capX T c kk _ ((HE.out.later HB5.out).later HBXa.out) HLX.out (by have := Hl60.out.2; omega) HF.out).mono ?_); rintro e w11 ⟨v11, rfl, hv11, hb11⟩; have HBYa := hid (HBXa.out.trans (hb11.mono HBXa.out.size)); have HV11 := hid hv11; replace g0 := cell_later hb11 g0; replace g1 := cell_later hb11 g1; clear hb11 hv11)
                      | (go_at_call 7; (with_reducible refine (faulted_agg A c kk _ v11 c0 a0 _ ((HE.out.later HB5.out).later HBYa.out) HFc.out HV11.out HR.out.1 HR.out.2).mono ?_); rintro e w12 ⟨rfl, hb12⟩; have HBZa := hid (HBYa.out.trans (hb12.mono HBYa.out.size)); replace g0 := cell_later hb12 g0; replace g1 := cell_later hb12 g1; clear hb12))
                    all_goals go_wp2_with fail
                    all_goals go_ret
                    all_goals exact ⟨rfl, HB5.out.trans (HBZa.out.mono HB5.out.size)⟩
                  · have q2 : ¬ ((k : Int) < (T.length : Int)) := by omega
                    clear hcond
                    go_wp2_with fail
                    go_region_held3 (fun W => W.cell? ⟨w5.heap.size, 0, none⟩ = some (.int .i64 c0) ∧ W.cell? ⟨w5.heap.size, 1, none⟩ = some (.int .i64 a0)) (first | exact ⟨g0, g1⟩ | exact ⟨f0, f1⟩ | go_keep) (first
                      | (go_at_call 8; (with_reducible refine (HChk.out _ (by first | exact HB6.out | exact HB6.out.drew)).mono ?_); rintro e w6 ⟨v6, rfl, hb6, hf6⟩; have HB6a := hid (HB6.out.drew.trans (hb6.mono HB6.out.size)); have HFa := hid hf6; obtain ⟨g0, g1⟩ := And.intro (cell_later hb6 f0) (cell_later hb6 f1); clear hb6 hf6)
                      | (go_at_call 9; (with_reducible refine (HRev.out _ HB6a.out).mono ?_); rintro e w7 ⟨rfl, hb7⟩; have HB7a := hid (HB6a.out.trans (hb7.mono HB6a.out.size)); have HFb := hid hb7; replace g0 := cell_later hb7 g0; replace g1 := cell_later hb7 g1; clear hb7)
                      | (go_at_call 7; (with_reducible refine (HFa.out _ HFb.out).mono ?_); rintro e w8 ⟨rfl, hb8⟩; have HB8a := hid (HB7a.out.trans (hb8.mono HB7a.out.size)); replace g0 := cell_later hb8 g0; replace g1 := cell_later hb8 g1; clear hb8)
                      | (go_at_call 10; (with_reducible refine (joutcome_any adO capO L d _ (HO5.out.later HB8a.out) (by have := Hl60.out.1; omega)).mono ?_); rintro e w9 ⟨rfl, hb9⟩; have HB9a := hid (HB8a.out.trans (hb9.mono HB8a.out.size)); replace g0 := cell_later hb9 g0; replace g1 := cell_later hb9 g1; clear hb9)
                      | (go_at_call 12; (with_reducible refine (ownStates_any at_ capT T _ (by have := Hl60.out.2; omega) HN.out ((HT.out.later HB5.out).later HB9a.out)).mono ?_); rintro e w10 ⟨aX, capX, rfl, hLX, hb10⟩; have HBXa := hid (HB9a.out.trans (hb10.mono HB9a.out.size)); have HLX := hid hLX; replace g0 := cell_later hb10 g0; replace g1 := cell_later hb10 g1; clear hb10 hLX)
                      | (go_at_call 11; (with_reducible refine (jagree_any A aX capX T c kk _ ((HE.out.later HB5.out).later HBXa.out) HLX.out (by have := Hl60.out.2; omega) HF.out).mono ?_); rintro e w11 ⟨v11, rfl, hv11, hb11⟩; have HBYa := hid (HBXa.out.trans (hb11.mono HBXa.out.size)); have HV11 := hid hv11; replace g0 := cell_later hb11 g0; replace g1 := cell_later hb11 g1; clear hb11 hv11)
                      | (go_at_call 7; (with_reducible refine (faulted_agg A c kk _ v11 c0 a0 _ ((HE.out.later HB5.out).later HBYa.out) HFc.out HV11.out HR.out.1 HR.out.2).mono ?_); rintro e w12 ⟨rfl, hb12⟩; have HBZa := hid (HBYa.out.trans (hb12.mono HBYa.out.size)); replace g0 := cell_later hb12 g0; replace g1 := cell_later hb12 g1; clear hb12))
                    all_goals go_wp2_with fail
                    all_goals go_ret
                    all_goals exact ⟨rfl, HB5.out.trans (HBZa.out.mono HB5.out.size)⟩
end Go.Proofs.YtadhpkopkkjmfaaDoor
