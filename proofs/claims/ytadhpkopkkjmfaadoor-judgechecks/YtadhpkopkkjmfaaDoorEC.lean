/-
  WALKS of package judge: Check.
-/
import Derived.Test.YtadhpkopkkjmfaaDoorEB
namespace Go.Proofs.YtadhpkopkkjmfaaDoor
open Go.RowKit

/-- One deal's entry is written. -/
theorem ver_set {w : World} {b : Nat} {E S : Nat → Int} {t : TypeId} (h : w.heap[b]? = some (.cells (verL E S).toArray t (0, 0))) {d : Nat} (hd : d < 6) (p q : Int) :
    ((w.setCell ⟨b, d * 2, none⟩ (.int .i64 p)).setCell ⟨b, d * 2 + 1, none⟩ (.int .i64 q)).heap[b]? = some (.cells (verL (fun x => if x = d then p else E x) (fun x => if x = d then q else S x)).toArray t (0, 0)) := by
  have e1 := heap_setCell_same w b (d * 2) _ _ (.int .i64 p) h
  rw [heap_setCell_same _ b (d * 2 + 1) _ _ _ e1, List.setIfInBounds_toArray, List.setIfInBounds_toArray]
  have hd6 : d = 0 ∨ d = 1 ∨ d = 2 ∨ d = 3 ∨ d = 4 ∨ d = 5 := by omega
  rcases hd6 with rfl | rfl | rfl | rfl | rfl | rfl <;> rfl
theorem verL_snoc (P : List E3) (e : E3) {d s : Nat} (hd : e.d = (d : Int)) (hs : e.s = (s : Int)) : (fun x => if x = d then e.p else endL P x) = endL (P ++ [e]) ∧ (fun x => if x = d then bits .or .i64 (sitL P d) (2 ^ s) else sitL P x) = sitL (P ++ [e]) := by
  constructor
  · funext x
    rw [endL_snoc]
    by_cases c : x = d
    · rw [if_pos c, if_pos (by omega)]
    · rw [if_neg c, if_neg (by omega)]
  · funext x
    rw [sitL_snoc]
    by_cases c : x = d
    · rw [if_pos c, if_pos (by omega), c, hs, Int.toNat_natCast]
    · rw [if_neg c, if_neg (by omega)]
theorem ver_twelve {w : World} {b : Nat} {E S : Nat → Int} {t : TypeId} (h : w.heap[b]? = some (.cells (verL E S).toArray t (0, 0))) :
    w.cell? ⟨b, 0, none⟩ = some (.int .i64 (E 0)) ∧ w.cell? ⟨b, 1, none⟩ = some (.int .i64 (S 0)) ∧ w.cell? ⟨b, 2, none⟩ = some (.int .i64 (E 1)) ∧ w.cell? ⟨b, 3, none⟩ = some (.int .i64 (S 1)) ∧ w.cell? ⟨b, 4, none⟩ = some (.int .i64 (E 2)) ∧ w.cell? ⟨b, 5, none⟩ = some (.int .i64 (S 2)) ∧ w.cell? ⟨b, 6, none⟩ = some (.int .i64 (E 3)) ∧ w.cell? ⟨b, 7, none⟩ = some (.int .i64 (S 3)) ∧ w.cell? ⟨b, 8, none⟩ = some (.int .i64 (E 4)) ∧ w.cell? ⟨b, 9, none⟩ = some (.int .i64 (S 4)) ∧ w.cell? ⟨b, 10, none⟩ = some (.int .i64 (E 5)) ∧ w.cell? ⟨b, 11, none⟩ = some (.int .i64 (S 5)) := by
  refine ⟨?_, ?_, ?_, ?_, ?_, ?_, ?_, ?_, ?_, ?_, ?_, ?_⟩ <;> rw [cell_of_row _ _ _ _ _ _ h] <;> rfl
/-- What Check answers: nothing, or a fault in a block of its own. -/
def FltV (w : World) (A : Nat → Addr) (c k : Nat) (v : Value) (base : Nat) : Prop := (c = 0 ∧ v = .nilIface) ∨ (∃ x fb, c = x + 1 ∧ base ≤ fb ∧ v = .iface 51 (.pointer (some ⟨fb, 0, none⟩)) ∧ w.cell? ⟨fb, 0, none⟩ = some (.int .i64 (k : Int)) ∧ w.cell? ⟨fb, 1, none⟩ = some (.iface 90 (.pointer (some (A x)))))
theorem jcheck_no (A : Nat → Addr) (v : Value) (n : Int) (w : World) (hE : Held9 w A) (hn : ¬ (1 ≤ n ∧ n ≤ 7)) :
    Calls Tryd.prog 8 #[v, .int .i64 n] w fun e w' => e = .returned (ev A 2) ∧ w' = w := by
  have c1 := hE.cells.2.1
  clear hE
  by_cases h1 : n < 1
  · go_enter Tryd.func8, Tryd.ntmps8
    go_wp2_with fail
    go_ret
    exact ⟨rfl, rfl⟩
  · have h2 : 7 < n := by omega
    go_enter Tryd.func8, Tryd.ntmps8
    go_wp2_with fail
    go_ret
    exact ⟨rfl, rfl⟩
set_option maxHeartbeats 2000000 in
set_option maxRecDepth 100000 in
theorem jcheck_ok (A : Nat → Addr) (ad : Option Addr) (cap : Nat) (L : List E3) (n : Int) (c kk : Nat) (w : World) (hE : Held9 w A) (h1 : 1 ≤ n) (h7 : n ≤ 7) (hL : EL w ad L) (hl : L.length ≤ 100000) (hF : EvF n L c kk) :
    Calls Tryd.prog 8 #[.slice ad L.length cap, .int .i64 n] w fun e w' => ∃ v, e = .returned v ∧ FltV w' A c kk v w.heap.size ∧ Below w.heap.size w w' := by
  have HE := hid hE
  have HL := hid hL
  have HF := hid hF
  have H7 := hid h7
  clear hE hL hF
  go_enter Tryd.func8, Tryd.ntmps8
  go_wp2_with fail
  go_loopw [19] (fun v wr => ∃ k : Nat, k ≤ kk ∧ v = .int .i64 (k : Int) ∧ wr.heap[w.heap.size]? = some (.cells (verL (endL (L.take k)) (sitL (L.take k))).toArray 49 (0, 0)) ∧ Below w.heap.size w wr) (fun v _ => L.length - (intOf v).toNat)
  case atStart =>
    refine ⟨0, Nat.zero_le _, rfl, ?_, (Below.refl _ _).alloc (Nat.le_refl _) _⟩
    exact heap_alloc_new w _
  case round =>
    obtain ⟨k, hk, rfl, hrow, hb⟩ := hrel
    have HB := hid hb
    by_cases hlt : k < L.length
    · obtain ⟨b, o, rfl, y0, y1, y2⟩ := HL.out k hlt
      obtain ⟨⟨s, d, p⟩, HS⟩ : ∃ e, Hid (L[k]'hlt = e) := ⟨_, rfl⟩
      rw [HS.out] at y0 y1 y2
      replace y0 := cell_later hb y0
      replace y1 := cell_later hb y1
      replace y2 := cell_later hb y2
      obtain ⟨W2, HW2⟩ : ∃ W2, Hid (wr.alloc (.cells #[.int .i64 s, .int .i64 d, .int .i64 p] 28) = W2) := ⟨_, rfl⟩
      have hW2 := HW2.out
      have HB2 : Hid (Below wr.heap.size wr W2) := by rw [← HW2.out]; exact (Below.refl _ _).alloc (Nat.le_refl _) _
      have HR2 : Hid (W2.heap[w.heap.size]? = some (.cells (verL (endL (L.take k)) (sitL (L.take k))).toArray 49 (0, 0))) := row_later HB2.out hrow
      obtain ⟨z0, z1, z2, z3, z4, z5, z6, z7, z8, z9, z10, z11⟩ := ver_twelve HR2.out
      have HRe : Hid (W2.heap[wr.heap.size]? = some (.cells #[.int .i64 s, .int .i64 d, .int .i64 p] 28 (0, 0))) := by rw [← HW2.out]; exact heap_alloc_new wr _
      obtain ⟨r0, r1, r2⟩ := threeE HRe.out
      have hwb := row_ltJ hrow
      have HK : Hid (EvK n (L.take k)) := (show EvW n L k from fun j hj hjk => HF.out.1 j hj (by omega)).kept H7.out (by omega)
      clear hb
      by_cases hkk : k < kk
      · have HC : Hid (evC n (L.take k) ⟨s, d, p⟩ = 0) := by have := HF.out.1 k hlt hkk; rw [HS.out] at this; exact this
        have HFa := hid (jfault_any A ⟨s, d, p⟩ n (L.take k) 0 W2 ((HE.out.later HB.out).later HB2.out) H7.out HK.out HC.out)
        unfold verV at HFa
        rw [show ev A 0 = .nilIface from rfl] at HFa
        obtain ⟨⟨s0, s1⟩, ⟨d0, d1⟩, -⟩ := of_decide_eq_true (evC_zero HC.out).1
        simp only at s0 s1 d0 d1
        obtain ⟨sn, rfl⟩ := Int.eq_ofNat_of_zero_le s0
        obtain ⟨dn, rfl⟩ := Int.eq_ofNat_of_zero_le d0
        have hs7 : sn < 7 := by omega
        have hd6 : dn < 6 := by omega
        have HSn : Hid (L.take (k + 1) = L.take k ++ [⟨sn, dn, p⟩]) := by show _ = _; rw [take_snoc L k hlt, HS.out]
        go_wp2_with fail
        refine HFa.out.mono ?_
        rintro e w3 ⟨rfl, hb3⟩
        have HR3 := hid (row_later hb3 HR2.out)
        have HRe3 := hid (row_later hb3 HRe.out)
        have HB3 := hid (below_trans (below_trans HB.out HB2.out) hb3)
        clear hb3 r0 r1 r2 z0 z1 z2 z3 z4 z5 z6 z7 z8 z9 z10 z11
        obtain ⟨r0, r1, r2⟩ := threeE HRe3.out
        obtain ⟨v0, v1⟩ := ver_cells HR3.out hd6
        have f0 := frozen_of_row _ _ (dn * 2) _ _ HR3.out
        have f1 := frozen_of_row _ _ (dn * 2 + 1) _ _ HR3.out
        have HV := hid (ver_set HR3.out hd6 p (bits .or .i64 (sitL (L.take k) dn) (2 ^ sn)))
        rw [(verL_snoc (L.take k) ⟨sn, dn, p⟩ rfl rfl).1, (verL_snoc (L.take k) ⟨sn, dn, p⟩ rfl rfl).2, ← HSn.out] at HV
        have hp := (pow_le7 (n := sn) (by omega)).1
        have hp2 := (pow_le7 (n := sn) (by omega)).2
        obtain ⟨W4, HW4⟩ : ∃ W4, Hid (w3.setCell ⟨w.heap.size, dn * 2, none⟩ (.int .i64 p) = W4) := ⟨_, rfl⟩
        have hW4 := HW4.out
        rw [hW4] at HV
        have HR4 := hid (heap_setCell_same w3 w.heap.size (dn * 2) _ _ (.int .i64 p) HR3.out)
        have HRe4 := hid ((heap_setCell_other w3 ⟨w.heap.size, dn * 2, none⟩ wr.heap.size (.int .i64 p) (by show wr.heap.size ≠ w.heap.size; omega)).trans HRe3.out)
        rw [hW4] at HR4 HRe4
        have q1 : W4.cell? ⟨w.heap.size, dn * 2 + 1, none⟩ = some (.int .i64 (sitL (L.take k) dn)) := by rw [cell_of_row _ _ _ _ _ _ HR4.out, List.setIfInBounds_toArray, List.getElem?_toArray, List.getElem?_set_ne (by omega)]; exact (verL_get _ _ hd6).2
        obtain ⟨q2, q3, q4⟩ := threeE HRe4.out
        have f4 := frozen_of_row _ _ (dn * 2 + 1) _ _ HR4.out
        have HB4 : Hid (Below w.heap.size w W4) := by rw [← hW4]; exact HB3.out.setCell (Nat.le_refl _) _
        go_wp2_with fail
        go_region
        all_goals go_wp2_with fail
        go_roundw
        case rel =>
          refine ⟨k + 1, by omega, by go_num, HV.out, ?_⟩
          exact (HB4.out.setCell (Nat.le_refl _) _).drew
        case measure => simp [intOf]; omega
      · obtain rfl : k = kk := by omega
        obtain ⟨cx, HCx⟩ : ∃ cx, Hid (c = cx + 1 ∧ evC n (L.take k) ⟨s, d, p⟩ = cx + 1) := by
          rcases HF.out.2 with ⟨-, h⟩ | ⟨h, hc, he⟩
          · omega
          · rw [HS.out] at he
            exact ⟨c - 1, by omega, by rw [he]; omega⟩
        have HFa := hid (jfault_any A ⟨s, d, p⟩ n (L.take k) (cx + 1) W2 ((HE.out.later HB.out).later HB2.out) H7.out HK.out HCx.out.2)
        unfold verV at HFa
        rw [show ev A (cx + 1) = .iface 90 (.pointer (some (A cx))) from rfl] at HFa
        go_wp2_with fail
        refine HFa.out.mono ?_
        rintro e w3 ⟨rfl, hb3⟩
        have HB3 := hid (below_trans (below_trans HB.out HB2.out) hb3)
        clear hb3
        go_wp2_with fail
        go_ret
        refine ⟨_, rfl, .inr ⟨cx, w3.heap.size, HCx.out.1, HB3.out.size, rfl, ?_, ?_⟩, HB3.out.alloc HB3.out.size _⟩
        · rw [cell_of_row _ _ _ _ _ _ (heap_alloc_new w3 _)]; rfl
        · rw [cell_of_row _ _ _ _ _ _ (heap_alloc_new w3 _)]; rfl
    · have HC0 : Hid (c = 0 ∧ k = L.length) := by
        rcases HF.out.2 with ⟨h1, h2⟩ | ⟨h1, h2, h3⟩
        · exact ⟨h1, by omega⟩
        · omega
      have hk2 : ¬ ((k : Int) < (L.length : Int)) := by omega
      go_wp2_with fail
      go_ret
      exact ⟨_, rfl, .inl ⟨HC0.out.1, rfl⟩, HB.out⟩
theorem FltV.nil {w : World} {A : Nat → Addr} {k base : Nat} {v : Value} (h : FltV w A 0 k v base) : v = .nilIface := by
  rcases h with ⟨-, h⟩ | ⟨x, _, h, -⟩
  · exact h
  · cases h
end Go.Proofs.YtadhpkopkkjmfaaDoor
