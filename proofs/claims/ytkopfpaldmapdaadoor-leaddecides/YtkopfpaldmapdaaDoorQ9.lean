/-
  leads: a closed fact.
-/
import Derived.Test.YtkopfpaldmapdaaDoorQS
namespace Go.Proofs.YtkopfpaldmapdaaDoor
open Go.RowKit

theorem leads_ph : (phear [1] 0 0 0 P0 ⟨0, 0, 0, 2, 0, true, 0, 0, 0⟩).2 = some (5, 4) ∧ (phear [1] 0 0 0 P0 ⟨0, 0, 0, 2, 0, true, 0, 0, 0⟩).1.stt = 1 := by
  constructor <;> decide +kernel
theorem leads_w : errW [1] = 0 := by decide +kernel
set_option maxHeartbeats 1000000 in
set_option maxRecDepth 100000 in
theorem leads_any (A : Nat → Addr) (w : World) (hE : Held3 w A) :
    Calls Tryd.prog 26 #[] w fun e w' => e = .returned (.bool true) ∧ Below w.heap.size w w' := by
  have HB1 : Hid (Below w.heap.size w (w.alloc (.cells #[.int .i64 1] 3))) := (Below.refl _ _).alloc (Nat.le_refl _) _
  have HS : Hid (IsSl (w.alloc (.cells #[.int .i64 1] 3)) (.slice (some ⟨w.heap.size, 0, none⟩) 1 1) [1]) := IsSl.lit w [1] (by unfold maxLen; decide)
  have HE1 := hid (hE.later HB1.out)
  clear hE
  go_enter Tryd.func26, Tryd.ntmps26
  go_wp2_with fail
  refine (ldBegin_ok A _ [1] 0 0 _ HS.out HE1.out leads_w (by decide) (by decide) (by decide)).mono ?_
  rintro e w1 ⟨lb, b, cap, rfl, hl, hb, hg⟩
  have HL := hid hl
  have HB := hid hb
  have hlb : w.heap.size < lb := by have h1 := hl.bl; have h2 := HB1.out.size; omega
  have HE2 := hid (HE1.out.later hb)
  clear hl hb hg
  go_wp2_with (go_at_call 31; refine (ldState_any HL.out).mono ?_; rw [show stP P0.stt = ⟨#[97, 115, 107, 105, 110, 103]⟩ from rfl]; rintro e wx ⟨rfl, rfl⟩)
  refine (ldStart0_any (by decide) HL.out).mono ?_
  rintro e w2 ⟨v, rfl, ⟨ad, cap2, rfl, -, -⟩, hb⟩
  have HL2 := hid (HL.out.later hb)
  have HE3 := hid (HE2.out.later hb)
  have HB2 := hid (below_trans (below_trans HB1.out HB.out) hb)
  clear hb
  rw [show (toL 0 0 1 0 0 [(1 : Int)].length).length = 1 from rfl]
  go_wp2_with fail
  refine (ldhear_any A 0 0 0 2 0 true 0 0 0 leads_w (by decide) HE3.out HL2.out).mono ?_
  rintro e w3 ⟨v, rfl, hf, hl, hk⟩
  rw [leads_ph.1] at hf
  obtain ⟨ad3, cap3, rfl, hfl, -⟩ := hf
  obtain ⟨fb, fo, rfl, hc⟩ := hfl 0 (by decide)
  obtain ⟨a0, a1, a2, a3, a4, a5, a6, a7, a8⟩ := nineO (o := fo) (fun j hj => by have := hc j hj; rw [show fo + 0 * 9 + j = fo + j by omega] at this; exact this)
  have HL3 := hid hl
  have HB3 : Hid (Below w.heap.size w w3) := hk.below HB2.out.size (fun k hkk => by rw [show k = lb from hkk]; omega) HB2.out
  clear hl hk hfl hc
  rw [show (outL 0 0 0 [(1 : Int)].length (some (5, 4))).length = 1 from rfl]
  go_wp2_with (go_at_call 31; refine (ldState_any HL3.out).mono ?_; rw [leads_ph.2, stP1]; rintro e wx ⟨rfl, rfl⟩)
  go_ret
  exact ⟨rfl, HB3.out⟩
end Go.Proofs.YtkopfpaldmapdaaDoor
