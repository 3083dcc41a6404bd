/-
  On the way to JTampersProof: EHJ.
-/
import Derived.Test.YtadhpkopkkjmfaaGreatDoorBz24
set_option maxHeartbeats 8000000
set_option maxRecDepth 100000
namespace Go.Proofs.YtadhpkopkkjmfaaGreatDoor
open Go.RowKit
theorem evF_nil (n : Int) : EvF n [] 0 0 := ⟨fun _ h => absurd h (Nat.not_lt_zero _), .inl ⟨rfl, rfl⟩⟩
theorem agF_nil : AgF [] 0 0 := ⟨fun _ h => absurd h (Nat.not_lt_zero _), .inl ⟨rfl, rfl⟩⟩
theorem judged_any (A : Nat → Addr) (w : World) (hE : Held9 w A) : Calls Tryz.prog 43 #[] w fun e w' => e = .returned (.bool true) ∧ Below w.heap.size w w' := by
  have HE := hid hE
  clear hE
  go_enter Tryz.func43, Tryz.ntmps43
  go_wp2_with fail
  refine (jcheck_ok A none 0 [] 1 0 0 w HE.out (by decide) (by decide) (EL.nil _ _) (by simp) (evF_nil 1)).mono ?_
  rintro e w1 ⟨v, rfl, hv, hb⟩
  obtain rfl := hv.nil
  have HB1 := hid hb
  clear hb hv
  go_wp2_with fail
  refine (jcheck_no A _ 0 w1 (HE.out.later HB1.out) (by decide)).mono ?_
  rintro e w2 ⟨rfl, hx⟩
  subst w2
  rw [show ev A 2 = .iface 276 (.pointer (some (A 1))) from rfl]
  go_wp2_with fail
  refine (coded_at A 1 2 w1 (HE.out.later HB1.out) (by decide)).mono ?_
  rintro e w2 ⟨rfl, hb2⟩
  have HB2 := hid (below_trans HB1.out hb2)
  clear hb2
  rw [show (((1 : Nat) : Int) + 1 == 2) = true from rfl]
  go_wp2_with fail
  refine (jagree_any A none 0 [] 0 0 w2 (HE.out.later HB2.out) (SL.nil _ _) (by simp) agF_nil).mono ?_
  rintro e w3 ⟨v, rfl, hv, hb⟩
  obtain rfl := hv.nil
  have HB3 := hid (below_trans HB2.out hb)
  clear hb hv
  go_wp2_with fail
  go_ret
  exact ⟨rfl, HB3.out⟩
end Go.Proofs.YtadhpkopkkjmfaaGreatDoor
