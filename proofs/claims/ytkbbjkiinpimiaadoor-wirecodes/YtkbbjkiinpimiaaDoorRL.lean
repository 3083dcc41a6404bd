/-
  WALKS of the document's answer (threefoldref1): Low.
-/
import Derived.Test.YtkbbjkiinpimiaaDoorKC
import Derived.Test.YtkbbjkiinpimiaaDoorRE
namespace Go.Proofs.YtkbbjkiinpimiaaDoor
open Go.RowKit

theorem byte_is (z : Int) (x : Nat) (s : ByteArray) (w : World) (hz : z = x) (hx : x < 256) (hs : bA [UInt8.ofNat x] = s) :
    Calls Tryd.prog 80 #[.int .i64 z] w fun e w' => e = .returned (.string s) ∧ Below w.heap.size w w' := by
  subst hz hs; exact byte_any x w hx
set_option maxHeartbeats 1000000 in
set_option maxRecDepth 100000 in
theorem low_is (n : Nat) (s : ByteArray) (w : World) (hn : n < 4294967296) (hs : bA (lowL n) = s) :
    Calls Tryd.prog 60 #[.int .i64 (n : Int)] w fun e w' => e = .returned (.string s) ∧ Below w.heap.size w w' := by
  obtain ⟨s1, S1⟩ : ∃ t, Hid (bA [UInt8.ofNat (n % 256)] = t) := ⟨_, rfl⟩
  obtain ⟨s2, S2⟩ : ∃ t, Hid (bA [UInt8.ofNat (n / 256 % 256)] = t) := ⟨_, rfl⟩
  obtain ⟨s3, S3⟩ : ∃ t, Hid (bA [UInt8.ofNat (n / 65536 % 256)] = t) := ⟨_, rfl⟩
  obtain ⟨s4, S4⟩ : ∃ t, Hid (bA [UInt8.ofNat (n / 16777216)] = t) := ⟨_, rfl⟩
  have z1 : s1.size = 1 := by rw [← S1.out, bA_size]; rfl
  have z2 : s2.size = 1 := by rw [← S2.out, bA_size]; rfl
  have z3 : s3.size = 1 := by rw [← S3.out, bA_size]; rfl
  have z4 : s4.size = 1 := by rw [← S4.out, bA_size]; rfl
  have HT : Hid (s = s1 ++ s2 ++ s3 ++ s4) := by
    unfold Hid
    rw [← hs, ← S1.out, ← S2.out, ← S3.out, ← S4.out, bA_append, bA_append, bA_append]
    unfold lowL
    rw [Nat.mod_eq_of_lt (show n / 16777216 < 256 by omega)]
    rfl
  have t1 : (n : Int).tmod 256 = ((n % 256 : Nat) : Int) := by rw [Int.tmod_eq_emod_of_nonneg (by omega)]; omega
  have t2 : ((n : Int).tdiv 256).tmod 256 = ((n / 256 % 256 : Nat) : Int) := by rw [Int.tdiv_eq_ediv_of_nonneg (by omega), Int.tmod_eq_emod_of_nonneg (by omega)]; omega
  clear hs t1 t2
  rw [HT.out]
  go_enter Tryd.func60, Tryd.ntmps60
  go_wp2_with fail
  refine (byte_is _ (n % 256) s1 _ (by omega) (by omega) S1.out).mono ?_
  rintro e w1 ⟨rfl, hb1⟩
  have HB1 := hid hb1
  clear hb1
  go_wp2_with fail
  refine (byte_is _ (n / 256 % 256) s2 _ (by omega) (by omega) S2.out).mono ?_
  rintro e w2 ⟨rfl, hb2⟩
  have HB2 := below_step HB1 hb2
  clear hb2
  go_wp2_with fail
  refine (byte_is _ (n / 65536 % 256) s3 _ (by omega) (by omega) S3.out).mono ?_
  rintro e w3 ⟨rfl, hb3⟩
  have HB3 := below_step HB2 hb3
  clear hb3
  go_wp2_with fail
  refine (byte_is _ (n / 16777216) s4 _ (by omega) (by omega) S4.out).mono ?_
  rintro e w4 ⟨rfl, hb4⟩
  have HB4 := below_step HB3 hb4
  clear hb4
  go_wp2_with fail
  go_ret
  exact ⟨rfl, HB4.out⟩
end Go.Proofs.YtkbbjkiinpimiaaDoor
