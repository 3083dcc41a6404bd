/-
  WALKS of the document's answer (threefoldref1): FrameError, Low.
-/
import Derived.Test.YthbaklhdhandnaaDoorKC
namespace Go.Proofs.YthbaklhdhandnaaDoor
open Go.RowKit

set_option maxHeartbeats 8000000 in
set_option maxRecDepth 100000 in
theorem rferr_bad (f t d k a : Int) (y : Bool) (ph pr pa : Int) (w : World) (h : ¬ frOk f t d k a ph pr pa) :
    Calls Tryd.prog 56 #[frV f t d k a y ph pr pa] w fun e w' => e = .returned (.int .i64 2) ∧ Below w.heap.size w w' := by
  obtain ⟨W, HW⟩ : ∃ W, Hid (w.alloc (.cells #[.int .i64 f, .int .i64 t, .int .i64 d, .int .i64 k, .int .i64 a, .bool y, .int .i64 ph, .int .i64 pr, .int .i64 pa] 88) = W) := ⟨_, rfl⟩
  have HB : Hid (Below w.heap.size w W) := by rw [← HW.out]; exact (Below.refl _ _).alloc (Nat.le_refl _) _
  have HR : Hid (W.heap[w.heap.size]? = some (.cells #[.int .i64 f, .int .i64 t, .int .i64 d, .int .i64 k, .int .i64 a, .bool y, .int .i64 ph, .int .i64 pr, .int .i64 pa] 88 (0, 0))) := by rw [← HW.out]; exact heap_alloc_new w _
  have HK := hid h
  obtain ⟨c0, c1, c2, c3, c4, c5, c6, c7, c8⟩ := nine HR.out
  have hW := HW.out
  clear h
  by_cases g0 : f < 0
  · clear HK
    go_enter Tryd.func56, Tryd.ntmps56
    go_wp2_with fail
    go_ret
    exact ⟨rfl, HB.out⟩
  by_cases g1 : 7 ≤ f
  · clear HK
    go_enter Tryd.func56, Tryd.ntmps56
    go_wp2_with fail
    go_ret
    exact ⟨rfl, HB.out⟩
  by_cases g2 : t < 0
  · clear HK
    go_enter Tryd.func56, Tryd.ntmps56
    go_wp2_with fail
    go_ret
    exact ⟨rfl, HB.out⟩
  by_cases g3 : 7 ≤ t
  · clear HK
    go_enter Tryd.func56, Tryd.ntmps56
    go_wp2_with fail
    go_ret
    exact ⟨rfl, HB.out⟩
  by_cases g4 : d < 0
  · clear HK
    go_enter Tryd.func56, Tryd.ntmps56
    go_wp2_with fail
    go_ret
    exact ⟨rfl, HB.out⟩
  by_cases g5 : 6 ≤ d
  · clear HK
    go_enter Tryd.func56, Tryd.ntmps56
    go_wp2_with fail
    go_ret
    exact ⟨rfl, HB.out⟩
  by_cases g6 : k < 1
  · clear HK
    go_enter Tryd.func56, Tryd.ntmps56
    go_wp2_with fail
    go_ret
    exact ⟨rfl, HB.out⟩
  by_cases g7 : 7 < k
  · clear HK
    go_enter Tryd.func56, Tryd.ntmps56
    go_wp2_with fail
    go_ret
    exact ⟨rfl, HB.out⟩
  by_cases g8 : a < 0
  · clear HK
    go_enter Tryd.func56, Tryd.ntmps56
    go_wp2_with fail
    go_ret
    exact ⟨rfl, HB.out⟩
  by_cases g9 : 1048576 < a
  · clear HK
    go_enter Tryd.func56, Tryd.ntmps56
    go_wp2_with fail
    go_ret
    exact ⟨rfl, HB.out⟩
  by_cases g10 : pr < 0
  · clear HK
    go_enter Tryd.func56, Tryd.ntmps56
    go_wp2_with fail
    go_ret
    exact ⟨rfl, HB.out⟩
  by_cases g11 : 1048576 < pr
  · clear HK
    go_enter Tryd.func56, Tryd.ntmps56
    go_wp2_with fail
    go_ret
    exact ⟨rfl, HB.out⟩
  by_cases g12 : pa < 0
  · clear HK
    go_enter Tryd.func56, Tryd.ntmps56
    go_wp2_with fail
    go_ret
    exact ⟨rfl, HB.out⟩
  by_cases g13 : 1048576 < pa
  · clear HK
    go_enter Tryd.func56, Tryd.ntmps56
    go_wp2_with fail
    go_ret
    exact ⟨rfl, HB.out⟩
  by_cases g14 : ph < 0
  · clear HK
    go_enter Tryd.func56, Tryd.ntmps56
    go_wp2_with fail
    go_ret
    exact ⟨rfl, HB.out⟩
  by_cases g15 : 5 < ph
  · clear HK
    go_enter Tryd.func56, Tryd.ntmps56
    go_wp2_with fail
    go_ret
    exact ⟨rfl, HB.out⟩
  exfalso
  apply HK.out
  unfold frOk stOk
  omega
set_option maxHeartbeats 2000000 in
set_option maxRecDepth 100000 in
theorem rferr_ok (f t d k a : Int) (y : Bool) (ph pr pa : Int) (w : World) (h : frOk f t d k a ph pr pa) :
    Calls Tryd.prog 56 #[frV f t d k a y ph pr pa] w fun e w' => e = .returned (.int .i64 0) ∧ Below w.heap.size w w' := by
  obtain ⟨W, HW⟩ : ∃ W, Hid (w.alloc (.cells #[.int .i64 f, .int .i64 t, .int .i64 d, .int .i64 k, .int .i64 a, .bool y, .int .i64 ph, .int .i64 pr, .int .i64 pa] 88) = W) := ⟨_, rfl⟩
  have HB : Hid (Below w.heap.size w W) := by rw [← HW.out]; exact (Below.refl _ _).alloc (Nat.le_refl _) _
  have HR : Hid (W.heap[w.heap.size]? = some (.cells #[.int .i64 f, .int .i64 t, .int .i64 d, .int .i64 k, .int .i64 a, .bool y, .int .i64 ph, .int .i64 pr, .int .i64 pa] 88 (0, 0))) := by rw [← HW.out]; exact heap_alloc_new w _
  obtain ⟨c0, c1, c2, c3, c4, c5, c6, c7, c8⟩ := nine HR.out
  have hW := HW.out
  obtain ⟨⟨k0, k1⟩, ⟨k2, k3⟩, ⟨k4, k5⟩, ⟨k6, k7⟩, ⟨k8, k9⟩, ⟨k10, k11⟩, ⟨k12, k13⟩, ⟨k14, k15⟩⟩ := h
  go_enter Tryd.func56, Tryd.ntmps56
  go_wp2_with fail
  go_ret
  exact ⟨rfl, HB.out⟩

theorem byte_is (z : Int) (x : Nat) (s : ByteArray) (w : World) (hz : z = x) (hx : x < 256) (hs : bA [UInt8.ofNat x] = s) :
    Calls Tryd.prog 80 #[.int .i64 z] w fun e w' => e = .returned (.string s) ∧ Below w.heap.size w w' := by
  subst hz hs; exact byte_any x w hx
set_option maxHeartbeats 1000000 in
set_option maxRecDepth 100000 in
theorem low_is (n : Nat) (s : ByteArray) (w : World) (hn : n < 4294967296) (hs : bA (lowL n) = s) :
    Calls Tryd.prog 60 #[.int .i64 (n : Int)] w fun e w' => e = .returned (.string s) ∧ Below w.heap.size w w' := by
  obtain ⟨s1, S1⟩ : ∃ t, Hid (bA [UInt8.ofNat (n % 256)] = t) := ⟨_, rfl⟩
  obtain ⟨s2, S2⟩ : ∃ t, Hid (bA [UInt8.ofNat (n / 256 % 256)] = t) := ⟨_, rfl⟩
  obtain ⟨s3, S3⟩ : ∃ t, Hid (bA [UInt8.ofNat (n / 65536 % 256)] = t) := ⟨_, rfl⟩
  obtain ⟨s4, S4⟩ : ∃ t, Hid (bA [UInt8.ofNat (n / 16777216)] = t) := ⟨_, rfl⟩
  have z1 : s1.size = 1 := by rw [← S1.out, bA_size]; rfl
  have z2 : s2.size = 1 := by rw [← S2.out, bA_size]; rfl
  have z3 : s3.size = 1 := by rw [← S3.out, bA_size]; rfl
  have z4 : s4.size = 1 := by rw [← S4.out, bA_size]; rfl
  have HT : Hid (s = s1 ++ s2 ++ s3 ++ s4) := by
    unfold Hid
    rw [← hs, ← S1.out, ← S2.out, ← S3.out, ← S4.out, bA_append, bA_append, bA_append]
    unfold lowL
    rw [Nat.mod_eq_of_lt (show n / 16777216 < 256 by omega)]
    rfl
  have t1 : (n : Int).tmod 256 = ((n % 256 : Nat) : Int) := by rw [Int.tmod_eq_emod_of_nonneg (by omega)]; omega
  have t2 : ((n : Int).tdiv 256).tmod 256 = ((n / 256 % 256 : Nat) : Int) := by rw [Int.tdiv_eq_ediv_of_nonneg (by omega), Int.tmod_eq_emod_of_nonneg (by omega)]; omega
  clear hs t1 t2
  rw [HT.out]
  go_enter Tryd.func60, Tryd.ntmps60
  go_wp2_with fail
  refine (byte_is _ (n % 256) s1 _ (by omega) (by omega) S1.out).mono ?_
  rintro e w1 ⟨rfl, hb1⟩
  have HB1 := hid hb1
  clear hb1
  go_wp2_with fail
  refine (byte_is _ (n / 256 % 256) s2 _ (by omega) (by omega) S2.out).mono ?_
  rintro e w2 ⟨rfl, hb2⟩
  have HB2 := below_step HB1 hb2
  clear hb2
  go_wp2_with fail
  refine (byte_is _ (n / 65536 % 256) s3 _ (by omega) (by omega) S3.out).mono ?_
  rintro e w3 ⟨rfl, hb3⟩
  have HB3 := below_step HB2 hb3
  clear hb3
  go_wp2_with fail
  refine (byte_is _ (n / 16777216) s4 _ (by omega) (by omega) S4.out).mono ?_
  rintro e w4 ⟨rfl, hb4⟩
  have HB4 := below_step HB3 hb4
  clear hb4
  go_wp2_with fail
  go_ret
  exact ⟨rfl, HB4.out⟩
end Go.Proofs.YthbaklhdhandnaaDoor
