/-
  On the way to WStepsProof: W6 L8 PB J0 S0.
-/
import Derived.Test.YtbaamegnmeohoacGreatDoorBs3
import Derived.Test.YtbaamegnmeohoacGreatDoorBs2
import Derived.Lib.AppendStr
import Derived.Laws.Strings2
import Derived.Laws.IdiomStrings
namespace Go.Proofs.YtbaamegnmeohoacGreatDoor
open Go.RowKit
theorem rErr_shape (a : Option Addr) (len cap : Nat) (w : World) (hm : len ≤ maxLen) (h : len < 1 ∨ 7 < len) :
    Calls Tryz.prog 12 #[.slice a len cap] w fun e w' => e = .returned (.int .i64 3) ∧ w' = w := by
  unfold maxLen at hm
  rcases h with h | h
  · have : len = 0 := by omega
    subst this
    go_enter Tryz.func12, Tryz.ntmps12
    go_wp2
    go_ret
    exact ⟨rfl, rfl⟩
  · go_enter Tryz.func12, Tryz.ntmps12
    go_wp2
    go_ret
    exact ⟨rfl, rfl⟩
set_option maxHeartbeats 1000000 in
theorem rErr_in (b off cap : Nat) (zs : List Int) (w : World) (h : ¬ (zs.length < 1 ∨ 7 < zs.length))
    (hc : ∀ i, i < zs.length → w.cell? ⟨b, off + i, none⟩ = some (.int .i64 (zs.getD i 0))) :
    Calls Tryz.prog 12 #[.slice (some ⟨b, off, none⟩) zs.length cap] w fun e w' => e = .returned (.int .i64 (errW zs)) ∧ w' = w := by
  have hB : ∀ k, k < zs.length → (zs.getD k 0 < 0 ∨ 1000 < zs.getD k 0) → Hid ((errW zs : Int) = 2) := fun k hk hb => by unfold Hid; rw [errW_bound h hk hb]; rfl
  have hN : okTo zs zs.length → tot zs = 0 → Hid ((errW zs : Int) = 4) := fun g e => by unfold Hid; rw [errW_ok h g, if_pos e]; rfl
  have hZ : okTo zs zs.length → ¬ tot zs = 0 → Hid ((errW zs : Int) = 0) := fun g e => by unfold Hid; rw [errW_ok h g, if_neg e]; rfl
  have hlo : ¬ zs.length < 1 := fun g => h (.inl g)
  have hhi : ¬ 7 < zs.length := fun g => h (.inr g)
  clear h
  go_enter Tryz.func12, Tryz.ntmps12
  go_wp2
  go_loop [3, 4] (fun x i => ∃ k : Nat, k ≤ zs.length ∧ okTo zs k ∧ i = .int .i64 k ∧ x = .int .i64 (psum zs k)) (fun _ i => zs.length - (intOf i).toNat)
  case atStart => exact ⟨0, Nat.zero_le _, fun i hi => absurd hi (by omega), rfl, rfl⟩
  case round =>
    obtain ⟨k, hk, hok, rfl, rfl⟩ := hrel
    have hpb := psum_bd hok
    by_cases hlt : k < zs.length
    · have hck := hc k hlt
      have hB' := hB k hlt
      have hS : Hid (psum zs (k + 1) = psum zs k + zs.getD k 0) := rfl
      have hO : 0 ≤ zs.getD k 0 → zs.getD k 0 ≤ 1000 → okTo zs (k + 1) := okTo_succ hok
      clear hB hN hZ hc
      rw [getD_lt zs k hlt] at hB' hO hck
      go_wp2
      · go_ret
        exact ⟨ret_int (hB' (by omega)).out.symm, rfl⟩
      · go_round
        case rel => exact ⟨k + 1, by omega, hO (by omega) (by omega), by go_num, val_int (by rw [hS.out, getD_lt zs k hlt])⟩
        case measure => simp [intOf]; omega
      · go_ret
        exact ⟨ret_int (hB' (by omega)).out.symm, rfl⟩
    · have hke : k = zs.length := by omega
      subst hke
      have hN' := hN hok
      have hZ' := hZ hok
      clear hB hN hZ hc
      go_wp2
      · have hz : (psum zs zs.length == 0) = true := by assumption
        go_ret
        exact ⟨ret_int (hN' (show psum zs zs.length = 0 by simpa using hz)).out.symm, rfl⟩
      · have hz : (psum zs zs.length == 0) = false := by assumption
        go_ret
        exact ⟨ret_int (hZ' (show ¬ psum zs zs.length = 0 by simpa using hz)).out.symm, rfl⟩
theorem rErr_any (v : Value) (zs : List Int) (w : World) (hv : IsSl w v zs) :
    Calls Tryz.prog 12 #[v] w fun e w' => e = .returned (.int .i64 (errW zs)) ∧ w' = w := by
  obtain ⟨a, cap, rfl, hm, -, hc⟩ := hv
  by_cases h : zs.length < 1 ∨ 7 < zs.length
  · rw [errW_shape h]; exact rErr_shape a zs.length cap w hm h
  · obtain ⟨b, off, rfl, hcc⟩ := hc (by omega)
    exact rErr_in b off cap zs w h hcc
theorem rHas_any (s : Int) (i : Nat) (w : World) (hi : i ≤ 30) (h0 : 0 ≤ s) (h1 : s ≤ 1073741824) :
    Calls Tryz.prog 73 #[.int .i64 s, .int .i64 i] w fun e w' => e = .returned (.bool (bit s i)) ∧ w' = w := by
  have hp := pow_le30 hi
  have hb := hid (bit_has i h0)
  go_enter Tryz.func73, Tryz.ntmps73
  go_wp2_with (go_at_call 130; refine (two_any i _ hi).mono ?_; rintro e w' ⟨rfl, rfl⟩)
  go_ret
  exact ⟨congrArg (fun x => Ending.returned (.bool x)) (by rw [Int.tmod_eq_emod_of_nonneg (Int.ediv_nonneg h0 (by omega))]; exact hb.out), rfl⟩
theorem rHas_is (s : Int) (i : Nat) (x : Bool) (w : World) (hi : i ≤ 30) (h0 : 0 ≤ s) (h1 : s ≤ 1073741824) (hx : bit s i = x) :
    Calls Tryz.prog 73 #[.int .i64 s, .int .i64 i] w fun e w' => e = .returned (.bool x) ∧ w' = w := by
  subst hx; exact rHas_any s i w hi h0 h1
set_option maxHeartbeats 1000000 in
theorem rSum_any (b off cap : Nat) (zs : List Int) (s : Int) (w : World) (hl : zs.length ≤ 7) (hok : okTo zs zs.length) (h0 : 0 ≤ s) (h1 : s ≤ 1073741824)
    (hc : ∀ i, i < zs.length → w.cell? ⟨b, off + i, none⟩ = some (.int .i64 (zs.getD i 0))) :
    Calls Tryz.prog 196 #[.slice (some ⟨b, off, none⟩) zs.length cap, .int .i64 s] w fun e w' => e = .returned (.int .i64 (sumTo zs s zs.length)) ∧ w' = w := by
  have HC := hid hc
  clear hc
  go_enter Tryz.func196, Tryz.ntmps196
  go_wp2
  go_loop [5, 6] (fun x i => ∃ k : Nat, k ≤ zs.length ∧ i = .int .i64 k ∧ x = .int .i64 (sumTo zs s k)) (fun _ i => zs.length - (intOf i).toNat)
  case atStart => exact ⟨0, Nat.zero_le _, rfl, rfl⟩
  case round =>
    obtain ⟨k, hk, rfl, rfl⟩ := hrel
    by_cases hlt : k < zs.length
    · have hck := HC.out k hlt
      have hbd := sumTo_bd s (k := k) (zs := zs) (fun i hi => hok i (by omega))
      have hpb := psum_bd (k := k) (zs := zs) (fun i hi => hok i (by omega))
      have hz := hok k hlt
      have hS : Hid (sumTo zs s (k + 1) = sumTo zs s k + if bit s k then zs.getD k 0 else 0) := rfl
      rw [getD_lt zs k hlt] at hz
      cases hx : bit s k with
      | false =>
        rw [hx] at hS
        have HX := hid hx
        clear hx
        go_wp2_with (go_at_call 73; refine (rHas_is s k false _ (by omega) h0 h1 HX.out).mono ?_; rintro e w' ⟨rfl, rfl⟩)
        go_round
        case rel => exact ⟨k + 1, by omega, by go_num, val_int (by rw [hS.out]; simp)⟩
        case measure => simp [intOf]; omega
      | true =>
        rw [hx] at hS
        have HX := hid hx
        clear hx
        go_wp2_with (go_at_call 73; refine (rHas_is s k true _ (by omega) h0 h1 HX.out).mono ?_; rintro e w' ⟨rfl, rfl⟩)
        go_round
        case rel => exact ⟨k + 1, by omega, by go_num, val_int (by rw [hS.out, getD_lt zs k hlt]; simp)⟩
        case measure => simp [intOf]; omega
    · go_wp2
      go_ret
      exact ⟨ret_int (by rw [show k = zs.length by omega]), rfl⟩
theorem rEnough_any (b off cap : Nat) (zs : List Int) (s : Int) (w : World) (hl : zs.length ≤ 7) (hok : okTo zs zs.length) (h0 : 0 ≤ s) (h1 : s ≤ 1073741824)
    (hc : ∀ i, i < zs.length → w.cell? ⟨b, off + i, none⟩ = some (.int .i64 (zs.getD i 0))) :
    Calls Tryz.prog 162 #[.slice (some ⟨b, off, none⟩) zs.length cap, .int .i64 s] w fun e w' => e = .returned (.bool (enoughB zs s)) ∧ w' = w := by
  have HC := hid hc
  clear hc
  have hp := pow_le7 hl
  have hbd := sumTo_bd s (k := zs.length) (zs := zs) hok
  have hpb := psum_bd (k := zs.length) (zs := zs) hok
  have hall : Hid (sumTo zs (2 ^ zs.length - 1) zs.length = tot zs) := sumTo_all zs (Nat.le_refl _)
  have ht : 0 ≤ tot zs ∧ tot zs ≤ 1000 * zs.length := hpb
  have hfin := hid (enoughB_alt zs s)
  go_enter Tryz.func162, Tryz.ntmps162
  go_wp2_with fail
  refine (rSum_any b off cap zs s _ hl hok h0 h1 HC.out).mono ?_
  rintro e w1 ⟨rfl, h1'⟩
  subst h1'
  go_wp2_with fail
  refine (two_any zs.length _ (by omega)).mono ?_
  rintro e w1 ⟨rfl, h1'⟩
  subst h1'
  go_wp2_with fail
  refine (rSum_any b off cap zs (2 ^ zs.length - 1) _ hl hok (by omega) (by omega) HC.out).mono ?_
  rintro e w1 ⟨rfl, h1'⟩
  subst h1'
  rw [hall.out]
  go_wp2_with fail
  refine (rSum_any b off cap zs s _ hl hok h0 h1 HC.out).mono ?_
  rintro e w1 ⟨rfl, h1'⟩
  subst h1'
  go_wp2_with fail
  go_ret
  exact ⟨congrArg (fun x => Ending.returned (.bool x)) hfin.out, rfl⟩
theorem rEnough_is (b off cap : Nat) (zs : List Int) (s : Int) (x : Bool) (w : World) (hl : zs.length ≤ 7) (hok : okTo zs zs.length) (h0 : 0 ≤ s) (h1 : s ≤ 1073741824)
    (hc : ∀ i, i < zs.length → w.cell? ⟨b, off + i, none⟩ = some (.int .i64 (zs.getD i 0))) (hx : enoughB zs s = x) :
    Calls Tryz.prog 162 #[.slice (some ⟨b, off, none⟩) zs.length cap, .int .i64 s] w fun e w' => e = .returned (.bool x) ∧ w' = w := by
  subst hx; exact rEnough_any b off cap zs s w hl hok h0 h1 hc
section
variable {w : World} {lb id n cap : Nat} {deal att : Int} {aw : Option Addr} {st : ByteArray} {wait : Int} {vh : Value} {hs : List F9} {ph seen : Int}
structure HL (w W : World) (lb id n cap : Nat) (deal att : Int) (aw : Option Addr) (st : ByteArray) (wait : Int) (vh : Value) (hs : List F9) (ph seen : Int) (f : Nat) (k : Int) (y : Bool) (p1 p2 p3 : Int) : Prop where
  ld : RLd W lb id n cap deal att aw st wait vh hs ph seen
  fr : FIn w W f id deal k att y p1 p2 p3
  kp : Kept (In1 lb) w W
theorem HL.later {W V : World} {f : Nat} {k : Int} {y : Bool} {p1 p2 p3 : Int} (h : HL w W lb id n cap deal att aw st wait vh hs ph seen f k y p1 p2 p3) (hb : Below W.heap.size W V) : HL w V lb id n cap deal att aw st wait vh hs ph seen f k y p1 p2 p3 :=
  ⟨h.ld.later hb, h.fr.later hb, h.kp.trans (Kept.of_below hb)⟩
theorem HL.setSeen {W : World} {f : Nat} {k : Int} {y : Bool} {p1 p2 p3 : Int} (h : HL w W lb id n cap deal att aw st wait vh hs ph seen f k y p1 p2 p3) (hlb : lb < w.heap.size) (x : Int) : HL w (W.setCell ⟨lb, 8, none⟩ (.int .i64 x)) lb id n cap deal att aw st wait vh hs ph x f k y p1 p2 p3 :=
  ⟨h.ld.setSeen x, ⟨(heap_setCell_other _ _ _ _ (by show w.heap.size ≠ lb; omega)).trans h.fr.row⟩, h.kp.set1 8 _⟩
set_option maxHeartbeats 8000000 in
set_option maxRecDepth 100000 in
theorem rlhear_no (f : Nat) (k : Int) (p1 p2 p3 sn : Int) (h : RLd w lb id n cap deal att aw st k vh hs ph seen) (hl : hs.length ≤ 100) (hk : k = 2 ∨ k = 4 ∨ k = 6) (hf : f < n) (hx : fromL hs f = none) (hn7 : n ≤ 7) (hsn : (if k ≠ 2 ∧ seen < p2 then p2 else seen) = sn) :
    Calls Tryz.prog 106 #[.pointer (some ⟨lb, 0, none⟩), frV f id deal k att false p1 p2 p3] w fun e w' => ∃ v, e = .returned v ∧ IsFr w' v (if k = 2 then sentL id deal 7 att 3 true n else []) ∧ RLd w' lb id n cap deal att aw (if k = 2 then stB 2 else stB 3) 0 vh hs ph sn ∧ Kept (In1 lb) w w' := by
  obtain ⟨W, HW⟩ : ∃ W, Hid (w.alloc (.cells #[.int .i64 (f : Int), .int .i64 (id : Int), .int .i64 deal, .int .i64 k, .int .i64 att, .bool false, .int .i64 p1, .int .i64 p2, .int .i64 p3] 130) = W) := ⟨_, rfl⟩
  have HB : Hid (Below w.heap.size w W) := by rw [← HW.out]; exact (Below.refl _ _).alloc (Nat.le_refl _) _
  have hlbw : lb < w.heap.size := row_ltJ h.row
  have HI : Hid (HL w W lb id n cap deal att aw st k vh hs ph seen f k false p1 p2 p3) := ⟨h.later HB.out, by rw [← HW.out]; exact ⟨heap_alloc_new w _⟩, Kept.of_below HB.out⟩
  obtain ⟨b0, b1, b2, b3, b4, b5, b6, b7, b8⟩ := nine HI.out.fr.row
  obtain ⟨c0, c1, c2, c3, c4, c5, c6, c7, c8⟩ := HI.out.ld.cells
  have hW := HW.out
  have e0 : (k == 0) = false := beq_eq_false_iff_ne.2 (by omega)
  have f7 : ¬ (n : Int) ≤ (f : Int) := by omega
  have HX := hid hx
  clear h hx
  go_enter Tryz.func106, Tryz.ntmps106
  go_wp2_with fail
  go_quiet (fail)
  have HB2 := hid (below_drewN (Below.refl W.heap.size W) nq)
  generalize W.drewN nq = V at HB2 ⊢
  have HI2 := hid (HI.out.later HB2.out)
  clear b0 b1 b2 b3 b4 b5 b6 b7 b8 c0 c1 c2 c3 c4 c5 c6 c7 c8 HI HB2 hW HW HB e0 f7
  obtain ⟨b0, b1, b2, b3, b4, b5, b6, b7, b8⟩ := nine HI2.out.fr.row
  go_wp2_with fail
  refine (rlfrom_any lb id n cap deal att aw st k vh hs ph seen f _ HI2.out.ld (by omega)).mono ?_
  rw [HX.out, frO_none]
  simp only [Option.isSome]
  rintro e w1 ⟨rfl, hb1⟩
  have HI3 := hid ((HI2.out.later hb1).later ((Below.refl _ _).alloc (Nat.le_refl _) (.cells #[.int .i64 0, .int .i64 0, .int .i64 0, .int .i64 0, .int .i64 0, .bool false, .int .i64 0, .int .i64 0, .int .i64 0] 130)))
  clear hb1
  obtain ⟨X, HXw⟩ : ∃ X, Hid (w1.alloc (.cells #[.int .i64 0, .int .i64 0, .int .i64 0, .int .i64 0, .int .i64 0, .bool false, .int .i64 0, .int .i64 0, .int .i64 0] 130) = X) := ⟨_, rfl⟩
  rw [HXw.out] at HI3
  clear b0 b1 b2 b3 b4 b5 b6 b7 b8 HI2
  obtain ⟨b0, b1, b2, b3, b4, b5, b6, b7, b8⟩ := nine HI3.out.fr.row
  obtain ⟨c0, c1, c2, c3, c4, c5, c6, c7, c8⟩ := HI3.out.ld.cells
  have z8 := HI3.out.ld.fz 8
  have HSn := hid hsn
  clear hsn
  obtain ⟨bb, HBB⟩ : ∃ b : Bool, Hid (decide (k ≠ 2 ∧ seen < p2) = b) := ⟨_, hid (Eq.refl _)⟩
  go_upto_region 13 with fail
  rw [HXw.out]
  go_cut [92] from 16 (fun s92 wx => s92 = .bool bb ∧ Below X.heap.size X wx)
  case first =>
    by_cases g1 : k = 2
    · have hb : bb = false := by rw [← HBB.out]; exact decide_eq_false (fun x => x.1 g1)
      subst hb
      subst g1
      go_quiet (fail)
      go_wp2_with fail
      go_meet
      exact ⟨rfl, below_drewN (Below.refl _ _) _⟩
    · have e1 : (k != 2) = true := bne_iff_ne.2 g1
      by_cases g2 : seen < p2
      · have hb : bb = true := by rw [← HBB.out]; exact decide_eq_true ⟨g1, g2⟩
        subst hb
        go_quiet (fail)
        go_wp2_with fail
        go_meet
        exact ⟨rfl, below_drewN (Below.refl _ _) _⟩
      · have hb : bb = false := by rw [← HBB.out]; exact decide_eq_false (fun x => g2 x.2)
        subst hb
        go_quiet (fail)
        go_wp2_with fail
        go_meet
        exact ⟨rfl, below_drewN (Below.refl _ _) _⟩
  obtain ⟨rfl, hbx⟩ := hcut
  rename_i wc
  have HI4 := hid (HI3.out.later hbx)
  clear hbx b0 b1 b2 b3 b4 b5 b6 b7 b8 c0 c1 c2 c3 c4 c5 c6 c7 c8 z8 HI3 HXw
  generalize wc = X2 at *
  obtain ⟨b0, b1, b2, b3, b4, b5, b6, b7, b8⟩ := nine HI4.out.fr.row
  obtain ⟨c0, c1, c2, c3, c4, c5, c6, c7, c8⟩ := HI4.out.ld.cells
  have z8 := HI4.out.ld.fz 8
  go_upto_if 92 with fail
  go_cut [] from 16 (fun wx => HL w wx lb id n cap deal att aw st k vh hs ph sn f k false p1 p2 p3)
  case first =>
    cases bb with
    | true =>
      have hq := of_decide_eq_true HBB.out
      have HSe : Hid (sn = p2) := by unfold Hid; rw [← HSn.out]; exact if_pos hq
      go_wp2_with fail
      go_meet
      rw [HSe.out]
      exact HI4.out.setSeen hlbw p2
    | false =>
      have hq := of_decide_eq_false HBB.out
      have HSe : Hid (sn = seen) := by unfold Hid; rw [← HSn.out]; exact if_neg hq
      go_wp2_with fail
      go_meet
      rw [HSe.out]
      exact HI4.out
  rename_i wc
  have HI5 := hid hcut
  clear hcut HI4 b0 b1 b2 b3 b4 b5 b6 b7 b8 c0 c1 c2 c3 c4 c5 c6 c7 c8 z8
  generalize wc = X3 at *
  obtain ⟨b0, b1, b2, b3, b4, b5, b6, b7, b8⟩ := nine HI5.out.fr.row
  obtain ⟨c0, c1, c2, c3, c4, c5, c6, c7, c8⟩ := HI5.out.ld.cells
  by_cases g1 : k = 2
  · subst g1
    go_wp2_with fail
    refine (rldecide_any 3 HI5.out.ld (by omega)).mono ?_
    rintro e v1 ⟨v, rfl, hv, hr, hk1⟩
    have HV := hid hv
    have HR := hid hr
    have HK := hid (HI5.out.kp.trans hk1)
    clear hv hr hk1
    go_wp2_with fail
    go_ret
    exact ⟨_, rfl, HV.out, HR.out, HK.out⟩
  · have e1 : (k == 2) = false := beq_eq_false_iff_ne.2 g1
    have z4 := HI5.out.ld.fz 4
    have z5 := HI5.out.ld.fz 5
    have HF := hid ((HI5.out.ld.setSt (stB 3)).setWait 0)
    have HK : Hid (Kept (In1 lb) w ((X3.setCell ⟨lb, 4, none⟩ (.string (stB 3))).setCell ⟨lb, 5, none⟩ (.int .i64 0))) := (HI5.out.kp.set1 4 _).set1 5 _
    rw [stB3] at HF HK
    go_wp2_with fail
    go_ret
    exact ⟨_, rfl, by first | exact IsFr.zero _ | (rw [if_neg g1]; exact IsFr.zero _), by first | exact HF.out | (rw [if_neg g1, stB3]; exact HF.out), HK.out⟩
end
end Go.Proofs.YtbaamegnmeohoacGreatDoor
namespace Go.Proofs.YtbaamegnmeohoacGreatDoor
def putB (B : ByteArray) (a : Nat) (s : ByteArray) (k : Nat) : ByteArray := B.extract 0 a ++ s.extract 0 k ++ B.extract (a + k) B.size
theorem ext_list (B : ByteArray) (i j : Nat) : (B.extract i j).data.toList = (B.data.toList.drop i).take (j - i) := by
  have h := ByteArray.extract_mk B.data.toList i j
  have e : ByteArray.mk B.data.toList.toArray = B := by cases B; simp
  rw [e] at h
  rw [h]
theorem size_list (B : ByteArray) : B.size = B.data.toList.length := rfl
theorem putB_list (B : ByteArray) (a : Nat) (s : ByteArray) (k : Nat) : (putB B a s k).data.toList = B.data.toList.take a ++ s.data.toList.take k ++ B.data.toList.drop (a + k) := by
  unfold putB
  rw [ByteArray.data_append, ByteArray.data_append, Array.toList_append, Array.toList_append, ext_list, ext_list, ext_list]
  simp only [List.drop_zero, Nat.sub_zero]
  congr 1
  rw [List.take_of_length_le]
  rw [List.length_drop, size_list]
  exact Nat.le_refl _
theorem size_putB {B : ByteArray} {a : Nat} {s : ByteArray} {k : Nat} (h : a + k ≤ B.size) (hk : k ≤ s.size) : (putB B a s k).size = B.size := by
  rw [size_list] at h hk
  rw [size_list, size_list, putB_list]
  simp only [List.length_append, List.length_take, List.length_drop]
  omega
theorem ba_ext {X Y : ByteArray} (h : X.data.toList = Y.data.toList) : X = Y := ByteArray.ext (Array.ext' h)
theorem putB_zero {B : ByteArray} {a : Nat} {s : ByteArray} : putB B a s 0 = B := by
  apply ba_ext
  rw [putB_list]
  simp
theorem put_step {α : Type} (L S : List α) (a k : Nat) (d : α) (h : a + k < L.length) (hk : k < S.length) :
    L.take a ++ S.take (k + 1) ++ L.drop (a + (k + 1)) = (L.take a ++ S.take k ++ L.drop (a + k)).set (a + k) (S.getD k d) := by
  apply List.ext_getElem?
  intro j
  simp only [List.getElem?_set, List.getElem?_append, List.length_append, List.length_take, List.getElem?_take, List.getElem?_drop, List.length_drop]
  have e1 : min a L.length = a := by omega
  have e2 : min (k + 1) S.length = k + 1 := by omega
  have e3 : min k S.length = k := by omega
  simp only [e1, e2, e3]
  rcases Nat.lt_trichotomy j (a + k) with h1 | h1 | h1
  · by_cases h2 : j < a
    · simp [h2, show j < a + (k + 1) by omega, show ¬ a + k = j by omega, show j < a + k by omega]
    · simp [h2, show j < a + (k + 1) by omega, show ¬ a + k = j by omega, show j < a + k by omega, show j - a < k + 1 by omega, show j - a < k by omega]
  · subst h1
    simp [show a + k < a + (k + 1) by omega, show a + k - a = k by omega, show k < k + 1 by omega, hk, List.getD]
    rw [if_neg (by omega), if_pos (by omega)]
  · simp [show ¬ j < a + (k + 1) by omega, show ¬ a + k = j by omega, show ¬ j < a + k by omega]
    congr 1
    omega
theorem getB {s : ByteArray} {k : Nat} (hk : k < s.size) : s[k]'hk = s.data.toList[k]'hk := by
  have : s[k]'hk = s.data[k]'hk := rfl
  rw [this, ← Array.getElem_toList]
theorem putB_succ {B : ByteArray} {a : Nat} {s : ByteArray} {k : Nat} (h : a + k < B.size) (hk : k < s.size) :
    (Lib.strCells (putB B a s (k + 1))).toArray = (Lib.strCells (putB B a s k)).toArray.setIfInBounds (a + k) (.int .u8 ((s[k]'hk).toNat : Int)) := by
  apply Array.ext'
  rw [size_list] at h
  have hk' := hk
  rw [size_list] at hk'
  simp only [Lib.strCells, Array.toList_setIfInBounds]
  rw [putB_list, putB_list, put_step _ _ a k 0 h hk', List.map_set]
  congr 1
  rw [getB hk, List.getD_eq_getElem?_getD, List.getElem?_eq_getElem hk']
  rfl
theorem strCells_at {B : ByteArray} {j : Nat} (h : j < B.size) : (Lib.strCells B)[j]? = some (.int .u8 ((B[j]'h).toNat : Int)) := by
  rw [Lib.strCells, List.getElem?_map, List.getElem?_eq_getElem h, getB h]
  rfl
def wideL (n : Nat) : Nat → List UInt8
  | 0 => []
  | k + 1 => wideL (n / 256) k ++ [UInt8.ofNat (n % 256)]
theorem wideL_length (k : Nat) : ∀ n, (wideL n k).length = k := by
  induction k with
  | zero => intro n; rfl
  | succ k ih => intro n; simp [wideL, ih]
def numL (l : List UInt8) : Nat := l.foldl (fun n b => 256 * n + b.toNat) 0
theorem numL_snoc (l : List UInt8) (b : UInt8) : numL (l ++ [b]) = 256 * numL l + b.toNat := by simp [numL]
theorem numL_wide (k : Nat) : ∀ n, numL (wideL n k) = n % 256 ^ k := by
  induction k with
  | zero => intro n; simp [wideL, numL, Nat.mod_one]
  | succ k ih =>
    intro n
    rw [wideL, numL_snoc, ih]
    have h : (UInt8.ofNat (n % 256)).toNat = n % 256 := by simp
    rw [h, Nat.pow_succ, Nat.mul_comm (256 ^ k) 256, Nat.mod_mul]
    omega
theorem numL_lt (l : List UInt8) : numL l < 256 ^ l.length := by
  have gen : ∀ r : List UInt8, numL r.reverse < 256 ^ r.length := by
    intro r
    induction r with
    | nil => simp [numL]
    | cons b r ih =>
      rw [List.reverse_cons, numL_snoc, List.length_cons, Nat.pow_succ]
      have hb := UInt8.toNat_lt b
      omega
  have := gen l.reverse
  rwa [List.reverse_reverse, List.length_reverse] at this
def crcBit (c b k : Nat) : Nat := if (c ^^^ (b / 2 ^ k)) % 2 = 1 then (c / 2) ^^^ 3988292384 else c / 2
def crcBits (c b : Nat) : Nat → Nat
  | 0 => c
  | k + 1 => crcBit (crcBits c b k) b k
def crcFold (c : Nat) : List UInt8 → Nat
  | [] => c
  | b :: l => crcFold (crcBits c b.toNat 8) l
def crcL (l : List UInt8) : Nat := crcFold 4294967295 l ^^^ 4294967295
theorem crcBit_lt {c : Nat} (h : c < 4294967296) (b k : Nat) : crcBit c b k < 4294967296 := by
  unfold crcBit
  split
  · exact Nat.xor_lt_two_pow (n := 32) (by omega) (by decide)
  · omega
theorem crcBits_lt {c : Nat} (h : c < 4294967296) (b : Nat) : ∀ k, crcBits c b k < 4294967296
  | 0 => h
  | k + 1 => crcBit_lt (crcBits_lt h b k) b k
theorem crcFold_lt : ∀ (l : List UInt8) {c : Nat}, c < 4294967296 → crcFold c l < 4294967296
  | [], _, h => h
  | b :: l, _, h => crcFold_lt l (crcBits_lt h b.toNat 8)
theorem crcL_lt (l : List UInt8) : crcL l < 4294967296 := Nat.xor_lt_two_pow (n := 32) (crcFold_lt l (by decide)) (by decide)
theorem crcFold_snoc (b : UInt8) : ∀ (l : List UInt8) (c : Nat), crcFold c (l ++ [b]) = crcBits (crcFold c l) b.toNat 8
  | [], _ => rfl
  | x :: l, c => crcFold_snoc b l (crcBits c x.toNat 8)
structure St where
  ph : Nat
  pr : Nat
  at_ : Nat
def stSame (a b : St) : Bool := decide (a.ph = b.ph ∧ a.pr = b.pr ∧ a.at_ = b.at_)
theorem stSame_true {a b : St} (h : stSame a b = true) : a = b := by
  obtain ⟨h1, h2, h3⟩ := of_decide_eq_true h
  cases a; cases b
  cases h1; cases h2; cases h3; rfl
theorem stSame_false {a b : St} (h : stSame a b = false) : ¬ a = b := fun e => of_decide_eq_false h (by subst e; exact ⟨rfl, rfl, rfl⟩)
def stEq (a b : St) : Decidable (a = b) := if h : stSame a b = true then .isTrue (stSame_true h) else .isFalse (stSame_false (Bool.eq_false_iff.2 h))
def St.zero : St := ⟨0, 0, 0⟩
def St.fits (s : St) : Prop := s.ph < 256 ∧ s.pr < 4294967296 ∧ s.at_ < 4294967296
def textL (n : Nat) (s : St) : List UInt8 := wideL n 4 ++ wideL s.ph 1 ++ wideL s.pr 4 ++ wideL s.at_ 4
def bodyL (n : Nat) (s : St) : List UInt8 := textL n s ++ wideL (crcL (textL n s)) 4
theorem textL_length (n : Nat) (s : St) : (textL n s).length = 13 := by simp [textL, wideL_length]
theorem bodyL_length (n : Nat) (s : St) : (bodyL n s).length = 17 := by simp [bodyL, textL_length, wideL_length]
def readN (t : List UInt8) : Nat := numL (t.take 4)
def readS (t : List UInt8) : St := ⟨numL ((t.drop 4).take 1), numL ((t.drop 5).take 4), numL ((t.drop 9).take 4)⟩
def heldL (k : Nat) (t : List UInt8) : Nat × St := if 1 ≤ readN t ∧ readN t % 2 = k % 2 ∧ bodyL (readN t) (readS t) ++ [165] = t then (readN t, readS t) else (0, St.zero)
theorem take_app {α : Type} {a b : List α} {n : Nat} (h : a.length = n) : (a ++ b).take n = a := by rw [← h]; simp
theorem drop_app {α : Type} {a b : List α} {n : Nat} (h : a.length = n) : (a ++ b).drop n = b := by rw [← h]; simp
theorem readN_body (n : Nat) (s : St) (r : List UInt8) (hn : n < 4294967296) : readN (bodyL n s ++ r) = n := by
  unfold readN bodyL textL
  rw [List.append_assoc, List.append_assoc, List.append_assoc, List.append_assoc, take_app (wideL_length 4 n), numL_wide]
  exact Nat.mod_eq_of_lt hn
theorem readS_body (n : Nat) (s : St) (r : List UInt8) (hs : s.fits) : readS (bodyL n s ++ r) = s := by
  obtain ⟨h1, h2, h3⟩ := hs
  have e : bodyL n s ++ r = wideL n 4 ++ (wideL s.ph 1 ++ (wideL s.pr 4 ++ (wideL s.at_ 4 ++ (wideL (crcL (textL n s)) 4 ++ r)))) := by simp [bodyL, textL]
  have d4 : (bodyL n s ++ r).drop 4 = wideL s.ph 1 ++ (wideL s.pr 4 ++ (wideL s.at_ 4 ++ (wideL (crcL (textL n s)) 4 ++ r))) := by rw [e, drop_app (wideL_length 4 n)]
  have d5 : (bodyL n s ++ r).drop 5 = wideL s.pr 4 ++ (wideL s.at_ 4 ++ (wideL (crcL (textL n s)) 4 ++ r)) := by
    rw [show (5 : Nat) = 4 + 1 from rfl, ← List.drop_drop, d4, drop_app (wideL_length 1 _)]
  have d9 : (bodyL n s ++ r).drop 9 = wideL s.at_ 4 ++ (wideL (crcL (textL n s)) 4 ++ r) := by
    rw [show (9 : Nat) = 5 + 4 from rfl, ← List.drop_drop, d5, drop_app (wideL_length 4 _)]
  unfold readS
  rw [d4, d5, d9, take_app (wideL_length 1 _), take_app (wideL_length 4 _), take_app (wideL_length 4 _), numL_wide, numL_wide, numL_wide, Nat.mod_eq_of_lt (by simpa using h1), Nat.mod_eq_of_lt (by simpa using h2), Nat.mod_eq_of_lt (by simpa using h3)]
theorem heldL_body (k n : Nat) (s : St) (h1 : 1 ≤ n) (hn : n < 4294967296) (hk : n % 2 = k % 2) (hs : s.fits) : heldL k (bodyL n s ++ [165]) = (n, s) := by
  unfold heldL
  rw [readN_body n s _ hn, readS_body n s _ hs, if_pos ⟨h1, hk, rfl⟩]
theorem heldL_torn (k : Nat) (t : List UInt8) (b : UInt8) (h : t.getLast? = some b) (hb : b ≠ 165) : heldL k t = (0, St.zero) := by
  unfold heldL
  rw [if_neg]
  rintro ⟨_, _, h3⟩
  rw [← h3] at h
  simp at h
  exact hb h.symm
theorem heldL_parity (k : Nat) (t : List UInt8) (h : (heldL k t).1 ≠ 0) : (heldL k t).1 % 2 = k % 2 := by
  unfold heldL at h ⊢
  split
  · rename_i g; exact g.2.1
  · rename_i g; rw [if_neg g] at h; exact absurd rfl h
theorem heldL_zero (k : Nat) (t : List UInt8) (h : (heldL k t).1 = 0) : heldL k t = (0, St.zero) := by
  unfold heldL at h ⊢
  split
  · rename_i g; rw [if_pos g] at h; exact absurd h (by have := g.1; omega)
  · rfl
theorem readN_lt (t : List UInt8) : readN t < 4294967296 := by
  have h := numL_lt (t.take 4)
  have h2 : (t.take 4).length ≤ 4 := by simp; omega
  have h3 : 256 ^ (t.take 4).length ≤ 256 ^ 4 := Nat.pow_le_pow_right (by decide) h2
  unfold readN
  have h4 : (256 : Nat) ^ 4 = 4294967296 := by decide
  omega
theorem heldL_lt (k : Nat) (t : List UInt8) : (heldL k t).1 < 4294967296 := by
  unfold heldL
  split
  · exact readN_lt t
  · decide
structure HOut where
  st : St
  k : Nat
  yes : Bool
def finB (p : Nat) : Bool := decide (p = 2 ∨ p = 3)
def askP (s : St) (ref : Bool) : Nat := if s.ph = 0 then (if ref = true then 3 else 1) else s.ph
def hearL (s : St) (ref : Bool) (k a ph : Nat) : HOut :=
  if k = 1 then ⟨⟨askP s ref, s.pr, s.at_⟩, 2, decide (askP s ref ≠ 3)⟩
  else if k = 3 then (if s.pr < a then ⟨⟨s.ph, a, s.at_⟩, 4, true⟩ else ⟨s, 4, false⟩)
  else if k = 5 then (if ph = 4 ∨ ph = 5 then (if s.pr ≤ a ∧ finB s.ph = false then ⟨⟨ph, a, a⟩, 6, true⟩ else ⟨s, 6, false⟩) else ⟨s, 0, false⟩)
  else if k = 7 then (if finB ph = true ∧ finB s.ph = false then ⟨⟨ph, s.pr, s.at_⟩, 0, false⟩ else ⟨s, 0, false⟩)
  else ⟨s, 0, false⟩
def St.good (s : St) : Prop := s.ph ≤ 5 ∧ s.pr ≤ 1048576 ∧ s.at_ ≤ s.pr
def mayN (a b : Nat) : Prop := a ≤ 5 ∧ b ≤ 5 ∧ (a = b ∨ a = 0 ∨ (a = 1 ∧ b ≠ 0) ∨ ((a = 4 ∨ a = 5) ∧ b ≠ 0 ∧ b ≠ 1))
theorem hear_good (s : St) (ref : Bool) (k a ph : Nat) (h : s.good) (ha : a ≤ 1048576) (hp : ph ≤ 5) : (hearL s ref k a ph).st.good ∧ s.pr ≤ (hearL s ref k a ph).st.pr ∧ s.at_ ≤ (hearL s ref k a ph).st.at_ ∧ mayN s.ph (hearL s ref k a ph).st.ph := by
  obtain ⟨h1, h2, h3⟩ := h
  unfold hearL
  repeat' split
  · unfold askP St.good mayN
    simp only
    refine ⟨⟨?_, h2, h3⟩, Nat.le_refl _, Nat.le_refl _, h1, ?_, ?_⟩
    · repeat' split
      all_goals omega
    · repeat' split
      all_goals omega
    · repeat' split
      all_goals omega
  · rename_i hlt
    exact ⟨⟨h1, ha, by show s.at_ ≤ a; omega⟩, by show s.pr ≤ a; omega, Nat.le_refl _, h1, h1, .inl rfl⟩
  · exact ⟨⟨h1, h2, h3⟩, Nat.le_refl _, Nat.le_refl _, h1, h1, .inl rfl⟩
  · rename_i hph hpr
    obtain ⟨hpr, hf⟩ := hpr
    have hf2 := of_decide_eq_false hf
    refine ⟨⟨hp, ha, Nat.le_refl _⟩, hpr, by show s.at_ ≤ a; omega, h1, hp, ?_⟩
    show s.ph = ph ∨ s.ph = 0 ∨ (s.ph = 1 ∧ ph ≠ 0) ∨ ((s.ph = 4 ∨ s.ph = 5) ∧ ph ≠ 0 ∧ ph ≠ 1)
    omega
  · exact ⟨⟨h1, h2, h3⟩, Nat.le_refl _, Nat.le_refl _, h1, h1, .inl rfl⟩
  · exact ⟨⟨h1, h2, h3⟩, Nat.le_refl _, Nat.le_refl _, h1, h1, .inl rfl⟩
  · rename_i hf
    have e1 := of_decide_eq_true hf.1
    have e2 := of_decide_eq_false hf.2
    refine ⟨⟨hp, h2, h3⟩, Nat.le_refl _, Nat.le_refl _, h1, hp, ?_⟩
    show s.ph = ph ∨ s.ph = 0 ∨ (s.ph = 1 ∧ ph ≠ 0) ∨ ((s.ph = 4 ∨ s.ph = 5) ∧ ph ≠ 0 ∧ ph ≠ 1)
    omega
  · exact ⟨⟨h1, h2, h3⟩, Nat.le_refl _, Nat.le_refl _, h1, h1, .inl rfl⟩
  · exact ⟨⟨h1, h2, h3⟩, Nat.le_refl _, Nat.le_refl _, h1, h1, .inl rfl⟩
end Go.Proofs.YtbaamegnmeohoacGreatDoor
