/-
  WALKS of the document's answer for weights (threefoldref1): WeightsError, SetError, Has, Sum, Enough, Needed.
  PACKAGE lead: begin, Begin, Try.
  EVENTS: a site decides; a slice of them in memory.
  PLAIN: a world by its data: sites with plates and leads, broken links, frames on their way, events; what each step makes of it.
  PLAIN: what stands of a site of a world behind a frame.
  PLAIN: a whole world: what stands of each deal and of the events along every step: no two sites decide otherwise.
  slices.Delete of one frame; frames that a world owns, wherever in their row they begin.
  A WORLD IN MEMORY (package world): its row, its sites' rows, its leads, what it owns by colours.
  WALKS of package world: has, find, findDeal, powered, flies, isEnd, known.
-/
import Derived.Test.YtdpemmmbkjmplabGreatDoorBa6
import Derived.Test.YtdpemmmbkjmplabGreatDoorBa1
import Derived.Test.YtdpemmmbkjmplabGreatDoorBa4
import Derived.Test.YtdpemmmbkjmplabGreatDoorBa5
import Derived.Test.YtdpemmmbkjmplabGreatDoorBa2
import Derived.Laws.OwnMore
import Derived.Deep.RegionLaw
import Derived.Deep.MidRow
import Derived.Laws.IdiomCopy
import Derived.Lib.SliceRun
import Derived.DeepKeys4
namespace Go.Proofs.YtdpemmmbkjmplabGreatDoor
open Go.RowKit

theorem rErr_shape (a : Option Addr) (len cap : Nat) (w : World) (hm : len ≤ maxLen) (h : len < 1 ∨ 7 < len) :
    Calls Tryz.prog 8 #[.slice a len cap] w fun e w' => e = .returned (.int .i64 3) ∧ w' = w := by
  unfold maxLen at hm
  rcases h with h | h
  · have : len = 0 := by omega
    subst this
    go_enter Tryz.func8, Tryz.ntmps8
    go_wp2
    go_ret
    exact ⟨rfl, rfl⟩
  · go_enter Tryz.func8, Tryz.ntmps8
    go_wp2
    go_ret
    exact ⟨rfl, rfl⟩
set_option maxHeartbeats 1000000 in
theorem rErr_in (b off cap : Nat) (zs : List Int) (w : World) (h : ¬ (zs.length < 1 ∨ 7 < zs.length))
    (hc : ∀ i, i < zs.length → w.cell? ⟨b, off + i, none⟩ = some (.int .i64 (zs.getD i 0))) :
    Calls Tryz.prog 8 #[.slice (some ⟨b, off, none⟩) zs.length cap] w fun e w' => e = .returned (.int .i64 (errW zs)) ∧ w' = w := by
  have hB : ∀ k, k < zs.length → (zs.getD k 0 < 0 ∨ 1000 < zs.getD k 0) → Hid ((errW zs : Int) = 2) := fun k hk hb => by unfold Hid; rw [errW_bound h hk hb]; rfl
  have hN : okTo zs zs.length → tot zs = 0 → Hid ((errW zs : Int) = 4) := fun g e => by unfold Hid; rw [errW_ok h g, if_pos e]; rfl
  have hZ : okTo zs zs.length → ¬ tot zs = 0 → Hid ((errW zs : Int) = 0) := fun g e => by unfold Hid; rw [errW_ok h g, if_neg e]; rfl
  have hlo : ¬ zs.length < 1 := fun g => h (.inl g)
  have hhi : ¬ 7 < zs.length := fun g => h (.inr g)
  clear h
  go_enter Tryz.func8, Tryz.ntmps8
  go_wp2
  go_loop [3, 4] (fun x i => ∃ k : Nat, k ≤ zs.length ∧ okTo zs k ∧ i = .int .i64 k ∧ x = .int .i64 (psum zs k)) (fun _ i => zs.length - (intOf i).toNat)
  case atStart => exact ⟨0, Nat.zero_le _, fun i hi => absurd hi (by omega), rfl, rfl⟩
  case round =>
    obtain ⟨k, hk, hok, rfl, rfl⟩ := hrel
    have hpb := psum_bd hok
    by_cases hlt : k < zs.length
    · have hck := hc k hlt
      have hB' := hB k hlt
      have hS : Hid (psum zs (k + 1) = psum zs k + zs.getD k 0) := rfl
      have hO : 0 ≤ zs.getD k 0 → zs.getD k 0 ≤ 1000 → okTo zs (k + 1) := okTo_succ hok
      clear hB hN hZ hc
      rw [getD_lt zs k hlt] at hB' hO hck
      go_wp2
      · go_ret
        exact ⟨ret_int (hB' (by omega)).out.symm, rfl⟩
      · go_round
        case rel => exact ⟨k + 1, by omega, hO (by omega) (by omega), by go_num, val_int (by rw [hS.out, getD_lt zs k hlt])⟩
        case measure => simp [intOf]; omega
      · go_ret
        exact ⟨ret_int (hB' (by omega)).out.symm, rfl⟩
    · have hke : k = zs.length := by omega
      subst hke
      have hN' := hN hok
      have hZ' := hZ hok
      clear hB hN hZ hc
      go_wp2
      · have hz : (psum zs zs.length == 0) = true := by assumption
        go_ret
        exact ⟨ret_int (hN' (show psum zs zs.length = 0 by simpa using hz)).out.symm, rfl⟩
      · have hz : (psum zs zs.length == 0) = false := by assumption
        go_ret
        exact ⟨ret_int (hZ' (show ¬ psum zs zs.length = 0 by simpa using hz)).out.symm, rfl⟩
theorem rErr_any (v : Value) (zs : List Int) (w : World) (hv : IsSl w v zs) :
    Calls Tryz.prog 8 #[v] w fun e w' => e = .returned (.int .i64 (errW zs)) ∧ w' = w := by
  obtain ⟨a, cap, rfl, hm, -, hc⟩ := hv
  by_cases h : zs.length < 1 ∨ 7 < zs.length
  · rw [errW_shape h]; exact rErr_shape a zs.length cap w hm h
  · obtain ⟨b, off, rfl, hcc⟩ := hc (by omega)
    exact rErr_in b off cap zs w h hcc

theorem rHas_any (s : Int) (i : Nat) (w : World) (hi : i ≤ 30) (h0 : 0 ≤ s) (h1 : s ≤ 1073741824) :
    Calls Tryz.prog 12 #[.int .i64 s, .int .i64 i] w fun e w' => e = .returned (.bool (bit s i)) ∧ w' = w := by
  have hp := pow_le30 hi
  have hb := hid (bit_has i h0)
  go_enter Tryz.func12, Tryz.ntmps12
  go_wp2_with (go_at_call 9; refine (two_any i _ hi).mono ?_; rintro e w' ⟨rfl, rfl⟩)
  go_ret
  exact ⟨congrArg (fun x => Ending.returned (.bool x)) (by rw [Int.tmod_eq_emod_of_nonneg (Int.ediv_nonneg h0 (by omega))]; exact hb.out), rfl⟩
theorem rHas_is (s : Int) (i : Nat) (x : Bool) (w : World) (hi : i ≤ 30) (h0 : 0 ≤ s) (h1 : s ≤ 1073741824) (hx : bit s i = x) :
    Calls Tryz.prog 12 #[.int .i64 s, .int .i64 i] w fun e w' => e = .returned (.bool x) ∧ w' = w := by
  subst hx; exact rHas_any s i w hi h0 h1

set_option maxHeartbeats 1000000 in
theorem rSum_any (b off cap : Nat) (zs : List Int) (s : Int) (w : World) (hl : zs.length ≤ 7) (hok : okTo zs zs.length) (h0 : 0 ≤ s) (h1 : s ≤ 1073741824)
    (hc : ∀ i, i < zs.length → w.cell? ⟨b, off + i, none⟩ = some (.int .i64 (zs.getD i 0))) :
    Calls Tryz.prog 62 #[.slice (some ⟨b, off, none⟩) zs.length cap, .int .i64 s] w fun e w' => e = .returned (.int .i64 (sumTo zs s zs.length)) ∧ w' = w := by
  have HC := hid hc
  clear hc
  go_enter Tryz.func62, Tryz.ntmps62
  go_wp2
  go_loop [5, 6] (fun x i => ∃ k : Nat, k ≤ zs.length ∧ i = .int .i64 k ∧ x = .int .i64 (sumTo zs s k)) (fun _ i => zs.length - (intOf i).toNat)
  case atStart => exact ⟨0, Nat.zero_le _, rfl, rfl⟩
  case round =>
    obtain ⟨k, hk, rfl, rfl⟩ := hrel
    by_cases hlt : k < zs.length
    · have hck := HC.out k hlt
      have hbd := sumTo_bd s (k := k) (zs := zs) (fun i hi => hok i (by omega))
      have hpb := psum_bd (k := k) (zs := zs) (fun i hi => hok i (by omega))
      have hz := hok k hlt
      have hS : Hid (sumTo zs s (k + 1) = sumTo zs s k + if bit s k then zs.getD k 0 else 0) := rfl
      rw [getD_lt zs k hlt] at hz
      cases hx : bit s k with
      | false =>
        rw [hx] at hS
        have HX := hid hx
        clear hx
        go_wp2_with (go_at_call 12; refine (rHas_is s k false _ (by omega) h0 h1 HX.out).mono ?_; rintro e w' ⟨rfl, rfl⟩)
        go_round
        case rel => exact ⟨k + 1, by omega, by go_num, val_int (by rw [hS.out]; simp)⟩
        case measure => simp [intOf]; omega
      | true =>
        rw [hx] at hS
        have HX := hid hx
        clear hx
        go_wp2_with (go_at_call 12; refine (rHas_is s k true _ (by omega) h0 h1 HX.out).mono ?_; rintro e w' ⟨rfl, rfl⟩)
        go_round
        case rel => exact ⟨k + 1, by omega, by go_num, val_int (by rw [hS.out, getD_lt zs k hlt]; simp)⟩
        case measure => simp [intOf]; omega
    · go_wp2
      go_ret
      exact ⟨ret_int (by rw [show k = zs.length by omega]), rfl⟩

theorem rEnough_any (b off cap : Nat) (zs : List Int) (s : Int) (w : World) (hl : zs.length ≤ 7) (hok : okTo zs zs.length) (h0 : 0 ≤ s) (h1 : s ≤ 1073741824)
    (hc : ∀ i, i < zs.length → w.cell? ⟨b, off + i, none⟩ = some (.int .i64 (zs.getD i 0))) :
    Calls Tryz.prog 28 #[.slice (some ⟨b, off, none⟩) zs.length cap, .int .i64 s] w fun e w' => e = .returned (.bool (enoughB zs s)) ∧ w' = w := by
  have HC := hid hc
  clear hc
  have hp := pow_le7 hl
  have hbd := sumTo_bd s (k := zs.length) (zs := zs) hok
  have hpb := psum_bd (k := zs.length) (zs := zs) hok
  have hall : Hid (sumTo zs (2 ^ zs.length - 1) zs.length = tot zs) := sumTo_all zs (Nat.le_refl _)
  have ht : 0 ≤ tot zs ∧ tot zs ≤ 1000 * zs.length := hpb
  have hfin := hid (enoughB_alt zs s)
  go_enter Tryz.func28, Tryz.ntmps28
  go_wp2_with fail
  refine (rSum_any b off cap zs s _ hl hok h0 h1 HC.out).mono ?_
  rintro e w1 ⟨rfl, h1'⟩
  subst h1'
  go_wp2_with fail
  refine (two_any zs.length _ (by omega)).mono ?_
  rintro e w1 ⟨rfl, h1'⟩
  subst h1'
  go_wp2_with fail
  refine (rSum_any b off cap zs (2 ^ zs.length - 1) _ hl hok (by omega) (by omega) HC.out).mono ?_
  rintro e w1 ⟨rfl, h1'⟩
  subst h1'
  rw [hall.out]
  go_wp2_with fail
  refine (rSum_any b off cap zs s _ hl hok h0 h1 HC.out).mono ?_
  rintro e w1 ⟨rfl, h1'⟩
  subst h1'
  go_wp2_with fail
  go_ret
  exact ⟨congrArg (fun x => Ending.returned (.bool x)) hfin.out, rfl⟩
theorem rEnough_is (b off cap : Nat) (zs : List Int) (s : Int) (x : Bool) (w : World) (hl : zs.length ≤ 7) (hok : okTo zs zs.length) (h0 : 0 ≤ s) (h1 : s ≤ 1073741824)
    (hc : ∀ i, i < zs.length → w.cell? ⟨b, off + i, none⟩ = some (.int .i64 (zs.getD i 0))) (hx : enoughB zs s = x) :
    Calls Tryz.prog 28 #[.slice (some ⟨b, off, none⟩) zs.length cap, .int .i64 s] w fun e w' => e = .returned (.bool x) ∧ w' = w := by
  subst hx; exact rEnough_any b off cap zs s w hl hok h0 h1 hc
end Go.Proofs.YtdpemmmbkjmplabGreatDoor
namespace Go.Proofs.YtdpemmmbkjmplabGreatDoor
open Go.RowKit

set_option maxRecDepth 100000 in
theorem sl_nil (b off n cap : Nat) (w : World) : (binOp .eql 22 (.slice (some ⟨b, off, none⟩) n cap) (.slice none 0 0)).run Tryz.prog w = .ok (.bool false) w := by
  rfl
set_option maxHeartbeats 1000000 in
set_option maxRecDepth 100000 in
theorem clone_any (v : Value) (zs : List Int) (w : World) (hv : IsSl w v zs) (h1 : 1 ≤ zs.length) (hl : zs.length ≤ 30) :
    Calls Tryz.prog 37 #[v] w fun e w' => ∃ v', e = .returned v' ∧ w'.ownsRow w.heap.size 3 1 v' zs.length (zs.map (Value.int .i64)) ∧ Below w.heap.size w w' := by
  obtain ⟨i0, hi, hz0, hz1, hz2⟩ := info_parts Tryz.infoInt
  obtain ⟨a, cap, rfl, hm, -, hc⟩ := hv
  have HM := hid hm
  obtain ⟨b, off, rfl, hcc⟩ := hc (by omega)
  have HC : Hid (∀ o : Obj, ∀ j u, (zs.map (Value.int .i64))[j]? = some u → (w.alloc o).cell? ((⟨b, off, none⟩ : Addr).add j) = some u) := by
    intro o j u hj
    rw [List.getElem?_map] at hj
    rcases Nat.lt_or_ge j zs.length with h | h
    · rw [List.getElem?_eq_getElem h] at hj
      simp at hj
      subst hj
      have := hcc j h
      rw [getD_lt zs j h] at this
      rw [addr_add]; exact cell_alloc _ this
    · rw [List.getElem?_eq_none h] at hj; cases hj
  clear hc hcc
  have HO : Hid (∀ u ∈ zs.map (Value.int .i64), u.oneCell' = true) := by
    intro u hu
    obtain ⟨n, -, rfl⟩ := List.mem_map.1 hu
    rfl
  have HOw : Hid ((w.alloc (.cells #[] 3)).ownsRow w.heap.size 3 1 (.slice (some ⟨w.heap.size, 0, none⟩) 0 0) 0 []) := World.ownsRow_lit w #[] 0 (Nat.le_refl _) (by unfold maxLen; omega) rfl
  have hnil := sl_nil b off zs.length cap
  go_enter Tryz.func37, Tryz.ntmps37
  go_wp2_with (at_builtin; refine wpList_append_own _ rfl _ _ 22 rfl w.heap.size 3 i0 (.int .i64 0) 1 8 Tryz.underlying22 hi hz0 hz1 hz2 rfl (by decide) _ 0 [] rfl HOw.out ⟨b, off, none⟩ zs.length cap (zs.map (Value.int .i64)) rfl (by simp) (HC.out _) HO.out (by have := HM.out; omega) (by omega) (by simp) ?_)
  intro v' w1 hown hgrow _
  have ho2 : w1.ownsRow w.heap.size 3 1 v' zs.length (zs.map (Value.int .i64)) := by simpa using hown
  clear hown
  have HB : Hid (Below w.heap.size w w1) := ((Below.refl _ _).alloc (Nat.le_refl _) (.cells #[] 3)).grown hgrow (by simp) (fun j hj => (HOw.out.lt j hj).1)
  clear hgrow
  go_wp2_with fail
  go_ret
  exact ⟨_, rfl, ho2, HB.out⟩
/-- A lead that has just begun. -/
def P0 : PL := ⟨0, 0, [⟨0, 0, 0⟩, ⟨0, 0, 0⟩, ⟨0, 0, 0⟩, ⟨0, 0, 0⟩, ⟨0, 0, 0⟩, ⟨0, 0, 0⟩, ⟨0, 0, 0⟩], 0, 0, false⟩
theorem P0_w (n : Nat) : PW n P0 := ⟨rfl, Int.le_refl _, Int.pow_pos (by decide)⟩
theorem check_ok (A : Nat → Addr) (v : Value) (zs : List Int) (w : World) (hv : IsSl w v zs) (hE : Held3 w A) (he : errW zs = 0) :
    Calls Tryz.prog 36 #[v] w fun e w' => e = .returned .nilIface ∧ w' = w := by
  have := check_any A v zs w hv hE
  rw [he] at this
  exact this
set_option maxHeartbeats 1000000 in
set_option maxRecDepth 100000 in
theorem ldbegin_ok (A : Nat → Addr) (v : Value) (zs : List Int) (id : Nat) (deal att : Int) (w : World) (hv : IsSl w v zs) (hE : Held3 w A) (he : errW zs = 0) (hid' : id < zs.length) (h0 : 0 ≤ deal) (h1 : deal < 6) :
    Calls Tryz.prog 78 #[.int .i64 (id : Int), .int .i64 deal, v, .int .i64 att] w fun e w' => ∃ lb b cap, e = .returned (.tuple #[.pointer (some ⟨lb, 0, none⟩), .nilIface]) ∧ LD w' lb b cap id deal att zs P0 ∧ Below w.heap.size w w' ∧ w.heap.size ≤ b := by
  have HS := hid hv
  have HE := hid hE
  have HZ := hid he
  obtain ⟨q1, q2, -, -⟩ := errW_zero he
  have hlen : (id : Int) < (zs.length : Int) := by omega
  have g1 : ¬ (zs.length : Int) ≤ (id : Int) := by omega
  obtain ⟨a, cap0, rfl, -, -, -⟩ := hv
  clear hE he
  go_enter Tryz.func78, Tryz.ntmps78
  go_wp2_with (go_at_call 36; refine (check_ok A _ zs _ HS.out HE.out HZ.out).mono ?_; rintro e w1 ⟨rfl, rfl⟩)
  refine (clone_any _ zs _ HS.out q1 (by omega)).mono ?_
  rintro e w1 ⟨v', rfl, ho, hb⟩
  rcases ho.2 with ⟨-, hz⟩ | ⟨g, cap, cur, rfl, hg, hgg, hle, hcap, hsz, htk⟩
  · omega
  have HOw := hid ho
  have HB := hid hb
  clear ho hb hgg hle hcap hsz htk
  go_wp2_with fail
  go_ret2
  have hg2 : g < w1.heap.size := by
    rcases HOw.out.2 with ⟨hx, -⟩ | ⟨g', cap', cur', hx, -, hgg', -⟩
    · cases hx
    · cases hx
      exact row_ltJ hgg'
  refine ⟨w1.heap.size, g, cap, rfl, ⟨heap_alloc_new w1 _, fun i hi => cell_alloc _ ?_, hg2, P0_w _, fun j => Nat.lt_of_lt_of_le (gW_lt HE.out j) HB.out.size⟩, HB.out.alloc HB.out.size _, hg⟩
  have := HOw.out.cellAt i (by omega)
  rw [Nat.zero_add, this]
  simp [hi]
set_option maxRecDepth 100000 in
theorem ldBegin_ok (A : Nat → Addr) (v : Value) (zs : List Int) (id : Nat) (deal : Int) (w : World) (hv : IsSl w v zs) (hE : Held3 w A) (he : errW zs = 0) (hid' : id < zs.length) (h0 : 0 ≤ deal) (h1 : deal < 6) :
    Calls Tryz.prog 44 #[.int .i64 (id : Int), .int .i64 deal, v] w fun e w' => ∃ lb b cap, e = .returned (.tuple #[.pointer (some ⟨lb, 0, none⟩), .nilIface]) ∧ LD w' lb b cap id deal 0 zs P0 ∧ Below w.heap.size w w' ∧ w.heap.size ≤ b := by
  have HC := hid (ldbegin_ok A v zs id deal 0 w hv hE he hid' h0 h1)
  obtain ⟨a, cap0, rfl, -, -, -⟩ := hv
  clear hE he
  go_enter Tryz.func44, Tryz.ntmps44
  go_wp2_with fail
  refine HC.out.mono ?_
  rintro e w1 ⟨lb, b, cap, rfl, hl, hb, hg⟩
  have HL := hid (And.intro hl (And.intro hb hg))
  clear hl hb hg
  go_wp2_with fail
  go_ret2
  exact ⟨lb, b, cap, rfl, HL.out⟩
set_option maxRecDepth 100000 in
theorem ldTry_ok (A : Nat → Addr) (v : Value) (zs : List Int) (id : Nat) (deal att : Int) (w : World) (hv : IsSl w v zs) (hE : Held3 w A) (he : errW zs = 0) (hid' : id < zs.length) (h0 : 0 ≤ deal) (h1 : deal < 6) (a0 : 1 ≤ att) (a1 : att ≤ 1048576) :
    Calls Tryz.prog 106 #[.int .i64 (id : Int), .int .i64 deal, v, .int .i64 att] w fun e w' => ∃ lb b cap, e = .returned (.tuple #[.pointer (some ⟨lb, 0, none⟩), .nilIface]) ∧ LD w' lb b cap id deal att zs P0 ∧ Below w.heap.size w w' ∧ w.heap.size ≤ b := by
  have HC := hid (ldbegin_ok A v zs id deal att w hv hE he hid' h0 h1)
  obtain ⟨a, cap0, rfl, -, -, -⟩ := hv
  have g1 : ¬ att < 1 := by omega
  have g2 : ¬ 1048576 < att := by omega
  clear hE he
  go_enter Tryz.func106, Tryz.ntmps106
  go_wp2_with fail
  refine HC.out.mono ?_
  rintro e w1 ⟨lb, b, cap, rfl, hl, hb, hg⟩
  have HL := hid (And.intro hl (And.intro hb hg))
  clear hl hb hg
  go_wp2_with fail
  go_ret2
  exact ⟨lb, b, cap, rfl, HL.out⟩
/-- State and Seen. -/
theorem ldState_any {w : World} {lb b cap id : Nat} {deal att : Int} {zs : List Int} {P : PL} (h : LD w lb b cap id deal att zs P) :
    Calls Tryz.prog 53 #[.pointer (some ⟨lb, 0, none⟩)] w fun e w' => e = .returned (.string (stP P.stt)) ∧ w' = w := by
  have c4 := h.cells.2.2.2.2.1
  clear h
  go_enter Tryz.func53, Tryz.ntmps53
  go_wp2_with fail
  go_ret
  exact ⟨rfl, rfl⟩
theorem ldSeen_any {w : World} {lb b cap id : Nat} {deal att : Int} {zs : List Int} {P : PL} (h : LD w lb b cap id deal att zs P) :
    Calls Tryz.prog 126 #[.pointer (some ⟨lb, 0, none⟩)] w fun e w' => e = .returned (.int .i64 P.seen) ∧ w' = w := by
  have c28 := h.cells.2.2.2.2.2.2.2.1
  clear h
  go_enter Tryz.func126, Tryz.ntmps126
  go_wp2_with fail
  go_ret
  exact ⟨rfl, rfl⟩
end Go.Proofs.YtdpemmmbkjmplabGreatDoor
namespace Go.Proofs.YtdpemmmbkjmplabGreatDoor
open Go.RowKit

/-- An event. -/
structure E3 where
  s : Int
  d : Int
  p : Int
def e3L (x : E3) : List Value := [.int .i64 x.s, .int .i64 x.d, .int .i64 x.p]
def evCells (L : List E3) : List Value := L.flatMap e3L
/-- The events that lie at a slice's address. -/
def EL (w : World) (a : Option Addr) (L : List E3) : Prop :=
  ∀ i (h : i < L.length), ∃ b off, a = some ⟨b, off, none⟩ ∧ w.cell? ⟨b, off + i * 3, none⟩ = some (.int .i64 (L[i]'h).s) ∧ w.cell? ⟨b, off + i * 3 + 1, none⟩ = some (.int .i64 (L[i]'h).d) ∧ w.cell? ⟨b, off + i * 3 + 2, none⟩ = some (.int .i64 (L[i]'h).p)
theorem EL.later {w w' : World} {a : Option Addr} {L : List E3} (h : EL w a L) (hb : Below w.heap.size w w') : EL w' a L := fun i hi => by
  obtain ⟨b, off, ha, h0, h1, h2⟩ := h i hi
  exact ⟨b, off, ha, cell_later hb h0, cell_later hb h1, cell_later hb h2⟩
theorem EL.nil (w : World) (a : Option Addr) : EL w a [] := fun _ h => absurd h (Nat.not_lt_zero _)
theorem evCells_get : ∀ (L : List E3) (i j : Nat) (h : i < L.length), j < 3 → (evCells L)[i * 3 + j]? = (e3L (L[i]'h))[j]?
  | [], i, _, h, _ => absurd h (Nat.not_lt_zero _)
  | x :: L, 0, j, _, hj => by
    show (e3L x ++ evCells L)[0 * 3 + j]? = _
    rw [Nat.zero_mul, Nat.zero_add, List.getElem?_append_left (by show j < 3; exact hj)]
    rfl
  | x :: L, i + 1, j, h, hj => by
    show (e3L x ++ evCells L)[(i + 1) * 3 + j]? = _
    rw [List.getElem?_append_right (by show 3 ≤ (i + 1) * 3 + j; omega), show (i + 1) * 3 + j - (e3L x).length = i * 3 + j by show (i + 1) * 3 + j - 3 = i * 3 + j; omega]
    exact evCells_get L i j (by simpa using h) hj
/-- What an own row of events holds. -/
theorem own_el {w : World} {base : Nat} {t : TypeId} {v : Value} {L : List E3} (h : w.ownsRow base t 3 v L.length (evCells L)) : ∃ ad cap, v = .slice ad L.length cap ∧ L.length ≤ cap ∧ cap ≤ maxLen ∧ EL w ad L := by
  have hc := h
  rcases h.2 with ⟨rfl, h0⟩ | ⟨g, cap, cur, rfl, hb, hg, hle, hcap, hsz, htk⟩
  · have e : L = [] := List.length_eq_zero_iff.1 h0
    subst e
    exact ⟨none, 0, rfl, Nat.le_refl _, Nat.zero_le _, EL.nil _ _⟩
  · refine ⟨_, cap, rfl, hle, hcap, fun i hi => ⟨g, 0, rfl, ?_, ?_, ?_⟩⟩
    · have := hc.cellAt (i * 3 + 0) (by omega)
      rw [evCells_get L i 0 hi (by decide)] at this
      rw [Nat.zero_add]; exact this
    · have := hc.cellAt (i * 3 + 1) (by omega)
      rw [evCells_get L i 1 hi (by decide)] at this
      rw [Nat.zero_add]; exact this
    · have := hc.cellAt (i * 3 + 2) (by omega)
      rw [evCells_get L i 2 hi (by decide)] at this
      rw [Nat.zero_add]; exact this
end Go.Proofs.YtdpemmmbkjmplabGreatDoor
namespace Go.Proofs.YtdpemmmbkjmplabGreatDoor

/-- A site: what it refuses, its plate's bytes, its power, whether its journal is over, its leads by deals (attempt and lead). -/
structure PN where
  R : Nat → Bool
  B : ByteArray
  l : Int
  over : Bool
  ld : Nat → Option (Int × PL)
/-- A world. -/
structure PX where
  nd : Nat → PN
  br : Nat → Nat → Bool
  fly : List F9
  evs : List E3
def dlN (N : PN) : Nat → Nat × St := dealL N.B.data.toList
def stN (N : PN) (d : Nat) : St := (dlN N d).2
def upN (N : PN) : Bool := N.l != -2
def fallN (N : PN) : PN := { N with l := -2, ld := fun _ => none }
def setLd (N : PN) (d : Nat) (x : Int × PL) : PN := { N with ld := fun e => if e = d then some x else N.ld e }
def setNd (V : PX) (i : Nat) (N : PN) : PX := { V with nd := fun k => if k = i then N else V.nd k }
def sendX (V : PX) (L : List F9) : PX := { V with fly := V.fly ++ L }
/-- What a site makes of a frame. -/
def gHN (N : PN) (f : F9) : HOut := hearL (stN N f.d.toNat) (N.R f.d.toNat) f.k.toNat f.a.toNat f.ph.toNat
def oHN (N : PN) (f : F9) : POut := pOut (dlN N) N.over N.B N.l f.d.toNat (gHN N f).st.ph (gHN N f).st.pr (gHN N f).st.at_
def hearN (N : PN) (f : F9) : PN := if (oHN N f).c = 6 then fallN { N with B := (oHN N f).b, over := (oHN N f).over } else { N with B := (oHN N f).b, l := (oHN N f).l, over := (oHN N f).over }
def ansN (id : Nat) (N : PN) (f : F9) : List F9 := if (oHN N f).c = 0 ∧ (gHN N f).k ≠ 0 then [⟨id, f.f, f.d, (gHN N f).k, f.a, (gHN N f).yes, (gHN N f).st.ph, (gHN N f).st.pr, (gHN N f).st.at_⟩] else []
/-- An end that is known now, and was not when the phase was another one. -/
def noteE (E : List E3) (i d was is : Nat) : List E3 := if is ≠ was ∧ finB is = true ∧ E.length < 500 then E ++ [⟨i, d, is⟩] else E
def hearX (V : PX) (i : Nat) (f : F9) : PX := { setNd V i (hearN (V.nd i) f) with evs := noteE V.evs i f.d.toNat (stN (V.nd i) f.d.toNat).ph (stN (hearN (V.nd i) f) f.d.toNat).ph }
/-- A lead hears a frame. -/
def leadX (zs : List Int) (V : PX) (i d : Nat) (f : F9) : PX := match (V.nd i).ld d with
  | none => V
  | some x => setNd V i (setLd (V.nd i) d (x.1, (phear zs i d x.1 x.2 f).1))
def leadO (zs : List Int) (V : PX) (i d : Nat) (f : F9) : List F9 := match (V.nd i).ld d with
  | none => []
  | some x => outL i d x.1 zs.length (phear zs i d x.1 x.2 f).2
def isAns (k : Int) : Bool := decide (k = 2 ∨ k = 4 ∨ k = 6)
def arriveX (zs : List Int) (V : PX) (f : F9) : PX := if isAns f.k = true then leadX zs V f.t.toNat f.d.toNat f else hearX V f.t.toNat f
def arriveO (zs : List Int) (V : PX) (f : F9) : List F9 := if isAns f.k = true then leadO zs V f.t.toNat f.d.toNat f else ansN f.t.toNat (V.nd f.t.toNat) f
def brX (V : PX) (a b : Nat) : Bool := V.br (min a b) (max a b)
def reachB (V : PX) (f : F9) : Bool := upN (V.nd f.t.toNat) && (f.f == f.t || !brX V f.f.toNat f.t.toNat)
def takeX (V : PX) (k : Nat) : PX := { V with fly := V.fly.eraseIdx k }
def deliverX (zs : List Int) (V : PX) (k : Nat) (f : F9) : PX := if reachB V f = true then sendX (arriveX zs (takeX V k) f) (arriveO zs (takeX V k) f) else takeX V k
/-- The next attempt. -/
def aboveN (N : PN) (d : Nat) : Int := match N.ld d with
  | none => (stN N d).pr
  | some x => max ((stN N d).pr : Int) x.2.seen
def attemptX (n s : Nat) (above : Int) : Int := above + 1 + ((s : Int) + n - (above + 1) % n) % n
def electF (s d : Nat) (a : Int) : F9 := ⟨s, s, d, 3, a, false, 0, 0, 0⟩
/-- Start of a Try lead: all but itself. -/
def electL (s d : Nat) (a : Int) (n : Nat) : List F9 := (toL s d 3 a 0 n).eraseIdx s
def hearsL (zs : List Int) (s d : Nat) (a : Int) : PL → List F9 → PL × List F9
  | P, [] => (P, [])
  | P, f :: r => ((hearsL zs s d a (phear zs s d a P f).1 r).1, outL s d a zs.length (phear zs s d a P f).2 ++ (hearsL zs s d a (phear zs s d a P f).1 r).2)
def tryX (zs : List Int) (V : PX) (s d : Nat) (a : Int) : PX :=
  if 1048576 < a then V
  else if upN (hearN (V.nd s) (electF s d a)) = false then hearX V s (electF s d a)
  else sendX (setNd (hearX V s (electF s d a)) s (setLd (hearN (V.nd s) (electF s d a)) d (a, (hearsL zs s d a P0 (ansN s (V.nd s) (electF s d a))).1)))
    (electL s d a zs.length ++ (hearsL zs s d a P0 (ansN s (V.nd s) (electF s d a))).2)
def tickD (zs : List Int) (V : PX) (s d : Nat) : PX :=
  @ite PX (stN (V.nd s) d = St.zero) (stEq _ _) V (if finB (stN (V.nd s) d).ph = true then sendX V (toL s d 7 (stN (V.nd s) d).pr (stN (V.nd s) d).ph zs.length)
  else tryX zs V s d (attemptX zs.length s (aboveN (V.nd s) d)))
/-- The deals from d on, k of them; behind a site that is down nothing more is done. -/
def tickX (zs : List Int) (s : Nat) : Nat → Nat → PX → PX
  | 0, _, V => V
  | k + 1, d, V => if upN ((tickD zs V s d).nd s) = true then tickX zs s k (d + 1) (tickD zs V s d) else tickD zs V s d
def heldX (n : Nat) (V : PX) (d : Nat) : Bool := (List.range n).any fun i => ((V.nd i).ld d).isSome || !(decide ((stN (V.nd i) d).ph = 0 ∧ (stN (V.nd i) d).pr = 0 ∧ (stN (V.nd i) d).at_ = 0))
def beginX (zs : List Int) (V : PX) (s d : Nat) : PX := sendX (setNd V s (setLd (V.nd s) d (0, P0))) (toL s d 1 0 0 zs.length)
def refuseX (V : PX) (s d : Nat) : PX := setNd V s { V.nd s with R := updR (V.nd s).R d }
def twiceX (V : PX) (k : Nat) (f : F9) : PX := { V with fly := V.fly.take k ++ f :: V.fly.drop k }
def linkX (V : PX) (a b : Nat) (whole : Bool) : PX := { V with br := fun x y => if x = min a b ∧ y = max a b then !whole else V.br x y }
def cutX (V : PX) (s : Nat) (n : Int) : PX := setNd V s { V.nd s with l := cL (V.nd s).l n }
def downX (V : PX) (s : Nat) : PX := setNd V s (fallN (V.nd s))
def upX (V : PX) (s : Nat) : PX := setNd V s { V.nd s with l := -1, over := false, R := fun _ => false }
def newN (n : Nat) : PN := ⟨fun _ => false, zeroB n, -1, false, fun _ => none⟩
def newX : PX := ⟨fun _ => newN 512, fun _ _ => false, [], []⟩

/-- What stands of a site along any steps. -/
structure NI (n : Nat) (N : PN) (m : Nat) : Prop where
  gd : ∀ d, d < 6 → (dlN N d).2.good
  nm : ∀ d, d < 6 → (dlN N d).1 ≤ m
  sz : N.B.size = 512
  up : N.l ≠ -2 → N.over = false
  l0 : -2 ≤ N.l
  l1 : N.l ≤ 9223372036854775807
  ld : ∀ d x, N.ld d = some x → N.l ≠ -2 ∧ (0 ≤ x.1 ∧ x.1 ≤ 1048576) ∧ x.2.stt < 4 ∧ (0 ≤ x.2.seen ∧ x.2.seen ≤ 1048576) ∧ PW n x.2
/-- A frame of a world. -/
structure FI (n : Nat) (f : F9) : Prop where
  f0 : 0 ≤ f.f
  f1 : f.f < n
  t0 : 0 ≤ f.t
  t1 : f.t < n
  ok : frOk f.f f.t f.d f.k f.a f.ph f.pr f.pa
/-- What stands of a world along any steps: m bounds how much was done. -/
structure XI (zs : List Int) (V : PX) (m : Nat) : Prop where
  he : errW zs = 0
  nd : ∀ i, i < zs.length → NI zs.length (V.nd i) m
  fr : ∀ f, f ∈ V.fly → FI zs.length f
  fl : V.fly.length ≤ 1000 * m
  ev : V.evs.length ≤ 500
end Go.Proofs.YtdpemmmbkjmplabGreatDoor
namespace Go.Proofs.YtdpemmmbkjmplabGreatDoor

/-- As put_well, for any number of steps. -/
theorem put_wellB {B : ByteArray} {over : Bool} {l : Int} {m d : Nat} {s : St} {o : POut} (hB : 216 ≤ B.size) (h : Well B over l m) (hm : m < 4000000000) (hd : d < 6) (hs : s.good) (ho : pOut (dealL B.data.toList) over B l d s.ph s.pr s.at_ = o) :
    o.e = dealL o.b.data.toList ∧ Well o.b o.over o.l (m + 1) ∧ (∀ e, e ≠ d → dealL o.b.data.toList e = dealL B.data.toList e) ∧ ((o.c = 0 ∧ (dealL o.b.data.toList d).2 = s) ∨ (o.c = 6 ∧ dealL o.b.data.toList d = dealL B.data.toList d)) := by
  subst ho
  unfold pOut
  cases over with
  | true =>
    rw [if_pos rfl]
    exact ⟨rfl, h.mono (Nat.le_succ _), fun _ _ => rfl, .inr ⟨rfl, rfl⟩⟩
  | false =>
    rw [if_neg (by decide), if_pos ⟨by omega, good_fits hs⟩]
    simp only [Int.toNat_natCast]
    have hn := h.num d hd
    have hp := h.pow rfl
    rcases put_out (s := s) hB hd (fits_of (good_fits hs)) (by omega) hp with ⟨c, ov, ee, hl, hs2, hot, hnn⟩ | ⟨c, ov, hl, hdd⟩
    · refine ⟨ee, ⟨fun e he => ?_, fun e he => ?_, fun _ => hl⟩, hot, .inl ⟨c, hs2⟩⟩
      · by_cases g : e = d
        · rw [g, hs2]; exact hs
        · rw [hot e g]; exact h.good e he
      · by_cases g : e = d
        · rw [g]; exact Nat.le_trans hnn (Nat.succ_le_succ hn)
        · rw [hot e g]; have := h.num e he; omega
    · refine ⟨?_, ⟨fun e he => by rw [hdd]; exact h.good e he, fun e he => by rw [hdd]; have := h.num e he; omega, fun g => by rw [ov] at g; cases g⟩, fun e _ => by rw [hdd], .inr ⟨c, by rw [hdd]⟩⟩
      rw [hdd]
      revert c
      unfold putIn
      split
      · intro c; cases c
      · split
        · intro c; cases c
        · split
          · intro c; cases c
          · intro _; rfl
theorem wOut_l {B s : ByteArray} {l : Int} {a : Nat} (h0 : -2 ≤ l) (h1 : l ≤ 9223372036854775807) : -2 ≤ (wOut B s l a).l ∧ (wOut B s l a).l ≤ 9223372036854775807 := ⟨wL_ge _ _ _ _ h0, wL_le _ _ _ _ h1⟩
theorem fill3_l {B : ByteArray} {l : Int} {k n : Nat} {s : St} (h0 : -2 ≤ l) (h1 : l ≤ 9223372036854775807) : -2 ≤ (fill3 B l k n s).l ∧ (fill3 B l k n s).l ≤ 9223372036854775807 := by
  have a1 : -2 ≤ (fill1 B l k).l ∧ (fill1 B l k).l ≤ 9223372036854775807 := by
    unfold fill1
    split
    · exact ⟨h0, h1⟩
    · split
      · exact ⟨h0, h1⟩
      · exact wOut_l h0 h1
  have a2 : -2 ≤ (fill2 B l k n s).l ∧ (fill2 B l k n s).l ≤ 9223372036854775807 := by
    unfold fill2
    split
    · exact wOut_l a1.1 a1.2
    · exact a1
  unfold fill3
  split
  · exact wOut_l a2.1 a2.2
  · exact a2
/-- What a Put leaves of power and size. -/
theorem pOut_more {B : ByteArray} {l : Int} {m d : Nat} {s : St} {o : POut} (hB : 216 ≤ B.size) (h : Well B false l m) (hm : m < 4000000000) (hd : d < 6) (hs : s.good) (h0 : -2 ≤ l) (h1 : l ≤ 9223372036854775807) (ho : pOut (dealL B.data.toList) false B l d s.ph s.pr s.at_ = o) :
    o.b.size = B.size ∧ (-2 ≤ o.l ∧ o.l ≤ 9223372036854775807) ∧ ((o.c = 0 ∧ o.over = false ∧ o.l ≠ -2) ∨ (o.c = 6 ∧ o.over = true ∧ o.l = -2)) := by
  subst ho
  unfold pOut
  rw [if_neg (by decide), if_pos ⟨by omega, good_fits hs⟩]
  simp only [Int.toNat_natCast]
  have hn := h.num d hd
  refine ⟨putIn_size _, ?_, ?_⟩
  · unfold putIn
    split
    · exact ⟨h0, h1⟩
    · split
      · exact ⟨h0, h1⟩
      · split
        · exact fill3_l h0 h1
        · exact fill3_l h0 h1
  · rcases put_out (s := s) hB hd (fits_of (good_fits hs)) (by omega) (h.pow rfl) with ⟨c, ov, -, hl, -⟩ | ⟨c, ov, hl, -⟩
    · exact .inl ⟨c, ov, hl⟩
    · exact .inr ⟨c, ov, hl⟩
/-- A frame that a site of a world hears. -/
structure HF (n : Nat) (N : PN) (f : F9) (m : Nat) : Prop where
  ni : NI n (hearN N f) (m + 1)
  c : (oHN N f).c = 0 ∨ (oHN N f).c = 6
  up : upN (hearN N f) = decide ((oHN N f).c = 0)
  e : (oHN N f).e = dlN (hearN N f)
  other : ∀ e, e ≠ f.d.toNat → dlN (hearN N f) e = dlN N e
  yes : (oHN N f).c = 0 → stN (hearN N f) f.d.toNat = (gHN N f).st
  no : (oHN N f).c = 6 → dlN (hearN N f) f.d.toNat = dlN N f.d.toNat
  ld : (oHN N f).c = 0 → (hearN N f).ld = N.ld
  good : (gHN N f).st.good
  may : mayN (stN N f.d.toNat).ph (gHN N f).st.ph
theorem hearN_hf {n m : Nat} {N : PN} {f : F9} (h : NI n N m) (hu : N.l ≠ -2) (hf : FI n f) (hm : m < 4000000000) : HF n N f m := by
  have hov := h.up hu
  have hd : f.d.toNat < 6 := by have := hf.ok.2.2.1; omega
  have ha : f.a.toNat ≤ 1048576 := by have := hf.ok.2.2.2.2.1; omega
  have hp : f.ph.toNat ≤ 5 := by have := hf.ok.2.2.2.2.2.1; omega
  have hg := hear_good (stN N f.d.toNat) (N.R f.d.toNat) f.k.toNat f.a.toNat f.ph.toNat (h.gd _ hd) ha hp
  have hgg : (gHN N f).st.good := hg.1
  have hw : Well N.B false N.l m := ⟨h.gd, h.nm, fun _ => hu⟩
  have hB : 216 ≤ N.B.size := by have := h.sz; omega
  obtain ⟨o, ho⟩ : ∃ o, oHN N f = o := ⟨_, rfl⟩
  have ho2 : pOut (dealL N.B.data.toList) false N.B N.l f.d.toNat (gHN N f).st.ph (gHN N f).st.pr (gHN N f).st.at_ = o := by rw [← ho, ← hov]; rfl
  obtain ⟨p1, p2, p3, p4⟩ := put_wellB hB hw hm hd hgg ho2
  obtain ⟨q1, q2, q3⟩ := pOut_more hB hw hm hd hgg h.l0 h.l1 ho2
  rcases q3 with ⟨c, ov, hl⟩ | ⟨c, ov, hl⟩
  · have e : hearN N f = { N with B := o.b, l := o.l, over := o.over } := by unfold hearN; rw [ho, if_neg (by omega)]
    rcases p4 with ⟨-, p4⟩ | ⟨c2, -⟩
    · rw [ov] at p2
      refine ⟨?_, .inl (by rw [ho]; exact c), ?_, ?_, ?_, ?_, ?_, ?_, hgg, hg.2.2.2⟩
      · rw [e]
        refine ⟨p2.good, p2.num, q1.trans h.sz, fun _ => ov, q2.1, q2.2, fun d x hx => ?_⟩
        have := h.ld d x hx
        exact ⟨hl, this.2⟩
      · rw [e, ho, c]; unfold upN; simpa using hl
      · rw [e, ho]; exact p1
      · rw [e]; exact p3
      · intro _; rw [e]; exact p4
      · intro g; rw [ho, c] at g; cases g
      · intro _; rw [e]
    · rw [c] at c2; cases c2
  · have e : hearN N f = fallN { N with B := o.b, over := o.over } := by unfold hearN; rw [ho, if_pos c]
    rcases p4 with ⟨c2, -⟩ | ⟨-, p4⟩
    · rw [c] at c2; cases c2
    · refine ⟨?_, .inr (by rw [ho]; exact c), ?_, ?_, ?_, ?_, ?_, ?_, hgg, hg.2.2.2⟩
      · rw [e]
        exact ⟨p2.good, p2.num, q1.trans h.sz, fun g => (g rfl).elim, by show -2 ≤ (-2 : Int); omega, by show (-2 : Int) ≤ _; omega, fun d x hx => by cases hx⟩
      · rw [e, ho, c]; rfl
      · rw [e, ho]; exact p1
      · rw [e]; exact p3
      · intro g; rw [ho, c] at g; cases g
      · intro _; rw [e]; exact p4
      · intro g; rw [ho, c] at g; cases g
end Go.Proofs.YtdpemmmbkjmplabGreatDoor
namespace Go.Proofs.YtdpemmmbkjmplabGreatDoor
open Go.RowKit

/-- The states of a deal. -/
def stD (V : PX) (d : Nat) : Nat → St := fun i => stN (V.nd i) d
structure GX (zs : List Int) (V : PX) (d : Nat) (g : Gh) : Prop where
  co : Co zs (stD V d) g
  fr : ∀ f, f ∈ V.fly → f.d = (d : Int) → Fr zs (stD V d) g f
  le : ∀ i x, i < zs.length → (V.nd i).ld d = some x → Le zs (stD V d) g i x.1 x.2
/-- The events: each is there, at its site; none twice. -/
structure EX (zs : List Int) (V : PX) : Prop where
  at_ : ∀ e, e ∈ V.evs → ∃ i d p : Nat, e = ⟨i, d, p⟩ ∧ i < zs.length ∧ d < 6 ∧ (p = 2 ∨ p = 3) ∧ (stN (V.nd i) d).ph = p
  once : V.evs.Pairwise fun a b => ¬ (a.s = b.s ∧ a.d = b.d)
structure AX (zs : List Int) (V : PX) : Prop where
  gx : ∀ d, d < 6 → ∃ g, GX zs V d g
  ex : EX zs V
/-- Each phase may become what it is now. -/
def Mo (zs : List Int) (V V' : PX) : Prop := ∀ i d, i < zs.length → d < 6 → mayN (stN (V.nd i) d).ph (stN (V'.nd i) d).ph
theorem mayN_trans {a b c : Nat} (h : mayN a b) (g : mayN b c) : mayN a c := by
  unfold mayN at *
  omega
section
variable {zs : List Int} {V V' : PX} {m : Nat} {g g' : Gh}
theorem Mo.trans {V'' : PX} (h : Mo zs V V') (k : Mo zs V' V'') : Mo zs V V'' := fun i d hi hd => mayN_trans (h i d hi hd) (k i d hi hd)
theorem Mo.same (hX : XI zs V m) (hs : ∀ i d, stN (V'.nd i) d = stN (V.nd i) d) : Mo zs V V' := fun i d hi hd => by
  rw [hs i d]
  have h5 := ((hX.nd i hi).gd d hd).1
  exact ⟨h5, h5, .inl rfl⟩
theorem stD_same (hs : ∀ i d, stN (V'.nd i) d = stN (V.nd i) d) (d : Nat) : stD V' d = stD V d := funext fun i => hs i d
/-- Nothing is known that was not. -/
theorem GX.quiet {d : Nat} (h : GX zs V d g) (hs : ∀ i, stN (V'.nd i) d = stN (V.nd i) d) (hl : ∀ i x, i < zs.length → (V'.nd i).ld d = some x → (V.nd i).ld d = some x) (hf : ∀ f, f ∈ V'.fly → f ∈ V.fly) : GX zs V' d g := by
  have e : stD V' d = stD V d := funext hs
  refine ⟨by rw [e]; exact h.co, fun f x y => by rw [e]; exact h.fr f (hf f x) y, fun i x hi hx => by rw [e]; exact h.le i x hi (hl i x hi hx)⟩
theorem EX.same (h : EX zs V) (hs : ∀ i d, stN (V'.nd i) d = stN (V.nd i) d) (he : V'.evs = V.evs) : EX zs V' := by
  refine ⟨fun e hm => ?_, by rw [he]; exact h.once⟩
  rw [he] at hm
  obtain ⟨i, d, p, h1, h2, h3, h4, h5⟩ := h.at_ e hm
  exact ⟨i, d, p, h1, h2, h3, h4, by rw [hs]; exact h5⟩
theorem AX.quiet (h : AX zs V) (hs : ∀ i d, stN (V'.nd i) d = stN (V.nd i) d) (hl : ∀ i d x, i < zs.length → (V'.nd i).ld d = some x → (V.nd i).ld d = some x) (hf : ∀ f, f ∈ V'.fly → f ∈ V.fly) (he : V'.evs = V.evs) : AX zs V' :=
  ⟨fun d hd => by obtain ⟨g, hg⟩ := h.gx d hd; exact ⟨g, hg.quiet (fun i => hs i d) (fun i x hi hx => hl i d x hi hx) hf⟩, h.ex.same hs he⟩
theorem GX.send {d : Nat} {L : List F9} (h : GX zs V d g) (hL : ∀ f, f ∈ L → f.d = (d : Int) → Fr zs (stD V d) g f) : GX zs (sendX V L) d g := by
  refine ⟨h.co, fun f hf hd => ?_, h.le⟩
  rcases List.mem_append.1 hf with x | x
  · exact h.fr f x hd
  · exact hL f x hd
theorem nd_at (V : PX) (i : Nat) (N : PN) : (setNd V i N).nd i = N := if_pos rfl
theorem nd_ne (V : PX) (i : Nat) (N : PN) {k : Nat} (h : k ≠ i) : (setNd V i N).nd k = V.nd k := if_neg h
theorem ld_at (N : PN) (d : Nat) (x : Int × PL) : (setLd N d x).ld d = some x := if_pos rfl
theorem ld_ne (N : PN) (d : Nat) (x : Int × PL) {e : Nat} (h : e ≠ d) : (setLd N d x).ld e = N.ld e := if_neg h
/-- A site hears a frame: what it comes to, for a deal. -/
theorem hearX_st0 {n : Nat} {i : Nat} {f : F9} (hh : HF n (V.nd i) f m) (hc : (oHN (V.nd i) f).c = 6) : ∀ k d, stN ((hearX V i f).nd k) d = stN (V.nd k) d := by
  intro k d
  show stN ((setNd V i (hearN (V.nd i) f)).nd k) d = _
  by_cases e : k = i
  · subst e
    rw [nd_at]
    unfold stN
    by_cases e2 : d = f.d.toNat
    · rw [e2, hh.no hc]
    · rw [hh.other d e2]
  · rw [nd_ne _ _ _ e]
theorem hearX_st {n : Nat} {i : Nat} {f : F9} (hh : HF n (V.nd i) f m) (hc : (oHN (V.nd i) f).c = 0) : stD (hearX V i f) f.d.toNat = upd (stD V f.d.toNat) i (gHN (V.nd i) f).st := by
  funext k
  show stN ((setNd V i (hearN (V.nd i) f)).nd k) f.d.toNat = _
  unfold upd
  by_cases e : k = i
  · subst e
    rw [nd_at, if_pos rfl, hh.yes hc]
  · rw [nd_ne _ _ _ e, if_neg e]
    rfl
theorem hearX_ne {n : Nat} {i : Nat} {f : F9} (hh : HF n (V.nd i) f m) {d : Nat} (hd : d ≠ f.d.toNat) : ∀ k, stN ((hearX V i f).nd k) d = stN (V.nd k) d := by
  intro k
  show stN ((setNd V i (hearN (V.nd i) f)).nd k) d = _
  by_cases e : k = i
  · subst e
    rw [nd_at]
    unfold stN
    rw [hh.other d hd]
  · rw [nd_ne _ _ _ e]
theorem hearX_ld {n : Nat} {i : Nat} {f : F9} (hh : HF n (V.nd i) f m) : ∀ k d x, ((hearX V i f).nd k).ld d = some x → (V.nd k).ld d = some x := by
  intro k d x hx
  have hx2 : ((setNd V i (hearN (V.nd i) f)).nd k).ld d = some x := hx
  by_cases e : k = i
  · subst e
    rw [nd_at] at hx2
    rcases hh.c with hc | hc
    · rw [hh.ld hc] at hx2; exact hx2
    · unfold hearN at hx2
      rw [if_pos hc] at hx2
      cases hx2
  · rw [nd_ne _ _ _ e] at hx2; exact hx2
theorem hear_gx {i d : Nat} {f : F9} (h : GX zs V d g) (hN : NI zs.length (V.nd i) m) (hu : (V.nd i).l ≠ -2) (hF : FI zs.length f) (hm : m < 4000000000) (hi : i < zs.length) (hff : ∀ a, a ∈ V.fly → FI zs.length a) (hfr : f.d = (d : Int) → Fr zs (stD V d) g f) :
    ∃ g', GX zs (hearX V i f) d g' ∧ Gr zs (stD V d) g (stD (hearX V i f) d) g' ∧ g'.val = g.val ∧ ∀ a, a ∈ ansN i (V.nd i) f → a.d = (d : Int) → Fr zs (stD (hearX V i f) d) g' a := by
  have hh := hearN_hf hN hu hF hm
  have hd6 : 0 ≤ f.d ∧ f.d ≤ 5 := hF.ok.2.2.1
  have hp5 := hF.ok.2.2.2.2.2.1
  rcases hh.c with hc | hc
  · by_cases e : d = f.d.toNat
    · have ed : f.d = (d : Int) := by omega
      have hgood : (stD V d i).good := by show (dlN (V.nd i) d).2.good; rw [e]; exact hN.gd _ (by omega)
      obtain ⟨g', k1, k2, k3, k4⟩ := hear_co h.co hi hgood ((V.nd i).R d) f (hfr ed) (by omega)
      have est : (hearL (stD V d i) ((V.nd i).R d) f.k.toNat f.a.toNat f.ph.toNat) = gHN (V.nd i) f := by unfold gHN; rw [← e]; rfl
      have esd := hearX_st (i := i) hh hc
      rw [← e] at esd
      rw [est, ← esd] at k1 k2 k4
      refine ⟨g', ⟨k1, fun a ha hda => ?_, fun j x hj hx => ?_⟩, k2, k3, fun a ha _ => ?_⟩
      · have ha2 : a ∈ V.fly := ha
        have h0 := (hff a ha2).f0
        have h1 := (hff a ha2).f1
        exact (h.fr a ha2 hda).grow (by omega) k2
      · have hx2 := hearX_ld hh j d x hx
        exact (h.le j x hj hx2).grow k2 (fun e1 e2 => by rw [k3]; exact (h.le j x hj hx2).tv e1 e2)
      · unfold ansN at ha
        split at ha
        · rename_i hcc
          rw [List.mem_singleton] at ha
          subst ha
          exact k4 hcc.2
        · cases ha
    · have hs := hearX_ne (i := i) hh e
      have es : stD (hearX V i f) d = stD V d := funext hs
      refine ⟨g, h.quiet hs (fun j x _ hx => hearX_ld hh j d x hx) (fun _ x => x), by rw [es]; exact Gr.refl _ _ _, rfl, fun a ha hda => ?_⟩
      unfold ansN at ha
      split at ha
      · rw [List.mem_singleton] at ha
        subst ha
        have : f.d = (d : Int) := hda
        omega
      · cases ha
  · have hs := hearX_st0 (i := i) hh hc
    have es : stD (hearX V i f) d = stD V d := funext fun k => hs k d
    refine ⟨g, h.quiet (fun k => hs k d) (fun j x _ hx => hearX_ld hh j d x hx) (fun _ x => x), by rw [es]; exact Gr.refl _ _ _, rfl, fun a ha _ => ?_⟩
    unfold ansN at ha
    rw [if_neg (fun x => by rw [hc] at x; cases x.1)] at ha
    cases ha
/-- Events behind a frame that a site hears. -/
theorem hear_ex {i : Nat} {f : F9} (h : EX zs V) (hN : NI zs.length (V.nd i) m) (hu : (V.nd i).l ≠ -2) (hF : FI zs.length f) (hm : m < 4000000000) (hi : i < zs.length) (hX : XI zs V m) :
    EX zs (hearX V i f) ∧ Mo zs V (hearX V i f) := by
  have hh := hearN_hf hN hu hF hm
  have hd6 : 0 ≤ f.d ∧ f.d ≤ 5 := hF.ok.2.2.1
  rcases hh.c with hc | hc
  · have hmay := hh.may
    have hmo : Mo zs V (hearX V i f) := by
      intro k d hk hd
      by_cases e : d = f.d.toNat
      · have es : stN ((hearX V i f).nd k) d = upd (stD V f.d.toNat) i (gHN (V.nd i) f).st k := by
          rw [e]; exact congrFun (hearX_st (i := i) hh hc) k
        rw [es]
        unfold upd
        split
        · rename_i e2; rw [e2, e]; exact hmay
        · have h5 := ((hX.nd k hk).gd d hd).1
          rw [← e]
          exact ⟨h5, h5, .inl rfl⟩
      · rw [hearX_ne hh e k]
        have h5 := ((hX.nd k hk).gd d hd).1
        exact ⟨h5, h5, .inl rfl⟩
    refine ⟨?_, hmo⟩
    have hold : ∀ e, e ∈ V.evs → ∃ k d p : Nat, e = ⟨k, d, p⟩ ∧ k < zs.length ∧ d < 6 ∧ (p = 2 ∨ p = 3) ∧ (stN ((hearX V i f).nd k) d).ph = p := by
      intro e he
      obtain ⟨k, d, p, h1, h2, h3, h4, h5⟩ := h.at_ e he
      refine ⟨k, d, p, h1, h2, h3, h4, ?_⟩
      have := hmo k d h2 h3
      unfold mayN at this
      omega
    have hnow : (hearX V i f).evs = noteE V.evs i f.d.toNat (stN (V.nd i) f.d.toNat).ph (stN (hearN (V.nd i) f) f.d.toNat).ph := rfl
    have hst : stN ((hearX V i f).nd i) f.d.toNat = stN (hearN (V.nd i) f) f.d.toNat := by
      show stN ((setNd V i (hearN (V.nd i) f)).nd i) f.d.toNat = _
      rw [nd_at]
    unfold noteE at hnow
    split at hnow
    · rename_i hcnd
      obtain ⟨n1, n2, -⟩ := hcnd
      have hfin := of_decide_eq_true n2
      refine ⟨fun e he => ?_, ?_⟩
      · rw [hnow, List.mem_append] at he
        rcases he with he | he
        · exact hold e he
        · rw [List.mem_singleton] at he
          exact ⟨i, f.d.toNat, _, he, hi, by omega, hfin, by rw [hst]⟩
      · rw [hnow, List.pairwise_append]
        refine ⟨h.once, List.pairwise_singleton _ _, fun a ha b hb => ?_⟩
        rw [List.mem_singleton] at hb
        subst hb
        rintro ⟨x1, x2⟩
        obtain ⟨k, d, p, h1, h2, h3, h4, h5⟩ := h.at_ a ha
        subst h1
        simp only at x1 x2
        have e1 : k = i := by omega
        have e2 : d = f.d.toNat := by omega
        subst e1
        subst e2
        have hmy := hmo k f.d.toNat h2 h3
        rw [hst] at hmy
        unfold mayN at hmy
        omega
    · exact ⟨fun e he => hold e (by rw [hnow] at he; exact he), by rw [hnow]; exact h.once⟩
  · have hs := hearX_st0 (i := i) hh hc
    refine ⟨h.same hs ?_, Mo.same hX hs⟩
    show noteE V.evs i f.d.toNat (stN (V.nd i) f.d.toNat).ph (stN (hearN (V.nd i) f) f.d.toNat).ph = V.evs
    have e : stN (hearN (V.nd i) f) f.d.toNat = stN (V.nd i) f.d.toNat := by
      unfold stN; rw [hh.no hc]
    unfold noteE
    rw [if_neg (fun x => x.1 (by rw [e]))]
theorem AX.hear {i : Nat} {f : F9} (h : AX zs V) (hX : XI zs V m) (hu : (V.nd i).l ≠ -2) (hF : FI zs.length f) (hm : m < 4000000000) (hi : i < zs.length) (hfr : ∀ d g, d < 6 → GX zs V d g → f.d = (d : Int) → Fr zs (stD V d) g f) :
    (∀ d, d < 6 → ∃ g', GX zs (hearX V i f) d g' ∧ ∀ a, a ∈ ansN i (V.nd i) f → a.d = (d : Int) → Fr zs (stD (hearX V i f) d) g' a) ∧ EX zs (hearX V i f) ∧ Mo zs V (hearX V i f) := by
  refine ⟨fun d hd => ?_, hear_ex h.ex (hX.nd i hi) hu hF hm hi hX⟩
  obtain ⟨g, hg⟩ := h.gx d hd
  obtain ⟨g', k1, -, -, k4⟩ := hear_gx hg (hX.nd i hi) hu hF hm hi hX.fr (hfr d g hd hg)
  exact ⟨g', k1, k4⟩
/-- A lead hears a frame. -/
theorem lead_gx {i d : Nat} {x : Int × PL} {f : F9} (h : GX zs V d g) (he : errW zs = 0) (hx : (V.nd i).ld d = some x) (hw : PW zs.length x.2) (hi : i < zs.length) (hff : ∀ a, a ∈ V.fly → FI zs.length a) (hfr : Fr zs (stD V d) g f) :
    ∃ g', GX zs (setNd V i (setLd (V.nd i) d (x.1, (phear zs i d x.1 x.2 f).1))) d g' ∧ ∀ o, o ∈ outL i d x.1 zs.length (phear zs i d x.1 x.2 f).2 → Fr zs (stD (setNd V i (setLd (V.nd i) d (x.1, (phear zs i d x.1 x.2 f).1))) d) g' o := by
  have hl := h.le i x hi hx
  obtain ⟨g', k1, k2, k3, k4, k5⟩ := lead_co (deal := (d : Int)) h.co he hl hw f hfr
  have es : stD (setNd V i (setLd (V.nd i) d (x.1, (phear zs i d x.1 x.2 f).1))) d = stD V d := by
    funext k
    show stN ((setNd V i _).nd k) d = stN (V.nd k) d
    by_cases e : k = i
    · subst e; rw [nd_at]; rfl
    · rw [nd_ne _ _ _ e]
  refine ⟨g', ⟨by rw [es]; exact k1, fun a ha hda => ?_, fun j y hj hy => ?_⟩, by rw [es]; exact k5⟩
  · rw [es]
    have ha2 : a ∈ V.fly := ha
    have h0 := (hff a ha2).f0
    have h1 := (hff a ha2).f1
    exact (h.fr a ha2 hda).grow (by omega) k2
  · rw [es]
    by_cases e : j = i
    · subst e
      rw [nd_at, ld_at] at hy
      cases hy
      exact k4
    · rw [nd_ne _ _ _ e] at hy
      have hly := h.le j y hj hy
      refine hly.grow k2 fun e1 e2 => ?_
      have hv := hly.tv e1 e2
      by_cases ec : g'.val y.1.toNat = g.val y.1.toNat
      · rw [ec]; exact hv
      · obtain ⟨c1, -⟩ := k3 _ ec
        have h1 := (hly.ow e2).1
        have h2 := (hl.ow (by omega)).1
        rw [c1, h2] at h1
        exact absurd h1.symm e
theorem setLd_st (V : PX) (i d : Nat) (x : Int × PL) : ∀ k e, stN ((setNd V i (setLd (V.nd i) d x)).nd k) e = stN (V.nd k) e := by
  intro k e
  by_cases c : k = i
  · subst c; rw [nd_at]; rfl
  · rw [nd_ne _ _ _ c]
/-- Another deal's lead makes no difference. -/
theorem GX.other {i d e : Nat} {x : Int × PL} (h : GX zs V e g) (hne : e ≠ d) : GX zs (setNd V i (setLd (V.nd i) d x)) e g := by
  refine h.quiet (fun k => setLd_st V i d x k e) (fun k y _ hy => ?_) (fun _ y => y)
  by_cases c : k = i
  · subst c; rw [nd_at, ld_ne _ _ _ hne] at hy; exact hy
  · rw [nd_ne _ _ _ c] at hy; exact hy
/-- A new lead. -/
theorem GX.newLead {i d : Nat} {a : Int} (h : GX zs V d g) (hl : Le zs (stD V d) g i a P0) : GX zs (setNd V i (setLd (V.nd i) d (a, P0))) d g := by
  have es : stD (setNd V i (setLd (V.nd i) d (a, P0))) d = stD V d := funext fun k => setLd_st V i d _ k d
  refine ⟨by rw [es]; exact h.co, fun f hf hd => by rw [es]; exact h.fr f hf hd, fun k y hk hy => ?_⟩
  rw [es]
  by_cases c : k = i
  · subst c; rw [nd_at, ld_at] at hy; cases hy; exact hl
  · rw [nd_ne _ _ _ c] at hy; exact h.le k y hk hy
theorem le_new0 (s : Nat → St) (g : Gh) (i : Nat) : Le zs s g i 0 P0 :=
  ⟨Int.le_refl _, fun _ _ k _ hb => (by have hb2 : bit 0 k = true := hb; rw [bit_zero] at hb2; cases hb2), fun _ e => (by omega), fun _ e => (by omega), fun _ e => (by omega), fun e => (by omega), fun e => (by cases e), fun e => (by cases e)⟩
theorem P0_told (i : Nat) (t : S3) (h : P0.told[i]? = some t) : t.p = 0 := by
  have hm := List.mem_iff_getElem?.2 ⟨i, h⟩
  simp [P0] at hm
  rw [hm]
theorem le_new1 {s : Nat → St} {g : Gh} {i : Nat} {a : Int} (h0 : 0 < a) (hv : g.val a.toNat = 0) (ho : a.toNat % zs.length = i) (hp : a.toNat ≤ (s i).pr) : Le zs s g i a P0 :=
  ⟨(by omega), fun _ e => (by omega), fun _ _ => hv, fun _ _ k _ hb => (by have hb2 : bit 0 k = true := hb; rw [bit_zero] at hb2; cases hb2), fun _ _ k t ht => .inl (P0_told k t ht), fun _ => ⟨ho, hp⟩, fun e => (by cases e), fun e => (by cases e)⟩
end
end Go.Proofs.YtdpemmmbkjmplabGreatDoor
namespace Go.Proofs.YtdpemmmbkjmplabGreatDoor
open Go.RowKit

theorem row_setCells {g : Nat} {t : TypeId} : ∀ (vs : List Value) (o : Nat) (w : World) (cur : Array Value), w.heap[g]? = some (.cells cur t (0, 0)) → o + vs.length ≤ cur.size →
    (w.setCells g o vs).heap[g]? = some (.cells (cur.toList.take o ++ vs ++ cur.toList.drop (o + vs.length)).toArray t (0, 0))
  | [], o, w, cur, h, _ => by simpa [World.setCells] using h
  | v :: r, o, w, cur, h, hl => by
    have h1 := heap_setCell_same w g o _ _ v h
    have hl' : o + (r.length + 1) ≤ cur.size := by simpa using hl
    have h2 := row_setCells r (o + 1) (w.setCell ⟨g, o, none⟩ v) _ h1 (by simp; omega)
    show ((w.setCell ⟨g, o, none⟩ v).setCells g (o + 1) r).heap[g]? = _
    rw [h2]
    congr 2
    apply Array.ext'
    simp only [Array.toList_setIfInBounds]
    rw [List.take_set, List.drop_set_of_lt (by omega), List.take_add_one]
    have hg : cur.toList[o]? = some (cur.toList[o]'(by simp; omega)) := List.getElem?_eq_getElem _
    rw [hg]
    simp only [Option.toList, List.set_append, List.length_take, Array.length_toList]
    rw [if_neg (by omega), show o - min o cur.size = 0 by omega]
    simp
    congr 1
    omega
theorem kept_setCells (g : Nat) : ∀ (vs : List Value) (o : Nat) (w : World), Kept (In1 g) w (w.setCells g o vs)
  | [], _, w => Kept.refl _ w
  | v :: r, o, w => ((Kept.refl _ w).set1 o v).trans (kept_setCells g r (o + 1) _)
/-- clear of one frame. -/
theorem zeroF (w : World) : (zeroValue 93).run Tryz.prog w = .ok (frV 0 0 0 0 0 false 0 0 0) w := by kernel_rfl
def zF : List Value := [.int .i64 0, .int .i64 0, .int .i64 0, .int .i64 0, .int .i64 0, .bool false, .int .i64 0, .int .i64 0, .int .i64 0]
theorem zF_len : zF.length = 9 := rfl
theorem zF_one : ∀ u ∈ zF, u.oneCell' = true := by
  intro u hu
  simp [zF] at hu
  rcases hu with rfl | rfl | rfl <;> rfl
theorem run_clear1 (w : World) (ty : TypeId) (b o c : Nat) (hc : ∀ j, j < 9 → (w.cell? ⟨b, o + j, none⟩).isSome = true) (hf : ∀ j, j < 9 → w.frozen? ⟨b, o + j, none⟩ = false) :
    (Builtin.clear_ #[34] ty #[.slice (some ⟨b, o, none⟩) 1 c]).run Tryz.prog w = .ok (.tuple #[]) (w.setCells b o zF) := by
  have hzc : (Builtin.zeroCells (frV 0 0 0 0 0 false 0 0 0).cells 1).toList = zF := by first | rfl | kernel_rfl
  have hst := run_storeCells_cells (P := Tryz.prog) b o zF 0 w (by simpa [zF] using hc) (by simpa [zF] using hf) zF_one
  simp only [Nat.add_zero] at hst
  simp [Builtin.clear_, run_underlying Tryz.underlying34, hzc, hst]
theorem frCells_take (L : List F9) (k : Nat) : frCells (L.take k) = (frCells L).take (k * 9) := by
  induction L generalizing k with
  | nil => simp [frCells]
  | cons x r ih =>
    cases k with
    | zero => simp [frCells]
    | succ k =>
      simp only [List.take_succ_cons, frCells, List.flatMap_cons] at *
      rw [ih, List.take_append, f9L_length, List.take_of_length_le (l := f9L x) (by rw [f9L_length]; omega), show (k + 1) * 9 - 9 = k * 9 by omega]
theorem frCells_drop (L : List F9) (k : Nat) : frCells (L.drop k) = (frCells L).drop (k * 9) := by
  induction L generalizing k with
  | nil => simp [frCells]
  | cons x r ih =>
    cases k with
    | zero => simp [frCells]
    | succ k =>
      simp only [List.drop_succ_cons, frCells, List.flatMap_cons] at *
      rw [ih, List.drop_append, f9L_length, List.drop_of_length_le (l := f9L x) (by rw [f9L_length]; omega), show (k + 1) * 9 - 9 = k * 9 by omega]
      simp
set_option maxHeartbeats 4000000 in
set_option maxRecDepth 100000 in
theorem del_frs (base g cap k j n : Nat) (cur : Array Value) (L : List F9) (w : World) (hg : w.heap[g]? = some (.cells cur 93 (0, 0))) (hb : base ≤ g) (hn : L.length = n) (h1 : n ≤ cap) (h2 : cap ≤ maxLen) (hs : cur.size = cap * 9) (ht : cur.toList.take (n * 9) = frCells L) (hk : k < n) (hj : j = k + 1) :
    Calls Tryz.prog 80 #[.slice (some ⟨g, 0, none⟩) n cap, .int .i64 (k : Int), .int .i64 (j : Int)] w fun e w' => e = .returned (.slice (some ⟨g, 0, none⟩) (n - 1) cap) ∧ w'.ownsRow base 93 9 (.slice (some ⟨g, 0, none⟩) (n - 1) cap) (n - 1) (frCells (L.eraseIdx k)) ∧ Kept (In1 g) w w' := by
  obtain ⟨i0, hi0, hz0, hz1, hz2⟩ := info_parts Tryz.infoFq
  have hmul : n * 9 ≤ cap * 9 := Nat.mul_le_mul_right 9 h1
  have hcell : ∀ x, x < n * 9 → w.cell? ⟨g, x, none⟩ = (frCells L)[x]? := fun x hx => by
    rw [cell_of_row _ _ _ _ _ _ hg, ← ht, List.getElem?_take_of_lt hx, Array.getElem?_toList]
  have hsome : ∀ x, x < cap * 9 → (w.cell? ⟨g, x, none⟩).isSome = true := fun x hx => by
    rw [cell_of_row _ _ _ _ _ _ hg, Array.getElem?_eq_getElem (by rw [hs]; exact hx)]; rfl
  have hfz : ∀ x, w.frozen? ⟨g, x, none⟩ = false := fun x => frozen_of_row _ _ _ _ _ hg
  have hLl := frCells_length L
  obtain ⟨news, HN⟩ : ∃ news, Hid (news = frCells (L.drop j)) := ⟨_, rfl⟩
  have HL : Hid (news.length = (n - j) * 9) := by rw [HN.out, frCells_length, List.length_drop, hn]; exact rfl
  obtain ⟨a0, hA, hsrc⟩ : ∃ a0 : Addr, (if cap = j then some (⟨g, 0, none⟩ : Addr) else some ⟨g, j * 9, none⟩) = some a0 ∧ Hid (∀ t u, news[t]? = some u → w.drew.cell? (a0.add t) = some u) := by
    by_cases h : cap = j
    · refine ⟨⟨g, 0, none⟩, by simp [h], fun t u hu => ?_⟩
      have h0 : news.length = 0 := by rw [HL.out]; omega
      rw [List.length_eq_zero_iff.1 h0] at hu
      simp at hu
    · refine ⟨⟨g, j * 9, none⟩, by simp [h], fun t u hu => ?_⟩
      have htt := (List.getElem?_eq_some_iff.1 hu).1
      rw [HL.out] at htt
      rw [addr_add]
      show w.cell? ⟨g, j * 9 + t, none⟩ = some u
      rw [hcell _ (by omega), ← hu, HN.out, frCells_drop, List.getElem?_drop]
  have s2 : Hid (∀ u ∈ news, u.oneCell' = true) := by rw [HN.out]; exact frCells_one _
  have s3 : Hid (∀ t, t < news.length → (w.drew.cell? ⟨g, 0 + k * 9 + t, none⟩).isSome = true ∧ w.drew.frozen? ⟨g, 0 + k * 9 + t, none⟩ = false) := by
    intro t htt
    rw [HL.out] at htt
    exact ⟨hsome _ (by omega), hfz _⟩
  obtain ⟨W1, HW1⟩ : ∃ W1, Hid (w.drew.setCells g (0 + k * 9) news = W1) := ⟨_, rfl⟩
  have HR1 : Hid (W1.heap[g]? = some (.cells (cur.toList.take (0 + k * 9) ++ news ++ cur.toList.drop (0 + k * 9 + news.length)).toArray 93 (0, 0))) := by
    rw [← HW1.out]; exact row_setCells news _ w.drew cur hg (by rw [HL.out, hs]; omega)
  have HK1 : Hid (Kept (In1 g) w W1) := by rw [← HW1.out]; exact (Kept.refl _ w).drew.trans (kept_setCells g news _ _)
  have hsz : (cur.toList.take (0 + k * 9) ++ news ++ cur.toList.drop (0 + k * 9 + news.length)).length = cap * 9 := by
    rw [List.length_append, List.length_append, List.length_take, List.length_drop, HL.out, Array.length_toList, hs]; omega
  have hcl : ∀ ty, (Builtin.clear_ #[34] ty #[.slice (some ⟨g, (k + (n - j)) * 9, none⟩) (n - (k + (n - j))) (cap - (k + (n - j)))]).run Tryz.prog W1 = .ok (.tuple #[]) (W1.setCells g ((k + (n - j)) * 9) zF) := by
    intro ty
    rw [show n - (k + (n - j)) = 1 by omega]
    exact run_clear1 W1 ty g _ _ (fun x hx => by rw [cell_of_row _ _ _ _ _ _ HR1.out, List.getElem?_toArray, List.getElem?_eq_getElem (by rw [hsz]; omega)]; rfl) (fun x _ => frozen_of_row _ _ _ _ _ HR1.out)
  have HF : Hid ((W1.setCells g ((k + (n - j)) * 9) zF).ownsRow base 93 9 (.slice (some ⟨g, 0, none⟩) (n - 1) cap) (n - 1) (frCells (L.eraseIdx k))) := by
    have hr := row_setCells zF ((k + (n - j)) * 9) W1 _ HR1.out (by rw [List.size_toArray, hsz, zF_len]; omega)
    refine ⟨by rw [frCells_length, List.length_eraseIdx_of_lt (by omega), hn], .inr ⟨g, cap, _, rfl, hb, hr, by omega, h2, ?_, ?_⟩⟩
    · rw [List.size_toArray, List.length_append, List.length_append, List.length_take, List.length_drop, List.toList_toArray, hsz, zF_len]
      omega
    · have hE1 : n - 1 = k + (n - j) := by omega
      rw [List.toList_toArray, List.toList_toArray, hE1]
      rw [List.append_assoc, List.take_append_of_le_length (by rw [List.length_take, hsz]; omega), List.take_take, Nat.min_self]
      rw [List.take_append_of_le_length (by rw [List.length_append, List.length_take, Array.length_toList, HL.out, hs]; omega), List.take_of_length_le (by rw [List.length_append, List.length_take, Array.length_toList, HL.out, hs]; omega)]
      rw [HN.out, List.eraseIdx_eq_take_drop_succ, frCells_append, frCells_take, hj, Nat.zero_add, ← ht, List.take_take, Nat.min_eq_left (by omega)]
  have HK2 : Hid (Kept (In1 g) w (W1.setCells g ((k + (n - j)) * 9) zF)) := HK1.out.trans (kept_setCells g _ _ _)
  have HE : Hid (n - 1 = k + (n - j)) := by show n - 1 = k + (n - j); omega
  have h63 : cap ≤ 9223372036854775807 := by unfold maxLen at h2; omega
  have hkc : k ≤ cap := by omega
  have hjc : j ≤ cap := by omega
  have hjn : j ≤ n := by omega
  have hkj : k < j := by omega
  clear hcell hsome hfz hg ht hs hj hLl hsz hmul
  rw [HE.out] at HF ⊢
  go_enter Tryz.func80, Tryz.ntmps80
  go_wp2_with fail
  go_region_law (refine step_append_room rfl (.tmp 22) (.tmp 25) 34 rfl 93 i0 9 Tryz.underlying34 hi0 hz1 g 0 k cap (by simp [Act.eval, Act.put]) a0 (n - j) (cap - j) news (by simp [Act.eval, Act.put]) HL.out hsrc.out s2.out (by omega) s3.out ?_; rw [HW1.out])
  go_wp2
  go_ret
  exact ⟨rfl, HF.out, HK2.out⟩
theorem get_spliced (cur vs : List Value) (o k : Nat) (h : o + vs.length ≤ cur.length) : (cur.take o ++ vs ++ cur.drop (o + vs.length))[k]? = if k < o then cur[k]? else if k < o + vs.length then vs[k - o]? else cur[k]? := by
  by_cases h1 : k < o
  · rw [if_pos h1, List.append_assoc, List.getElem?_append_left (by rw [List.length_take]; omega), List.getElem?_take_of_lt h1]
  · rw [if_neg h1]
    by_cases h2 : k < o + vs.length
    · rw [if_pos h2, List.append_assoc, List.getElem?_append_right (by rw [List.length_take]; omega), List.length_take, show min o cur.length = o by omega, List.getElem?_append_left (by omega)]
    · rw [if_neg h2, List.getElem?_append_right (by rw [List.length_append, List.length_take]; omega), List.length_append, List.length_take, show min o cur.length = o by omega, List.getElem?_drop]
      congr 1
      omega
/-- Frames that a world owns, wherever in their row they begin. -/
def OwnF (w : World) (base : Nat) (v : Value) (L : List F9) : Prop :=
  (v = .slice none 0 0 ∧ L = []) ∨ ∃ g o cap, ∃ cur : Array Value, v = .slice (some ⟨g, o, none⟩) L.length cap ∧ base ≤ g ∧ w.heap[g]? = some (.cells cur 93 (0, 0)) ∧ L.length ≤ cap ∧ cap ≤ maxLen ∧ o + cap * 9 ≤ cur.size ∧ ∀ j, j < L.length * 9 → cur[o + j]? = (frCells L)[j]?
section
variable {w w' : World} {base : Nat} {v : Value} {L : List F9}
theorem OwnF.of_own (h : w.ownsRow base 93 9 v L.length (frCells L)) : OwnF w base v L := by
  rcases h.2 with ⟨rfl, h0⟩ | ⟨g, cap, cur, rfl, hb, hg, hle, hcap, hsz, htk⟩
  · exact .inl ⟨rfl, List.length_eq_zero_iff.1 h0⟩
  · refine .inr ⟨g, 0, cap, cur, rfl, hb, hg, hle, hcap, by omega, fun j hj => ?_⟩
    rw [← htk, List.getElem?_take_of_lt hj, Array.getElem?_toList, Nat.zero_add]
theorem OwnF.kept {S : Nat → Prop} (h : OwnF w base v L) (k : Kept S w w') (hs : ∀ g, v.ownBlock = some g → ¬ S g) : OwnF w' base v L := by
  rcases h with h | ⟨g, o, cap, cur, rfl, hb, hg, rest⟩
  · exact .inl h
  · exact .inr ⟨g, o, cap, cur, rfl, hb, k.row hg (hs g rfl), rest⟩
theorem OwnF.lt (h : OwnF w base v L) : ∀ g, v.ownBlock = some g → base ≤ g ∧ g < w.heap.size := by
  intro x hx
  rcases h with ⟨rfl, -⟩ | ⟨g, o, cap, cur, rfl, hb, hg, rest⟩
  · cases hx
  · obtain rfl : g = x := Option.some.inj hx
    exact ⟨hb, row_ltJ hg⟩
theorem OwnF.form (h : OwnF w base v L) : ∃ ad cap, v = .slice ad L.length cap := by
  rcases h with ⟨rfl, rfl⟩ | ⟨g, o, cap, cur, rfl, -⟩
  · exact ⟨none, 0, rfl⟩
  · exact ⟨_, _, rfl⟩
theorem OwnF.isFr (h : OwnF w base v L) : IsFr w v L := by
  rcases h with ⟨rfl, rfl⟩ | ⟨g, o, cap, cur, rfl, hb, hg, hle, hcap, hsz, hc⟩
  · exact IsFr.zero w
  · refine ⟨_, cap, rfl, fun i hi => ⟨g, o, rfl, fun j hj => ?_⟩⟩
    rw [cell_of_row _ _ _ _ _ _ hg, Nat.add_assoc, hc _ (by omega), frCells_get L i j hi hj]
/-- A row that was written whole behind what the slice has. -/
theorem OwnF.splice {g o cap : Nat} {cur : Array Value} {M : List F9} (hb : base ≤ g) (hg : w.heap[g]? = some (.cells cur 93 (0, 0))) (hle : L.length + M.length ≤ cap) (hcap : cap ≤ maxLen) (hsz : o + cap * 9 ≤ cur.size) (hc : ∀ j, j < L.length * 9 → cur[o + j]? = (frCells L)[j]?) :
    OwnF (w.setCells g (o + L.length * 9) (frCells M)) base (.slice (some ⟨g, o, none⟩) (L.length + M.length) cap) (L ++ M) := by
  have hl := frCells_length M
  have hfit : o + L.length * 9 + (frCells M).length ≤ cur.size := by rw [hl]; have := Nat.mul_le_mul_right 9 hle; rw [Nat.add_mul] at this; omega
  have hr := row_setCells (frCells M) (o + L.length * 9) w cur hg hfit
  refine .inr ⟨g, o, cap, _, by rw [List.length_append], hb, hr, by rw [List.length_append]; exact hle, hcap, ?_, fun j hj => ?_⟩
  · rw [List.size_toArray, List.length_append, List.length_append, List.length_take, List.length_drop, Array.length_toList (xs := cur)]; omega
  · rw [List.length_append, Nat.add_mul] at hj
    rw [List.getElem?_toArray, get_spliced _ _ _ _ (by rw [Array.length_toList (xs := cur)]; exact hfit), frCells_append]
    by_cases h1 : j < L.length * 9
    · rw [if_pos (by omega), Array.getElem?_toList, hc j h1, List.getElem?_append_left (by rw [frCells_length]; exact h1)]
    · rw [if_neg (by omega), if_pos (by omega), List.getElem?_append_right (by rw [frCells_length]; omega), frCells_length]
      congr 1
      omega
end
end Go.Proofs.YtdpemmmbkjmplabGreatDoor
namespace Go.Proofs.YtdpemmmbkjmplabGreatDoor
open Go.RowKit

/-- The blocks of a site of a world: its row, its site, journal, map, plate, bytes; its leads and their weights. -/
structure NB where
  nd : Nat
  s : Nat
  j : Nat
  mb : Nat
  p : Nat
  q : Nat
  lb : Nat → Nat
  b : Nat → Nat
  cap : Nat → Nat
def ldV (K : NB) (N : PN) (d : Nat) : Value := match N.ld d with
  | none => .pointer none
  | some _ => .pointer (some ⟨K.lb d, 0, none⟩)
theorem ldV_none {K : NB} {N : PN} {d : Nat} (h : N.ld d = none) : ldV K N d = .pointer none := by unfold ldV; rw [h]
theorem ldV_some {K : NB} {N : PN} {d : Nat} {x : Int × PL} (h : N.ld d = some x) : ldV K N d = .pointer (some ⟨K.lb d, 0, none⟩) := by unfold ldV; rw [h]
def ndC (K : NB) (N : PN) : List Value := [.pointer (some ⟨K.s, 0, none⟩), ldV K N 0, ldV K N 1, ldV K N 2, ldV K N 3, ldV K N 4, ldV K N 5]
/-- A site of a world in memory; C tells each block's colour. -/
structure ND (w0 w : World) (C : Nat → Nat) (K : NB) (i : Nat) (zs : List Int) (N : PN) (m : Nat) : Prop where
  row : w.heap[K.nd]? = some (.cells (ndC K N).toArray 84 (0, 0))
  sp : SP w0 w K.s K.j K.mb K.p K.q i N.R m (dlN N) N.over N.B N.l
  lds : ∀ d, d < 6 → ∀ x, N.ld d = some x → LD w (K.lb d) (K.b d) (K.cap d) i d x.1 zs x.2
  cn : C K.nd = 100 * i + 1
  cs : C K.s = 100 * i + 2
  cj : C K.j = 100 * i + 3
  cm : C K.mb = 100 * i + 4
  cp : C K.p = 100 * i + 5
  cq : C K.q = 100 * i + 6
  cl : ∀ d, d < 6 → ∀ x, N.ld d = some x → C (K.lb d) = 100 * i + 10 + d ∧ C (K.b d) = 100 * i + 20 + d
  n0 : w0.heap.size ≤ K.nd
section
variable {w0 w w' : World} {C C' : Nat → Nat} {K : NB} {i m : Nat} {zs : List Int} {N : PN}
theorem ND.kept {S : Nat → Prop} (h : ND w0 w C K i zs N m) (k : Kept S w w') (hS : ∀ x, x < w.heap.size → C x / 100 = i → ¬ S x) (hb : ∀ x, S x → w0.heap.size ≤ x) : ND w0 w' C K i zs N m := by
  obtain ⟨l1, l2, l3, l4, l5⟩ := h.sp.lts
  have e1 := h.cs; have e2 := h.cj; have e3 := h.cm; have e4 := h.cp; have e5 := h.cq; have e6 := h.cn
  refine ⟨k.row h.row (hS _ (row_ltJ h.row) (by omega)), h.sp.far k hb ?_ (hS _ l1 (by omega)) (hS _ l2 (by omega)), fun d hd x hx => ?_, h.cn, h.cs, h.cj, h.cm, h.cp, h.cq, h.cl, h.n0⟩
  · rintro x (rfl | rfl | rfl)
    · exact hS _ l3 (by omega)
    · exact hS _ l4 (by omega)
    · exact hS _ l5 (by omega)
  · have g := h.cl d hd x hx
    have r := h.lds d hd x hx
    have r1 := row_ltJ r.row
    exact r.kept k (hS _ r1 (by omega)) (hS _ (Nat.lt_trans r.bl r1) (by omega))
theorem ND.later (h : ND w0 w C K i zs N m) (hb : Below w.heap.size w w') : ND w0 w' C K i zs N m :=
  h.kept (S := fun _ => False) (Kept.of_below hb) (fun _ _ _ x => x) (fun _ x => x.elim)
theorem ND.col (h : ND w0 w C K i zs N m) (hC : ∀ x, x < w.heap.size → C' x = C x) : ND w0 w C' K i zs N m := by
  obtain ⟨l1, l2, l3, l4, l5⟩ := h.sp.lts
  refine ⟨h.row, h.sp, h.lds, (hC _ (row_ltJ h.row)).trans h.cn, (hC _ l1).trans h.cs, (hC _ l3).trans h.cj, (hC _ l2).trans h.cm, (hC _ l4).trans h.cp, (hC _ l5).trans h.cq, fun d hd x hx => ?_, h.n0⟩
  have g := h.cl d hd x hx
  have r := h.lds d hd x hx
  have r1 := row_ltJ r.row
  exact ⟨(hC _ r1).trans g.1, (hC _ (Nat.lt_trans r.bl r1)).trans g.2⟩
theorem ND.mono {k : Nat} (h : ND w0 w C K i zs N m) (hk : m ≤ k) : ND w0 w C K i zs N k := ⟨h.row, h.sp.mono hk, h.lds, h.cn, h.cs, h.cj, h.cm, h.cp, h.cq, h.cl, h.n0⟩
theorem ND.cell (h : ND w0 w C K i zs N m) (j : Nat) : w.cell? ⟨K.nd, j, none⟩ = (ndC K N)[j]? := by
  rw [cell_of_row w K.nd j _ _ _ h.row, List.getElem?_toArray]
theorem ND.site (h : ND w0 w C K i zs N m) : w.cell? ⟨K.nd, 0, none⟩ = some (.pointer (some ⟨K.s, 0, none⟩)) := h.cell 0
theorem ND.lead (h : ND w0 w C K i zs N m) {d : Nat} (hd : d < 6) : w.cell? ⟨K.nd, 1 + d, none⟩ = some (ldV K N d) := by
  rw [h.cell]
  rcases six hd with rfl | rfl | rfl | rfl | rfl | rfl <;> rfl
theorem ND.fz (h : ND w0 w C K i zs N m) (j : Nat) : w.frozen? ⟨K.nd, j, none⟩ = false := frozen_of_row w K.nd j _ _ h.row
/-- The way from its row to its plate. -/
theorem ND.way (h : ND w0 w C K i zs N m) : w.cell? ⟨K.nd, 0, none⟩ = some (.pointer (some ⟨K.s, 0, none⟩)) ∧ w.cell? ⟨K.s, 0, none⟩ = some (.pointer (some ⟨K.j, 0, none⟩)) ∧ w.cell? ⟨K.j, 0, none⟩ = some (.pointer (some ⟨K.p, 0, none⟩)) :=
  ⟨h.site, h.sp.sr.cells.1, h.sp.jp.jr.plate⟩
end

/-- The blocks of a world: its row, weights, sites, map; the values of its frames and events; its sites' blocks. -/
structure XB where
  xb : Nat
  wb : Nat
  wc : Nat
  nb : Nat
  nc : Nat
  mb : Nat
  fv : Value
  ev : Value
  K : Nat → NB
def wdC (X : XB) (n : Nat) : List Value := [.slice (some ⟨X.wb, 0, none⟩) n X.wc, .slice (some ⟨X.nb, 0, none⟩) n X.nc, .map (some X.mb), X.fv, X.ev]
def pairV (a b : Nat) : Value := .agg #[.int .i64 (a : Int), .int .i64 (b : Int)]
/-- A world in memory. -/
structure WD (w0 w : World) (C : Nat → Nat) (X : XB) (zs : List Int) (V : PX) (m : Nat) : Prop where
  bel : Below w0.heap.size w0 w
  row : w.heap[X.xb]? = some (.cells (wdC X zs.length).toArray 73 (0, 0))
  ws : ∀ i, i < zs.length → w.cell? ⟨X.wb, 0 + i, none⟩ = some (.int .i64 (zs.getD i 0))
  ns : ∀ i, i < zs.length → w.cell? ⟨X.nb, i, none⟩ = some (.pointer (some ⟨(X.K i).nd, 0, none⟩))
  nds : ∀ i, i < zs.length → ND w0 w C (X.K i) i zs (V.nd i) m
  brk : ∃ D : DataW Unit, w.ownsMap Tryz.prog 115 unitElem X.mb m D ∧ ∀ a b, a < 7 → b < 7 → ∀ l, keyOf Tryz.prog 115 (pairV a b) = some l → Maps.has D l = V.br a b
  fly : OwnF w w0.heap.size X.fv V.fly
  evs : w.ownsRow w0.heap.size 101 3 X.ev V.evs.length (evCells V.evs)
  cx : C X.xb = 1001
  cw : C X.wb = 1002
  cn : C X.nb = 1003
  cm : C X.mb = 1004
  cf : ∀ g, X.fv.ownBlock = some g → C g = 1005
  ce : ∀ g, X.ev.ownBlock = some g → C g = 1006
  lt : ∀ x, C x < 2000 → x < w.heap.size
  low : ∀ x, C x < 2000 → w0.heap.size ≤ x
  inv : XI zs V m
theorem own_kept {S : Nat → Prop} {w w' : World} {e : TypeId} {size n base : Nat} {v : Value} {xs : List Value} (h : w.ownsRow base e size v n xs) (k : Kept S w w') (hs : ∀ g, v.ownBlock = some g → ¬ S g) : w'.ownsRow base e size v n xs := by
  refine ⟨h.1, ?_⟩
  rcases h.2 with hn | ⟨g, cap, cur, rfl, hb', hgg, rest⟩
  · exact .inl hn
  · exact .inr ⟨g, cap, cur, rfl, hb', k.row hgg (hs g rfl), rest⟩
theorem cell_kept {S : Nat → Prop} {w w' : World} {a : Addr} {v : Value} (h : w.cell? a = some v) (k : Kept S w w') (hs : ¬ S a.block) : w'.cell? a = some v := by
  have hb := cell_lt h
  unfold World.cell? at h ⊢
  rw [k.block _ hb hs]
  exact h
section
variable {w0 w w' : World} {C C' : Nat → Nat} {X : XB} {m : Nat} {zs : List Int} {V V' : PX}
theorem WD.n7 (h : WD w0 w C X zs V m) : 1 ≤ zs.length ∧ zs.length ≤ 7 := ⟨(errW_zero h.inv.he).1, (errW_zero h.inv.he).2.1⟩
theorem WD.later (h : WD w0 w C X zs V m) (hb : Below w.heap.size w w') : WD w0 w' C X zs V m := by
  have k : Kept (fun _ => False) w w' := Kept.of_below hb
  obtain ⟨D, hD, hh⟩ := h.brk
  exact ⟨h.bel.trans (hb.mono h.bel.size), k.row h.row (fun x => x), fun i hi => cell_kept (h.ws i hi) k (fun x => x), fun i hi => cell_kept (h.ns i hi) k (fun x => x), fun i hi => (h.nds i hi).later hb,
    ⟨D, ownsMap_kept hD k (fun x => x), hh⟩, h.fly.kept k (fun _ _ x => x), own_kept h.evs k (fun _ _ x => x), h.cx, h.cw, h.cn, h.cm, h.cf, h.ce, fun x hx => Nat.lt_of_lt_of_le (h.lt x hx) hb.size, h.low, h.inv⟩
theorem WD.drew (h : WD w0 w C X zs V m) : WD w0 w.drew C X zs V m := h.later (Below.refl _ _).drew
theorem WD.cell (h : WD w0 w C X zs V m) (j : Nat) : w.cell? ⟨X.xb, j, none⟩ = (wdC X zs.length)[j]? := by
  rw [cell_of_row w X.xb j _ _ _ h.row, List.getElem?_toArray]
theorem WD.cells (h : WD w0 w C X zs V m) : w.cell? ⟨X.xb, 0, none⟩ = some (.slice (some ⟨X.wb, 0, none⟩) zs.length X.wc) ∧ w.cell? ⟨X.xb, 1, none⟩ = some (.slice (some ⟨X.nb, 0, none⟩) zs.length X.nc) ∧ w.cell? ⟨X.xb, 2, none⟩ = some (.map (some X.mb)) ∧ w.cell? ⟨X.xb, 3, none⟩ = some X.fv ∧ w.cell? ⟨X.xb, 4, none⟩ = some X.ev :=
  ⟨h.cell 0, h.cell 1, h.cell 2, h.cell 3, h.cell 4⟩
theorem WD.fz (h : WD w0 w C X zs V m) (j : Nat) : w.frozen? ⟨X.xb, j, none⟩ = false := frozen_of_row w X.xb j _ _ h.row
/-- The world's own blocks. -/
def OwnX (C : Nat → Nat) (x : Nat) : Prop := C x < 2000
theorem WD.held {A : Nat → Addr} (h : WD w0 w C X zs V m) (hE : Held9 w0 A) : Held9 w A := hE.later h.bel
/-- A site of it was written, other things not. -/
theorem WD.node {S : Nat → Prop} {i m' : Nat} {N : PN} {K : NB} (h : WD w0 w C X zs V m) (k : Kept S w w') (hi : i < zs.length) (hS : ∀ x, S x → C x / 100 = i) (hC : ∀ x, x < w.heap.size → C' x = C x) (hl : ∀ x, w.heap.size ≤ x → C' x < 2000 → x < w'.heap.size) (hN : ND w0 w' C' K i zs N m') (hK : K.nd = (X.K i).nd) (hm : m ≤ m') (hI : XI zs (setNd V i N) m') :
    WD w0 w' C' { X with K := fun e => if e = i then K else X.K e } zs (setNd V i N) m' := by
  have n7 := h.n7.2
  have hs0 := h.bel.size
  have hlow : ∀ x, S x → w0.heap.size ≤ x := fun x hx => h.low x (by have := hS x hx; omega)
  have nS : ∀ x, C x / 100 ≠ i → ¬ S x := fun x hx hs => hx (hS x hs)
  obtain ⟨D, hD, hh⟩ := h.brk
  have cx := h.cx; have cw := h.cw; have cn := h.cn; have cm := h.cm
  have o : ∀ {x c : Nat}, C x = c → c < 2000 → C' x = c := fun {x c} e hc => (hC x (h.lt x (by omega))).trans e
  refine ⟨k.below h.bel.size hlow h.bel, k.row h.row (nS X.xb (by omega)), fun e he => cell_kept (h.ws e he) k (nS _ (by show C X.wb / 100 ≠ i; omega)), fun e he => ?_, fun e he => ?_,
    ⟨D, (ownsMap_kept hD k (nS X.mb (by omega))).mono hm, hh⟩, h.fly.kept k (fun g hg => nS g (by have := h.cf g hg; omega)), own_kept h.evs k (fun g hg => nS g (by have := h.ce g hg; omega)), o h.cx (by omega), o h.cw (by omega), o h.cn (by omega), o h.cm (by omega), fun g hg => o (h.cf g hg) (by omega), fun g hg => o (h.ce g hg) (by omega), fun x hx => ?_, fun x hx => ?_, hI⟩
  · have := cell_kept (h.ns e he) k (nS _ (by show C X.nb / 100 ≠ i; omega))
    rw [this]
    by_cases g : e = i
    · subst g; simp [hK]
    · simp [g]
  · by_cases g : e = i
    · subst g
      simpa [setNd] using hN
    · have := (((h.nds e he).col hC).kept k (fun x hlt hx => nS x (by rw [← hC x hlt]; omega)) hlow).mono hm
      simpa [setNd, g] using this
  · rcases Nat.lt_or_ge x w.heap.size with q | q
    · exact Nat.lt_of_lt_of_le q k.size
    · exact hl x q hx
  · rcases Nat.lt_or_ge x w.heap.size with q | q
    · exact h.low x (by rw [← hC x q]; exact hx)
    · omega
/-- New blocks get colours. -/
theorem WD.grow (h : WD w0 w C X zs V m) (hb : Below w.heap.size w w') (hC : ∀ x, x < w.heap.size → C' x = C x) (hl : ∀ x, w.heap.size ≤ x → C' x < 2000 → x < w'.heap.size) : WD w0 w' C' X zs V m := by
  have g := h.later hb
  obtain ⟨D, hD, hh⟩ := g.brk
  have hs := h.bel.size
  have o : ∀ {x c : Nat}, C x = c → c < 2000 → C' x = c := fun {x c} e hc => (hC x (h.lt x (by omega))).trans e
  refine ⟨g.bel, g.row, g.ws, g.ns, fun i hi => ((h.nds i hi).col hC).later hb, ⟨D, hD, hh⟩, g.fly, g.evs, o h.cx (by omega), o h.cw (by omega), o h.cn (by omega), o h.cm (by omega), fun g hg => o (h.cf g hg) (by omega), fun g hg => o (h.ce g hg) (by omega), fun x hx => ?_, fun x hx => ?_, h.inv⟩
  · rcases Nat.lt_or_ge x w.heap.size with q | q
    · exact Nat.lt_of_lt_of_le q hb.size
    · exact hl x q hx
  · rcases Nat.lt_or_ge x w.heap.size with q | q
    · exact h.low x (by rw [← hC x q]; exact hx)
    · omega
/-- A block gets a colour. -/
def paint (C : Nat → Nat) (x c : Nat) : Nat → Nat := fun y => if y = x then c else C y
theorem paint_at (C : Nat → Nat) (x c : Nat) : paint C x c x = c := if_pos rfl
theorem paint_ne {C : Nat → Nat} {x c y : Nat} (h : y ≠ x) : paint C x c y = C y := if_neg h
/-- The world's own row was written at its frames or events. -/
theorem WD.own {fv ev : Value} {F : List F9} {E : List E3} {m' : Nat} {S : Nat → Prop} (h : WD w0 w C X zs V m) (k : Kept S w w') (hS : ∀ x, S x → C x = 1001 ∨ C x = 1005 ∨ C x = 1006) (hC : ∀ x, x < w.heap.size → C' x = C x) (hl : ∀ x, w.heap.size ≤ x → C' x < 2000 → x < w'.heap.size) (hr : w'.heap[X.xb]? = some (.cells (wdC { X with fv := fv, ev := ev } zs.length).toArray 73 (0, 0)))
    (hf : OwnF w' w0.heap.size fv F) (he : w'.ownsRow w0.heap.size 101 3 ev E.length (evCells E)) (cf : ∀ g, fv.ownBlock = some g → C' g = 1005) (ce : ∀ g, ev.ownBlock = some g → C' g = 1006) (hm : m ≤ m') (hI : XI zs { V with fly := F, evs := E } m') :
    WD w0 w' C' { X with fv := fv, ev := ev } zs { V with fly := F, evs := E } m' := by
  have n7 := h.n7.2
  have hs0 := h.bel.size
  have hlow : ∀ x, S x → w0.heap.size ≤ x := fun x hx => h.low x (by rcases hS x hx with g | g | g <;> omega)
  have nS : ∀ x, C x ≠ 1001 → C x ≠ 1005 → C x ≠ 1006 → ¬ S x := fun x h1 h2 h3 hs => by rcases hS x hs with g | g | g <;> omega
  obtain ⟨D, hD, hh⟩ := h.brk
  have cx := h.cx; have cw := h.cw; have cn := h.cn; have cm := h.cm
  have o : ∀ {x c : Nat}, C x = c → c < 2000 → C' x = c := fun {x c} e hc => (hC x (h.lt x (by omega))).trans e
  refine ⟨k.below h.bel.size hlow h.bel, hr, fun e he => cell_kept (h.ws e he) k (nS _ (by show C X.wb ≠ _; omega) (by show C X.wb ≠ _; omega) (by show C X.wb ≠ _; omega)), fun e he => cell_kept (h.ns e he) k (nS _ (by show C X.nb ≠ _; omega) (by show C X.nb ≠ _; omega) (by show C X.nb ≠ _; omega)), fun e he => (((h.nds e he).col hC).kept k (fun x hlt hx => by rw [hC x hlt] at hx; exact nS x (by omega) (by omega) (by omega)) hlow).mono hm,
    ⟨D, (ownsMap_kept hD k (nS X.mb (by omega) (by omega) (by omega))).mono hm, hh⟩, hf, he, o h.cx (by omega), o h.cw (by omega), o h.cn (by omega), o h.cm (by omega), cf, ce, fun x hx => ?_, fun x hx => ?_, hI⟩
  · rcases Nat.lt_or_ge x w.heap.size with q | q
    · exact Nat.lt_of_lt_of_le q k.size
    · exact hl x q hx
  · rcases Nat.lt_or_ge x w.heap.size with q | q
    · exact h.low x (by rw [← hC x q]; exact hx)
    · omega
end
end Go.Proofs.YtdpemmmbkjmplabGreatDoor
namespace Go.Proofs.YtdpemmmbkjmplabGreatDoor
open Go.RowKit

section
variable {w0 w : World} {C : Nat → Nat} {X : XB} {m : Nat} {zs : List Int} {V : PX} {A : Nat → Addr}
set_option maxRecDepth 100000 in
theorem has_is (s : Int) (b : Bool) (h : WD w0 w C X zs V m) (hb : decide (0 ≤ s ∧ s < zs.length) = b) :
    Calls Tryz.prog 63 #[.pointer (some ⟨X.xb, 0, none⟩), .int .i64 s] w fun e w' => e = .returned (.bool b) ∧ w' = w := by
  obtain ⟨-, c1, -, -, -⟩ := h.cells
  have n7 := h.n7
  obtain ⟨n, hn⟩ : ∃ n, zs.length = n := ⟨_, rfl⟩
  rw [hn] at c1 n7 hb
  clear h hn
  subst hb
  by_cases h0 : 0 ≤ s
  · by_cases h1 : s < n
    · have e : decide (0 ≤ s ∧ s < n) = true := decide_eq_true ⟨h0, h1⟩
      rw [e]
      clear e
      go_enter Tryz.func63, Tryz.ntmps63
      go_wp2_with fail
      go_ret
      exact ⟨rfl, rfl⟩
    · have e : decide (0 ≤ s ∧ s < n) = false := decide_eq_false (fun g => h1 g.2)
      rw [e]
      clear e
      go_enter Tryz.func63, Tryz.ntmps63
      go_wp2_with fail
      go_ret
      exact ⟨rfl, rfl⟩
  · have e : decide (0 ≤ s ∧ s < n) = false := decide_eq_false (fun g => h0 g.1)
    have h2 : decide (0 ≤ s) = false := decide_eq_false h0
    rw [e]
    clear e
    go_enter Tryz.func63, Tryz.ntmps63
    go_wp2_with fail
    go_ret
    exact ⟨rfl, rfl⟩
set_option maxRecDepth 100000 in
theorem find_no (s : Int) (h : WD w0 w C X zs V m) (hE : Held9 w0 A) (hs : ¬ (0 ≤ s ∧ s < zs.length)) :
    Calls Tryz.prog 65 #[.pointer (some ⟨X.xb, 0, none⟩), .int .i64 s] w fun e w' => e = .returned (.tuple #[.pointer none, .iface 222 (.pointer (some (A 1)))]) ∧ Below w.heap.size w w' := by
  have H := hid h
  have hb := decide_eq_false hs
  have g1 := (h.held hE).g1
  clear h hE hs
  have HB := hid hb
  clear hb
  go_enter Tryz.func65, Tryz.ntmps65
  go_wp2_with fail
  refine (has_is s false H.out HB.out).mono ?_
  rintro e w1 ⟨rfl, hx⟩
  subst w1
  go_wp2_with fail
  go_quiet (fail)
  go_wp2
  go_ret2
  exact ⟨rfl, below_drewN (Below.refl _ _) _⟩
set_option maxRecDepth 100000 in
theorem find_ok (s : Nat) (h : WD w0 w C X zs V m) (hs : s < zs.length) :
    Calls Tryz.prog 65 #[.pointer (some ⟨X.xb, 0, none⟩), .int .i64 (s : Int)] w fun e w' => e = .returned (.tuple #[.pointer (some ⟨(X.K s).nd, 0, none⟩), .nilIface]) ∧ w' = w := by
  have H := hid h
  have HB : Hid (decide (0 ≤ (s : Int) ∧ (s : Int) < zs.length) = true) := decide_eq_true (by omega)
  obtain ⟨-, c1, -, -, -⟩ := h.cells
  have c2 := h.ns s hs
  have n7 := h.n7
  obtain ⟨n, hn⟩ : ∃ n, Hid (zs.length = n) := ⟨_, rfl⟩
  rw [hn.out] at c1 n7 hs
  clear h
  go_enter Tryz.func65, Tryz.ntmps65
  go_wp2_with fail
  refine (has_is (s : Int) true H.out HB.out).mono ?_
  rintro e w1 ⟨rfl, hx⟩
  subst w1
  go_wp2_with fail
  go_ret2
  exact ⟨rfl, rfl⟩
set_option maxRecDepth 100000 in
theorem findDeal_no (s d : Int) (h : WD w0 w C X zs V m) (hE : Held9 w0 A) (hs : ¬ ((0 ≤ s ∧ s < zs.length) ∧ 0 ≤ d ∧ d < 6)) :
    Calls Tryz.prog 41 #[.pointer (some ⟨X.xb, 0, none⟩), .int .i64 s, .int .i64 d] w fun e w' => e = .returned (.tuple #[.pointer none, .iface 222 (.pointer (some (A 1)))]) ∧ Below w.heap.size w w' := by
  have H := hid h
  have HE := hid hE
  have g1 := (h.held hE).g1
  by_cases d0 : 0 ≤ d
  · by_cases d6 : d < 6
    · have HS : Hid (¬ (0 ≤ s ∧ s < zs.length)) := fun g => hs ⟨g, d0, d6⟩
      clear h hs hE
      go_enter Tryz.func41, Tryz.ntmps41
      go_wp2_with fail
      refine (find_no s H.out HE.out HS.out).mono ?_
      rintro e w1 ⟨rfl, hx⟩
      have HX := hid hx
      clear hx
      go_wp2_with fail
      go_ret2
      exact ⟨rfl, HX.out⟩
    · clear h hs hE
      go_enter Tryz.func41, Tryz.ntmps41
      go_wp2_with fail
      go_quiet (fail)
      go_wp2
      go_ret2
      exact ⟨rfl, below_drewN (Below.refl _ _) _⟩
  · have h0 : d < 0 := by omega
    clear h hs hE
    go_enter Tryz.func41, Tryz.ntmps41
    go_wp2_with fail
    go_quiet (fail)
    go_wp2
    go_ret2
    exact ⟨rfl, below_drewN (Below.refl _ _) _⟩
set_option maxRecDepth 100000 in
theorem findDeal_ok (s d : Nat) (h : WD w0 w C X zs V m) (hs : s < zs.length) (hd : d < 6) :
    Calls Tryz.prog 41 #[.pointer (some ⟨X.xb, 0, none⟩), .int .i64 (s : Int), .int .i64 (d : Int)] w fun e w' => e = .returned (.tuple #[.pointer (some ⟨(X.K s).nd, 0, none⟩), .nilIface]) ∧ w' = w := by
  have H := hid h
  have HS := hid hs
  have d0 : ¬ (d : Int) < 0 := by omega
  have d6 : ¬ 6 ≤ (d : Int) := by omega
  clear h hs
  go_enter Tryz.func41, Tryz.ntmps41
  go_wp2_with fail
  refine (find_ok s H.out HS.out).mono ?_
  rintro e w1 ⟨rfl, hx⟩
  subst w1
  go_wp2_with fail
  go_ret2
  exact ⟨rfl, rfl⟩
theorem powered_err (v : Value) (a : Addr) :
    Calls Tryz.prog 40 #[v, .iface 222 (.pointer (some a))] w fun e w' => e = .returned (.tuple #[.pointer none, .iface 222 (.pointer (some a))]) ∧ w' = w := by
  go_enter Tryz.func40, Tryz.ntmps40
  go_wp2_with fail
  go_ret2
  exact ⟨rfl, rfl⟩
set_option maxRecDepth 100000 in
theorem powered_is {K : NB} {i : Nat} {N : PN} (b : Bool) (h : ND w0 w C K i zs N m) (hE : Held9 w A) (hb : (N.l != -2) = b) :
    Calls Tryz.prog 40 #[.pointer (some ⟨K.nd, 0, none⟩), .nilIface] w fun e w' => e = .returned (.tuple #[if b = true then .pointer (some ⟨K.nd, 0, none⟩) else .pointer none, if b = true then .nilIface else .iface 222 (.pointer (some (A 5)))]) ∧ Below w.heap.size w w' := by
  have H := hid h.sp.jp.pl
  obtain ⟨c0, c1, c2⟩ := h.way
  have g5 := hE.g5
  have HB := hid hb
  clear h hE hb
  cases b with
  | true =>
    go_enter Tryz.func40, Tryz.ntmps40
    go_wp2_with fail
    refine (power_any K.p K.q N.B N.l w H.out).mono ?_
    rintro e w1 ⟨rfl, hx⟩
    subst w1
    rw [HB.out]
    go_wp2_with fail
    go_ret2
    exact ⟨rfl, Below.refl _ _⟩
  | false =>
    go_enter Tryz.func40, Tryz.ntmps40
    go_wp2_with fail
    refine (power_any K.p K.q N.B N.l w H.out).mono ?_
    rintro e w1 ⟨rfl, hx⟩
    subst w1
    rw [HB.out]
    go_wp2_with fail
    go_quiet (fail)
    go_wp2
    go_ret2
    exact ⟨rfl, below_drewN (Below.refl _ _) _⟩
set_option maxRecDepth 100000 in
theorem flies_is (s : Int) (b : Bool) (h : WD w0 w C X zs V m) (hb : decide (0 ≤ s ∧ s < V.fly.length) = b) :
    Calls Tryz.prog 48 #[.pointer (some ⟨X.xb, 0, none⟩), .int .i64 s] w fun e w' => e = .returned (.bool b) ∧ w' = w := by
  obtain ⟨-, -, -, c3, -⟩ := h.cells
  obtain ⟨n, hn⟩ : ∃ n, V.fly.length = n := ⟨_, rfl⟩
  have hv : ∃ ad cap, X.fv = .slice ad n cap := by
    rw [← hn]
    exact h.fly.form
  obtain ⟨ad, cap, hv⟩ := hv
  rw [hv] at c3
  rw [hn] at hb
  clear h hn
  subst hb
  by_cases h0 : 0 ≤ s
  · by_cases h1 : s < n
    · have e : decide (0 ≤ s ∧ s < n) = true := decide_eq_true ⟨h0, h1⟩
      rw [e]
      clear e
      go_enter Tryz.func48, Tryz.ntmps48
      go_wp2_with fail
      go_ret
      exact ⟨rfl, rfl⟩
    · have e : decide (0 ≤ s ∧ s < n) = false := decide_eq_false (fun g => h1 g.2)
      rw [e]
      clear e
      go_enter Tryz.func48, Tryz.ntmps48
      go_wp2_with fail
      go_ret
      exact ⟨rfl, rfl⟩
  · have e : decide (0 ≤ s ∧ s < n) = false := decide_eq_false (fun g => h0 g.1)
    have h2 : decide (0 ≤ s) = false := decide_eq_false h0
    rw [e]
    clear e
    go_enter Tryz.func48, Tryz.ntmps48
    go_wp2_with fail
    go_ret
    exact ⟨rfl, rfl⟩
end
theorem wisEnd_is (p : Nat) (b : Bool) (w : World) (hb : finB p = b) :
    Calls Tryz.prog 83 #[.int .i64 (p : Int)] w fun e w' => e = .returned (.bool b) ∧ w' = w := by
  subst hb
  unfold finB
  by_cases h2 : p = 2
  · subst h2
    go_enter Tryz.func83, Tryz.ntmps83
    go_wp2_with fail
    go_ret
    exact ⟨rfl, rfl⟩
  · by_cases h3 : p = 3
    · subst h3
      go_enter Tryz.func83, Tryz.ntmps83
      go_wp2_with fail
      go_ret
      exact ⟨rfl, rfl⟩
    · have e : decide (p = 2 ∨ p = 3) = false := decide_eq_false (by omega)
      have i2 : ¬ (p : Int) = 2 := by omega
      have i3 : ¬ (p : Int) = 3 := by omega
      rw [e]
      clear e
      have b2 : ((p : Int) == 2) = false := beq_eq_false_iff_ne.2 i2
      have b3 : ((p : Int) == 3) = false := beq_eq_false_iff_ne.2 i3
      go_enter Tryz.func83, Tryz.ntmps83
      go_wp2_with fail
      go_ret
      exact ⟨rfl, rfl⟩
set_option maxRecDepth 100000 in
/-- A site's own word of a deal. -/
theorem known_is {w : World} {s j mb p n : Nat} {id : Int} {R : Nat → Bool} {E : Nat → Nat × St} {over : Bool} (d h1 h2 h3 : Nat) (hj : JR w j p E over) (h : SR w s j mb id R n) (hd : d < 6) (hs : (E d).2 = ⟨h1, h2, h3⟩) :
    Calls Tryz.prog 71 #[.pointer (some ⟨s, 0, none⟩), .int .i64 (d : Int)] w fun e w' => e = .returned (agS h1 h2 h3) ∧ Below w.heap.size w w' := by
  obtain ⟨W, HW⟩ : ∃ W, Hid (w.alloc (.cells #[.int .i64 0, .int .i64 0, .int .i64 0] 43) = W) := ⟨_, rfl⟩
  have HB : Hid (Below w.heap.size w W) := by rw [← HW.out]; exact (Below.refl _ _).alloc (Nat.le_refl _) _
  have HR : Hid (W.heap[w.heap.size]? = some (.cells #[.int .i64 0, .int .i64 0, .int .i64 0] 43 (0, 0))) := by rw [← HW.out]; exact heap_alloc_new w _
  have HJ := hid (hj.later HB.out hj.lt)
  have HS2 := hid (h.later HB.out)
  have HS := hid hs
  have hW := HW.out
  clear hj h hs
  go_enter Tryz.func71, Tryz.ntmps71
  go_wp2_with (go_at_call 89; (with_reducible refine (sstate_is d h1 h2 h3 HJ.out HS2.out hd HS.out).mono ?_); rintro e w1 ⟨rfl, hb1⟩; have HR1 := hid ((hb1.block _ (row_ltJ HR.out)).trans HR.out); have HB1 := hid (HB.out.trans (hb1.mono HB.out.size)); clear hb1; obtain ⟨W2, HW2⟩ : ∃ W2, Hid (w1.alloc (.cells #[.int .i64 (h1 : Int), .int .i64 (h2 : Int), .int .i64 (h3 : Int)] 43) = W2) := ⟨_, rfl⟩; have hW2 := HW2.out; have HR2 : Hid (W2.heap[w.heap.size]? = some (.cells #[.int .i64 0, .int .i64 0, .int .i64 0] 43 (0, 0))) := hid (by rw [← HW2.out]; exact (Below.heap_alloc w1 _ _ (row_ltJ HR1.out)).trans HR1.out); have HN2 : Hid (W2.heap[w1.heap.size]? = some (.cells #[.int .i64 (h1 : Int), .int .i64 (h2 : Int), .int .i64 (h3 : Int)] 43 (0, 0))) := hid (by rw [← HW2.out]; exact heap_alloc_new w1 _); have HB2 : Hid (Below w.heap.size w W2) := hid (by rw [← HW2.out]; exact HB1.out.alloc HB1.out.size _); have c0 : W2.cell? ⟨w.heap.size, 0, none⟩ = some (.int .i64 0) := (cell_of_row _ _ 0 _ _ _ HR2.out); have c1 : W2.cell? ⟨w.heap.size, 1, none⟩ = some (.int .i64 0) := (cell_of_row _ _ 1 _ _ _ HR2.out); have c2 : W2.cell? ⟨w.heap.size, 2, none⟩ = some (.int .i64 0) := (cell_of_row _ _ 2 _ _ _ HR2.out); have z0 := frozen_of_row _ _ 0 _ _ HR2.out; have z1 := frozen_of_row _ _ 1 _ _ HR2.out; have z2 := frozen_of_row _ _ 2 _ _ HR2.out; have d0 : W2.cell? ⟨w1.heap.size, 0, none⟩ = some (.int .i64 (h1 : Int)) := (cell_of_row _ _ 0 _ _ _ HN2.out); have d1 : W2.cell? ⟨w1.heap.size, 1, none⟩ = some (.int .i64 (h2 : Int)) := (cell_of_row _ _ 1 _ _ _ HN2.out); have d2 : W2.cell? ⟨w1.heap.size, 2, none⟩ = some (.int .i64 (h3 : Int)) := (cell_of_row _ _ 2 _ _ _ HN2.out))
  refine bodyPost_ret (results_cell_row rfl _ _ w.heap.size 43 _ (0, 0) _ rfl (set3 HR2.out _ _ _) Tryz.underlying43 rfl sizeState) rfl ?_
  exact ⟨rfl, ((HB2.out.setCell (Nat.le_refl _) _).setCell (Nat.le_refl _) _).setCell (Nat.le_refl _) _⟩
end Go.Proofs.YtdpemmmbkjmplabGreatDoor
