/-
  On the way to WStepsProof: XL XM XY.
-/
import Derived.Test.YtbaamegnmeohoacGreatDoorBs39
import Derived.Test.YtbaamegnmeohoacGreatDoorBs38
import Derived.Test.YtbaamegnmeohoacGreatDoorBs37
import Derived.Test.YtbaamegnmeohoacGreatDoorBs21
import Derived.Test.YtbaamegnmeohoacGreatDoorBs20
import Derived.Test.YtbaamegnmeohoacGreatDoorBs17
import Derived.Test.YtbaamegnmeohoacGreatDoorBs35
namespace Go.Proofs.YtbaamegnmeohoacGreatDoor
open Go.RowKit
theorem keepL_step {a b k : Nat} {L : List (Nat × Nat)} (hk : k < L.length) : keepL a b (L.take (k + 1)) = keepL a b (L.take k) ++ if (L[k]'hk) ≠ (a, b) ∧ (L[k]'hk) ≠ (b, a) then [L[k]'hk] else [] := by
  unfold keepL
  rw [List.take_succ_eq_append_getElem hk, List.filter_append]
  congr 1
  by_cases g : (L[k]'hk) ≠ (a, b) ∧ (L[k]'hk) ≠ (b, a)
  · rw [if_pos g, List.filter_cons_of_pos (by simpa using g), List.filter_nil]
  · rw [if_neg g, List.filter_cons_of_neg (by simpa using g), List.filter_nil]
theorem twoCells_append (L M : List (Nat × Nat)) : twoCells (L ++ M) = twoCells L ++ twoCells M := by unfold twoCells; rw [List.flatMap_append]
theorem keepL_length (a b : Nat) (L : List (Nat × Nat)) : (keepL a b L).length ≤ L.length := List.length_filter_le _ _
section
variable {w0 w w' : World} {C C' : Nat → Nat} {Y : YB} {aw : Option Addr} {cap m m' : Nat} {zs : List Int} {V V' : PX}
def LkR (w wr : World) (a b : Nat) (L : List (Nat × Nat)) (v : Value) : Prop := wr.ownsRow w.heap.size 199 2 v (keepL a b L).length (twoCells (keepL a b L)) ∧ Below w.heap.size w wr
set_option maxHeartbeats 4000000 in
set_option maxRecDepth 100000 in
theorem rlink_ok (a b : Nat) (whole : Bool) (h : RW w0 w C Y aw cap zs V m) (ha : a < zs.length) (hb : b < zs.length) (hm : m ≤ 100000000) :
    Calls Tryz.prog 56 #[.pointer (some ⟨Y.xb, 0, none⟩), .int .i64 (a : Int), .int .i64 (b : Int), .bool whole] w fun e w' => e = .returned (.int .i64 0) ∧ ROut w0 w w' C Y aw cap zs (linkX V a b whole) (m + 1) := by
  obtain ⟨L, hL, hbi, hlm⟩ := h.brk
  obtain ⟨ad, c, hv, hc⟩ := own_two hL rfl
  obtain ⟨-, c1, c2, -, -⟩ := h.cells
  rw [hv] at c2
  have HC := hid hc
  have H := hid h
  have n7 := h.n7
  have HBI := hid hbi
  obtain ⟨n, hn⟩ : ∃ n, Hid (L.length = n) := ⟨_, rfl⟩
  obtain ⟨z, hz⟩ : ∃ z, Hid (zs.length = z) := ⟨_, rfl⟩
  rw [hn.out] at c2 hlm
  rw [hz.out] at c1 ha hb n7
  clear h hL hv hc hbi
  go_enter Tryz.func56, Tryz.ntmps56
  go_wp2_with fail
  simp only [show decide ((a : Int) < 0) = false from decide_eq_false (by omega), show decide ((b : Int) < 0) = false from decide_eq_false (by omega), show decide (z ≤ a) = false from decide_eq_false (by omega), show decide (z ≤ b) = false from decide_eq_false (by omega), Bool.or_false]
  go_loopw [9, 10] (fun v i wr => ∃ k : Nat, k ≤ n ∧ i = .int .i64 (k : Int) ∧ LkR w wr a b (L.take k) v) (fun _ i _ => n - (intOf i).toNat)
  case atStart => exact ⟨0, Nat.zero_le _, rfl, World.ownsRow_nil _ _ _ _, Below.refl _ _⟩
  case round =>
    obtain ⟨k, hk, rfl, hr⟩ := hrel
    rename_i u9 _ wr _
    obtain ⟨av, cv, hu⟩ : ∃ av cv, u9 = .slice av (keepL a b (L.take k)).length cv := by
      rcases hr.1.2 with ⟨e, h0⟩ | ⟨g, cp, cur, e, -⟩
      · exact ⟨none, 0, by rw [e, h0]⟩
      · exact ⟨_, _, e⟩
    subst hu
    have HR := hid hr
    have c2r := cell_later hr.2 c2
    have hwr := hr.2.size
    clear hr
    by_cases hlt : k < n
    · have hkL : k < L.length := by rw [hn.out]; exact hlt
      obtain ⟨g, rfl, d0', d1'⟩ := HC.out k hkL
      have d0 := cell_later HR.out.2 d0'
      have d1 := cell_later HR.out.2 d1'
      clear d0' d1'
      have HSt := hid (keepL_step (a := a) (b := b) hkL)
      obtain ⟨⟨x, y⟩, HE⟩ : ∃ e, Hid (L[k]'hkL = e) := ⟨_, rfl⟩
      rw [HE.out] at d0 d1 HSt
      simp only at d0 d1
      obtain ⟨p, HP⟩ : ∃ p, Hid ((!decide ((x : Int) = (a : Int) ∧ (y : Int) = (b : Int))) = p) := ⟨_, rfl⟩
      obtain ⟨q, HQ⟩ : ∃ q, Hid ((!decide ((x : Int) = (b : Int) ∧ (y : Int) = (a : Int))) = q) := ⟨_, rfl⟩
      have hp : ∀ w, (binOp .neq 199 (.agg #[.int .i64 (x : Int), .int .i64 (y : Int)]) (.agg #[.int .i64 (a : Int), .int .i64 (b : Int)])).run Tryz.prog w = .ok (.bool p) w := fun w => by rw [← HP.out]; exact two_ne _ _ _ _ w
      have hq : ∀ w, (binOp .neq 199 (.agg #[.int .i64 (x : Int), .int .i64 (y : Int)]) (.agg #[.int .i64 (b : Int), .int .i64 (a : Int)])).run Tryz.prog w = .ok (.bool q) w := fun w => by rw [← HQ.out]; exact two_ne _ _ _ _ w
      cases p with
      | false =>
        have h1 : x = a ∧ y = b := by have := HP.out; simp at this; omega
        have HN : Hid (LkR w wr a b (L.take (k + 1)) (.slice av (keepL a b (L.take k)).length cv)) := by
          show LkR _ _ _ _ _ _
          unfold LkR
          rw [HSt.out, if_neg (fun g => g.1 (by rw [h1.1, h1.2])), List.append_nil]; exact HR.out
        clear h1
        go_wp2_with fail
        go_roundw
        case rel => exact ⟨k + 1, by omega, by go_num, HN.out⟩
        case measure => simp [intOf]; omega
      | true =>
        cases q with
        | false =>
          have h1 : x = b ∧ y = a := by have := HQ.out; simp at this; omega
          have HN : Hid (LkR w wr a b (L.take (k + 1)) (.slice av (keepL a b (L.take k)).length cv)) := by
            show LkR _ _ _ _ _ _
            unfold LkR
            rw [HSt.out, if_neg (fun g => g.2 (by rw [h1.1, h1.2])), List.append_nil]; exact HR.out
          clear h1
          go_wp2_with fail
          go_roundw
          case rel => exact ⟨k + 1, by omega, by go_num, HN.out⟩
          case measure => simp [intOf]; omega
        | true =>
          have h1 : (x, y) ≠ (a, b) ∧ (x, y) ≠ (b, a) := by
            have e1 := HP.out; have e2 := HQ.out; simp at e1 e2
            rw [ne_eq, ne_eq, Prod.mk.injEq, Prod.mk.injEq]; omega
          rw [if_pos h1] at HSt
          obtain ⟨W2, HW2⟩ : ∃ W2, Hid (wr.alloc (.cells #[.int .i64 (x : Int), .int .i64 (y : Int)] 199) = W2) := ⟨_, rfl⟩
          have hW2 := HW2.out
          have HB2 : Hid (Below wr.heap.size wr W2) := by rw [← HW2.out]; exact (Below.refl _ _).alloc (Nat.le_refl _) _
          have HLc : Hid (∀ j u, (twoL (x, y))[j]? = some u → W2.cell? ((⟨wr.heap.size, 0, none⟩ : Addr).add j) = some u) := by rw [← HW2.out]; exact lit_cellsQ wr 199 (twoL (x, y))
          have HBw : Hid (Below w.heap.size w W2) := HR.out.2.trans (HB2.out.mono HR.out.2.size)
          have HO : Hid (W2.ownsRow w.heap.size 199 2 (.slice av (keepL a b (L.take k)).length cv) (keepL a b (L.take k)).length (twoCells (keepL a b (L.take k)))) := own_kept HR.out.1 (Kept.of_below (S := fun _ => False) HB2.out) (fun _ _ e => e)
          have hkl : (keepL a b (L.take k)).length ≤ 1000000000000 := by have := keepL_length a b (L.take k); rw [List.length_take] at this; omega
          have HX : Hid (∀ ad' cap' w', w'.ownsRow w.heap.size 199 2 (.slice ad' ((keepL a b (L.take k)).length + 1) cap') ((keepL a b (L.take k)).length + 1) (twoCells (keepL a b (L.take k)) ++ twoL (x, y)) → W2.grownBy w' (Value.slice av (keepL a b (L.take k)).length cv).ownBlock → LkR w w' a b (L.take (k + 1)) (.slice ad' ((keepL a b (L.take k)).length + 1) cap')) := by
            intro ad' cap' w' ho hg
            unfold LkR
            rw [HSt.out, List.length_append, twoCells_append]
            refine ⟨?_, Below.grown HBw.out hg HBw.out.size (fun j hj => (HO.out.lt j hj).1)⟩
            rw [show twoCells [(x, y)] = twoL (x, y) by unfold twoCells; simp]
            exact ho
          obtain ⟨kl, HK⟩ : ∃ kl, Hid ((keepL a b (L.take k)).length = kl) := ⟨_, rfl⟩
          rw [HK.out] at HX HO hkl
          rw [HK.out]
          have hbw := HBw.out.size
          clear h1 HR
          go_wp2_with (at_builtin; refine wpList_append_two rfl _ _ rfl w.heap.size kl (.slice av kl cv) ⟨wr.heap.size, 0, none⟩ 1 _ (x, y) rfl rfl HO.out HLc.out hkl hbw ?_; intro ad' cap' w' hown hg; have HN := hid (HX.out ad' cap' w' hown hg); clear hown hg)
          go_roundw
          case rel => exact ⟨k + 1, by omega, by go_num, HN.out⟩
          case measure => simp [intOf]; omega
    · obtain rfl : k = n := by omega
      have HLt : Hid (L.take k = L) := by rw [← hn.out]; exact List.take_length
      rw [HLt.out] at HR ⊢
      have HFin : Hid (∀ (v' : Value) (w' : World), w'.ownsRow w.heap.size 199 2 v' (linkL a b whole L).length (twoCells (linkL a b whole L)) → Below w.heap.size w w' → ROut w0 w (w'.setCell ⟨Y.xb, 2, none⟩ v') C Y aw cap zs (linkX V a b whole) (m + 1)) := by
        intro v' w' ho hb'
        refine H.out.linked hb' ho (brkI_link HBI.out) ?_
        have h1 := keepL_length a b L
        have h2 := hn.out
        unfold linkL
        rw [List.length_append]
        split
        · simp only [List.length_cons, List.length_nil]; omega
        · simp only [List.length_nil]; omega
      have hfz := frozen_of_row _ Y.xb 2 _ _ ((H.out.later HR.out.2).row)
      by_cases hcase : whole = false ∧ a ≠ b
      · have HLk := hid (show linkL a b whole L = keepL a b L ++ [(a, b)] by unfold linkL; rw [if_pos hcase])
        obtain ⟨rfl, hab⟩ := hcase
        have hab' : ¬ (a : Int) = (b : Int) := by omega
        obtain ⟨W2, HW2⟩ : ∃ W2, Hid (wr.alloc (.cells #[.int .i64 (a : Int), .int .i64 (b : Int)] 199) = W2) := ⟨_, rfl⟩
        have hW2 := HW2.out
        have HB2 : Hid (Below wr.heap.size wr W2) := by rw [← HW2.out]; exact (Below.refl _ _).alloc (Nat.le_refl _) _
        have HLc : Hid (∀ j u, (twoL (a, b))[j]? = some u → W2.cell? ((⟨wr.heap.size, 0, none⟩ : Addr).add j) = some u) := by rw [← HW2.out]; exact lit_cellsQ wr 199 (twoL (a, b))
        have HBw : Hid (Below w.heap.size w W2) := HR.out.2.trans (HB2.out.mono HR.out.2.size)
        have HO : Hid (W2.ownsRow w.heap.size 199 2 (.slice av (keepL a b L).length cv) (keepL a b L).length (twoCells (keepL a b L))) := own_kept HR.out.1 (Kept.of_below (S := fun _ => False) HB2.out) (fun _ _ e => e)
        have hkl : (keepL a b L).length ≤ 1000000000000 := by have := keepL_length a b L; have := hn.out; omega
        have HX : Hid (∀ ad' cap' w', w'.ownsRow w.heap.size 199 2 (.slice ad' ((keepL a b L).length + 1) cap') ((keepL a b L).length + 1) (twoCells (keepL a b L) ++ twoL (a, b)) → W2.grownBy w' (Value.slice av (keepL a b L).length cv).ownBlock → w'.cell? ⟨Y.xb, 2, none⟩ = some (.slice ad k c) ∧ w'.frozen? ⟨Y.xb, 2, none⟩ = false ∧ ROut w0 w (w'.setCell ⟨Y.xb, 2, none⟩ (.slice ad' ((keepL a b L).length + 1) cap')) C Y aw cap zs (linkX V a b false) (m + 1)) := by
          intro ad' cap' w' ho hg
          have hbb : Below w.heap.size w w' := Below.grown HBw.out hg HBw.out.size (fun j hj => (HO.out.lt j hj).1)
          refine ⟨cell_later hbb c2, frozen_of_row _ Y.xb 2 _ _ ((H.out.later hbb).row), HFin.out _ w' ?_ hbb⟩
          rw [HLk.out, List.length_append, twoCells_append, show twoCells [(a, b)] = twoL (a, b) by unfold twoCells; simp]
          exact ho
        obtain ⟨kl, HK⟩ : ∃ kl, Hid ((keepL a b L).length = kl) := ⟨_, rfl⟩
        rw [HK.out] at HX HO hkl
        rw [HK.out]
        have hbw := HBw.out.size
        clear HR HFin hab
        go_wp2_with (at_builtin; refine wpList_append_two rfl _ _ rfl w.heap.size kl (.slice av kl cv) ⟨wr.heap.size, 0, none⟩ 1 _ (a, b) rfl rfl HO.out HLc.out hkl hbw ?_; intro ad' cap' w' hown hg; obtain ⟨y2, z2, ho2⟩ := HX.out ad' cap' w' hown hg; have HN := hid ho2; clear hown hg ho2)
        go_ret
        exact ⟨rfl, HN.out⟩
      · have HLk := hid (show linkL a b whole L = keepL a b L by unfold linkL; rw [if_neg hcase, List.append_nil])
        rw [HLk.out] at HFin
        have HZ := hid (HFin.out _ _ HR.out.1 HR.out.2)
        clear HFin
        cases whole with
        | true =>
          go_wp2_with fail
          go_ret
          exact ⟨rfl, HZ.out⟩
        | false =>
          have hab : (a : Int) = (b : Int) := by
            have : a = b := Classical.byContradiction (fun e => hcase ⟨rfl, e⟩)
            omega
          go_wp2_with fail
          go_ret
          exact ⟨rfl, HZ.out⟩
end
section
variable {w0 w w' : World} {C C' : Nat → Nat} {Y : YB} {aw : Option Addr} {cap m m' : Nat} {zs : List Int} {V V' : PX}
set_option maxRecDepth 100000 in
theorem rlink_no (a b : Int) (whole : Bool) (h : RW w0 w C Y aw cap zs V m) (hs : ¬ ((0 ≤ a ∧ a < zs.length) ∧ 0 ≤ b ∧ b < zs.length)) :
    Calls Tryz.prog 56 #[.pointer (some ⟨Y.xb, 0, none⟩), .int .i64 a, .int .i64 b, .bool whole] w fun e w' => e = .returned (.int .i64 2) ∧ w' = w := by
  obtain ⟨-, c1, -, -, -⟩ := h.cells
  have n7 := h.n7
  obtain ⟨z, hz⟩ : ∃ z, Hid (zs.length = z) := ⟨_, rfl⟩
  rw [hz.out] at c1 n7 hs
  clear h
  by_cases h1 : a < 0
  · clear hs
    go_enter Tryz.func56, Tryz.ntmps56
    go_wp2_with fail
    go_ret
    exact ⟨rfl, rfl⟩
  · by_cases h2 : (z : Int) ≤ a
    · clear hs
      go_enter Tryz.func56, Tryz.ntmps56
      go_wp2_with fail
      go_ret
      exact ⟨rfl, rfl⟩
    · by_cases h3 : b < 0
      · clear hs
        go_enter Tryz.func56, Tryz.ntmps56
        go_wp2_with fail
        go_ret
        exact ⟨rfl, rfl⟩
      · have h4 : (z : Int) ≤ b := by omega
        clear hs
        go_enter Tryz.func56, Tryz.ntmps56
        go_wp2_with fail
        go_ret
        exact ⟨rfl, rfl⟩
end
section
variable {w0 v0 w w1 w' : World} {C D C' D' : Nat → Nat} {X : XB} {Y : YB} {aw : Option Addr} {i n cap m m' M : Nat} {zs : List Int} {V V' V1 V2 : PX} {A : Nat → Addr}
set_option maxRecDepth 100000 in
theorem rtick_any (s : Int) (c : Nat) (h : RW w0 w C Y aw cap zs V m) (hm : m < 900000) (hc : cUp zs.length V s = c) :
    Calls Tryz.prog 46 #[.pointer (some ⟨Y.xb, 0, none⟩), .int .i64 s] w fun e w' => e = .returned (.int .i64 (c : Int)) ∧ ROut w0 w w' C Y aw cap zs (if c = 0 then tickX zs s.toNat 6 0 V else V) (m + 42) := by
  by_cases c0 : c = 0
  · subst c0
    obtain ⟨k, rfl, hk, hu⟩ := rcUp_zero hc
    rw [if_pos rfl, Int.toNat_natCast]
    exact rtick_ok k h hk hu hm
  · rw [if_neg c0]
    have H := hid h
    have HU := hid (rup_is s c h hc)
    have c9 : ¬ ((c : Int) ≤ 0) := by omega
    have c8 : (0 : Int) < (c : Int) := by omega
    clear h hc
    go_enter Tryz.func46, Tryz.ntmps46
    go_wp2_with fail
    refine HU.out.mono ?_
    rintro e w1 ⟨rfl, hx⟩
    subst w1
    go_wp2_with fail
    go_ret
    exact ⟨rfl, H.out.out (Below.refl _ _) (by omega)⟩
structure Two (w0 w : World) (C : Nat → Nat) (X : XB) (D : Nat → Nat) (Y : YB) (aw : Option Addr) (cap : Nat) (zs : List Int) (V1 V2 : PX) (m m' : Nat) : Prop where
  wd : WD w0 w C X zs V1 m
  rw : RW w0 w D Y aw cap zs V2 m'
  ap : Apt C D
theorem Two.later (h : Two w0 w C X D Y aw cap zs V1 V2 m m') (hb : Below w.heap.size w w') : Two w0 w' C X D Y aw cap zs V1 V2 m m' := ⟨h.wd.later hb, h.rw.later hb, h.ap⟩
theorem Two.prog (h : Two w0 w C X D Y aw cap zs V1 V2 m m') (ho : WOut w0 w w' C X zs V M) : ∃ C' X', Two w0 w' C' X' D Y aw cap zs V V2 M m' ∧ key X' = key X ∧ Kept (OwnX C) w w' ∧ ∀ x, x < w.heap.size → C' x = C x := by
  obtain ⟨C', X', x1, x2, x3, x4⟩ := ho
  refine ⟨C', X', ⟨x1, h.rw.far x3 h.ap (fun x hx => h.wd.low x hx), fun x hx => ?_⟩, x2, x3, x4⟩
  rcases Nat.lt_or_ge (D x) 2000 with q | q
  · have h1 := h.rw.lt x q
    rw [x4 x h1] at hx
    have := h.ap x hx
    omega
  · exact q
theorem Two.doc (h : Two w0 w C X D Y aw cap zs V1 V2 m m') (ho : ROut w0 w w' D Y aw cap zs V M) : ∃ D' Y', Two w0 w' C X D' Y' aw cap zs V1 V m M ∧ rkey Y' = rkey Y ∧ Kept (OwnX D) w w' ∧ ∀ x, x < w.heap.size → D' x = D x := by
  obtain ⟨D', Y', x1, x2, x3, x4⟩ := ho
  refine ⟨D', Y', ⟨h.wd.far x3 h.ap.symm (fun x hx => h.rw.low x hx), x1, Apt.symm (fun x hx => ?_)⟩, x2, x3, x4⟩
  rcases Nat.lt_or_ge (C x) 2000 with q | q
  · have h1 := h.wd.lt x q
    rw [x4 x h1] at hx
    have := h.ap.symm x hx
    omega
  · exact q
def KC (b : Nat) (w w' : World) : Prop := ∀ j u, w.cell? ⟨b, j, none⟩ = some u → w'.cell? ⟨b, j, none⟩ = some u
def TwoOut (w0 w' : World) (X : XB) (Y : YB) (aw : Option Addr) (cap : Nat) (zs : List Int) (V : PX) (M : Nat) : Prop :=
  ∃ C' X' D' Y', Two w0 w' C' X' D' Y' aw cap zs V V M M ∧ key X' = key X ∧ rkey Y' = rkey Y
def Alike2 (w0 : World) (A : Nat → Addr) (aw : Option Addr) (cap : Nat) (zs : List Int) (V : PX) (m M : Nat) (f1 f2 : Nat) (as1 as2 : Value → Array Value) : Prop :=
  ∃ c V', c ≤ 9 ∧ (∀ w C X, WD w0 w C X zs V m → Calls Tryz.prog f1 (as1 (.pointer (some ⟨X.xb, 0, none⟩))) w fun e w' => e = .returned (ev A c) ∧ WOut w0 w w' C X zs V' M) ∧
    ∀ w D Y, RW w0 w D Y aw cap zs V m → Calls Tryz.prog f2 (as2 (.pointer (some ⟨Y.xb, 0, none⟩))) w fun e w' => e = .returned (.int .i64 (c : Int)) ∧ ROut w0 w w' D Y aw cap zs V' M
theorem Alike2.both {f1 f2 b : Nat} {as1 as2 : Value → Array Value} (h : Alike2 w0 A aw cap zs V m M f1 f2 as1 as2) (hE : Held9 w0 A) : ∃ c : Nat, ∀ w C X D Y, Two w0 w C X D Y aw cap zs V V m m → 2000 ≤ C b → 2000 ≤ D b → b < w.heap.size →
    (Calls Tryz.prog f1 (as1 (.pointer (some ⟨X.xb, 0, none⟩))) w fun e w1 => e = .returned (ev A c) ∧ KC b w w1 ∧ Calls Tryz.prog f2 (as2 (.pointer (some ⟨Y.xb, 0, none⟩))) w1 fun e w2 => e = .returned (.int .i64 (c : Int)) ∧ KC b w w2 ∧ Calls Tryz.prog 13 #[ev A c, .int .i64 (c : Int)] w2 fun e w3 => e = .returned (.bool true) ∧ KC b w w3 ∧ ∃ V', TwoOut w0 w3 X Y aw cap zs V' M) ∧
    (Calls Tryz.prog f2 (as2 (.pointer (some ⟨Y.xb, 0, none⟩))) w fun e w1 => e = .returned (.int .i64 (c : Int)) ∧ KC b w w1 ∧ Calls Tryz.prog f1 (as1 (.pointer (some ⟨X.xb, 0, none⟩))) w1 fun e w2 => e = .returned (ev A c) ∧ KC b w w2 ∧ Calls Tryz.prog 13 #[ev A c, .int .i64 (c : Int)] w2 fun e w3 => e = .returned (.bool true) ∧ KC b w w3 ∧ ∃ V', TwoOut w0 w3 X Y aw cap zs V' M) := by
  obtain ⟨c, V', hc, hp, hd⟩ := h
  refine ⟨c, fun w C X D Y hT hCb hDb hb => ⟨?_, ?_⟩⟩
  · refine (hp w C X hT.wd).mono ?_
    rintro e w1 ⟨rfl, ho⟩
    obtain ⟨C1, X1, hT1, k1, kk1, hc1⟩ := hT.prog ho
    have kc1 : KC b w w1 := fun j u hu => cell_kept hu kk1 (fun q => by have q' : C b < 2000 := q; omega)
    refine ⟨rfl, kc1, ?_⟩
    refine (hd w1 D Y hT1.rw).mono ?_
    rintro e w2 ⟨rfl, ho2⟩
    obtain ⟨D2, Y2, hT2, k2, kk2, hc2⟩ := hT1.doc ho2
    have kc2 : KC b w w2 := fun j u hu => cell_kept (kc1 j u hu) kk2 (fun q => by have q' : D b < 2000 := q; omega)
    refine ⟨rfl, kc2, ?_⟩
    refine (coded_ev A c w2 (hE.later hT2.wd.bel) hc).mono ?_
    rintro e w3 ⟨rfl, hb3⟩
    exact ⟨rfl, fun j u hu => cell_later hb3 (kc2 j u hu), V', C1, X1, D2, Y2, hT2.later hb3, k1, k2⟩
  · refine (hd w D Y hT.rw).mono ?_
    rintro e w1 ⟨rfl, ho⟩
    obtain ⟨D1, Y1, hT1, k1, kk1, hc1⟩ := hT.doc ho
    have kc1 : KC b w w1 := fun j u hu => cell_kept hu kk1 (fun q => by have q' : D b < 2000 := q; omega)
    refine ⟨rfl, kc1, ?_⟩
    refine (hp w1 C X hT1.wd).mono ?_
    rintro e w2 ⟨rfl, ho2⟩
    obtain ⟨C2, X2, hT2, k2, kk2, hc2⟩ := hT1.prog ho2
    have kc2 : KC b w w2 := fun j u hu => cell_kept (kc1 j u hu) kk2 (fun q => by have q' : C b < 2000 := q; omega)
    refine ⟨rfl, kc2, ?_⟩
    refine (coded_ev A c w2 (hE.later hT2.wd.bel) hc).mono ?_
    rintro e w3 ⟨rfl, hb3⟩
    exact ⟨rfl, fun j u hu => cell_later hb3 (kc2 j u hu), V', C2, X2, D1, Y1, hT2.later hb3, k2, k1⟩
theorem a_begin (s d : Int) (hE : Held9 w0 A) (hm : m < 800000) : Alike2 w0 A aw cap zs V m (m + 42) 34 42 (fun p => #[p, .int .i64 s, .int .i64 d]) (fun p => #[p, .int .i64 s, .int .i64 d]) := by
  refine ⟨cBeg zs.length V s d, if cBeg zs.length V s d = 0 then beginX zs V s.toNat d.toNat else V, ?_, fun w C X h => (begin_any s d _ h hE (by omega) rfl).mono ?_, fun w D Y h => (rbegin_any s d _ h (by omega) rfl).mono ?_⟩
  · unfold cBeg; repeat' split
    all_goals omega
  · rintro e w' ⟨rfl, ho⟩; exact ⟨rfl, ho.mono (by omega)⟩
  · rintro e w' ⟨rfl, ho⟩; exact ⟨rfl, ho.mono (by omega)⟩
theorem a_refuse (s d : Int) (hE : Held9 w0 A) (hm : m < 800000) : Alike2 w0 A aw cap zs V m (m + 42) 43 44 (fun p => #[p, .int .i64 s, .int .i64 d]) (fun p => #[p, .int .i64 s, .int .i64 d]) := by
  refine ⟨cRef zs.length V s d, if cRef zs.length V s d = 0 then refuseX V s.toNat d.toNat else V, ?_, fun w C X h => (refuse_any s d _ h hE (by omega) rfl).mono ?_, fun w D Y h => (rrefuse_any s d _ h rfl).mono ?_⟩
  · unfold cRef; repeat' split
    all_goals omega
  · rintro e w' ⟨rfl, ho⟩; exact ⟨rfl, ho.mono (by omega)⟩
  · rintro e w' ⟨rfl, ho⟩; exact ⟨rfl, ho.mono (by omega)⟩
theorem a_tick (s : Int) (hE : Held9 w0 A) (hm : m < 800000) : Alike2 w0 A aw cap zs V m (m + 42) 45 46 (fun p => #[p, .int .i64 s]) (fun p => #[p, .int .i64 s]) := by
  refine ⟨cUp zs.length V s, if cUp zs.length V s = 0 then tickX zs s.toNat 6 0 V else V, cUp_le, fun w C X h => (tick_any s _ h hE (by omega) rfl).mono ?_, fun w D Y h => (rtick_any s _ h (by omega) rfl).mono ?_⟩
  · rintro e w' ⟨rfl, ho⟩; exact ⟨rfl, ho⟩
  · rintro e w' ⟨rfl, ho⟩; exact ⟨rfl, ho⟩
theorem a_down (s : Int) (hE : Held9 w0 A) : Alike2 w0 A aw cap zs V m (m + 42) 47 48 (fun p => #[p, .int .i64 s]) (fun p => #[p, .int .i64 s]) := by
  refine ⟨cUp zs.length V s, if cUp zs.length V s = 0 then downX V s.toNat else V, cUp_le, fun w C X h => (down_any s _ h hE rfl).mono ?_, fun w D Y h => (rdown_any s _ h rfl).mono ?_⟩
  · rintro e w' ⟨rfl, ho⟩; exact ⟨rfl, ho.mono (by omega)⟩
  · rintro e w' ⟨rfl, ho⟩; exact ⟨rfl, ho.mono (by omega)⟩
theorem a_up (s : Int) (hE : Held9 w0 A) : Alike2 w0 A aw cap zs V m (m + 42) 49 50 (fun p => #[p, .int .i64 s]) (fun p => #[p, .int .i64 s]) := by
  refine ⟨cWake zs.length V s, if cWake zs.length V s = 0 then upX V s.toNat else V, ?_, fun w C X h => (wake_any s _ h hE rfl).mono ?_, fun w D Y h => (rwake_any s _ h rfl).mono ?_⟩
  · unfold cWake; repeat' split
    all_goals omega
  · rintro e w' ⟨rfl, ho⟩; exact ⟨rfl, ho.mono (by omega)⟩
  · rintro e w' ⟨rfl, ho⟩; exact ⟨rfl, ho.mono (by omega)⟩
theorem a_cut (s x : Int) (hE : Held9 w0 A) (hx : x ≤ 9223372036854775807) : Alike2 w0 A aw cap zs V m (m + 42) 57 58 (fun p => #[p, .int .i64 s, .int .i64 x]) (fun p => #[p, .int .i64 s, .int .i64 x]) := by
  refine ⟨cCut zs.length V s x, if 0 ≤ s ∧ s < zs.length then cutX V s.toNat x else V, ?_, fun w C X h => (cut_any s x _ h hE hx rfl).mono ?_, fun w D Y h => (rcut_any s x _ h hx rfl).mono ?_⟩
  · unfold cCut; split
    · exact cC_le _ _
    · omega
  · rintro e w' ⟨rfl, ho⟩; exact ⟨rfl, ho.mono (by omega)⟩
  · rintro e w' ⟨rfl, ho⟩; exact ⟨rfl, ho.mono (by omega)⟩
theorem a_drop (x : Int) (hE : Held9 w0 A) (hm : m < 800000) : Alike2 w0 A aw cap zs V m (m + 42) 51 52 (fun p => #[p, .int .i64 x]) (fun p => #[p, .int .i64 x]) := by
  by_cases hx : 0 ≤ x ∧ x < V.fly.length
  · obtain ⟨k, rfl⟩ := Int.eq_ofNat_of_zero_le hx.1
    refine ⟨0, takeX V k, by omega, fun w C X h => (drop_ok k h (by omega) (by omega)).mono ?_, fun w D Y h => (rdrop_ok k h (by omega) (by omega)).mono ?_⟩
    · rintro e w' ⟨rfl, ho⟩; exact ⟨rfl, ho.mono (by omega)⟩
    · rintro e w' ⟨rfl, ho⟩; exact ⟨rfl, ho.mono (by omega)⟩
  · refine ⟨4, V, by omega, fun w C X h => (drop_no x h hE hx).mono ?_, fun w D Y h => (rdrop_no x h hx (by omega)).mono ?_⟩
    · rintro e w' ⟨rfl, rfl⟩; exact ⟨rfl, h.out (Below.refl _ _) (by omega)⟩
    · rintro e w' ⟨rfl, hb⟩; exact ⟨rfl, h.out hb (by omega)⟩
theorem a_twice (x : Int) (hE : Held9 w0 A) (hm : m < 800000) : Alike2 w0 A aw cap zs V m (m + 42) 53 54 (fun p => #[p, .int .i64 x]) (fun p => #[p, .int .i64 x]) := by
  by_cases hx : 0 ≤ x ∧ x < V.fly.length
  · obtain ⟨k, rfl⟩ := Int.eq_ofNat_of_zero_le hx.1
    have hk : k < V.fly.length := by omega
    refine ⟨0, twiceX V k (V.fly[k]'hk), by omega, fun w C X h => (twice_ok k _ h hk rfl (by omega)).mono ?_, fun w D Y h => (rtwice_ok k _ h hk rfl (by omega)).mono ?_⟩
    · rintro e w' ⟨rfl, ho⟩; exact ⟨rfl, ho.mono (by omega)⟩
    · rintro e w' ⟨rfl, ho⟩; exact ⟨rfl, ho.mono (by omega)⟩
  · refine ⟨4, V, by omega, fun w C X h => (twice_no x h hE hx).mono ?_, fun w D Y h => (rtwice_no x h hx (by omega)).mono ?_⟩
    · rintro e w' ⟨rfl, rfl⟩; exact ⟨rfl, h.out (Below.refl _ _) (by omega)⟩
    · rintro e w' ⟨rfl, rfl⟩; exact ⟨rfl, h.out (Below.refl _ _) (by omega)⟩
theorem a_link (s d : Int) (b : Bool) (hE : Held9 w0 A) (hm : m < 800000) : Alike2 w0 A aw cap zs V m (m + 42) 55 56 (fun p => #[p, .int .i64 s, .int .i64 d, .bool b]) (fun p => #[p, .int .i64 s, .int .i64 d, .bool b]) := by
  by_cases hx : (0 ≤ s ∧ s < zs.length) ∧ 0 ≤ d ∧ d < zs.length
  · obtain ⟨k, rfl⟩ := Int.eq_ofNat_of_zero_le hx.1.1
    obtain ⟨j, rfl⟩ := Int.eq_ofNat_of_zero_le hx.2.1
    refine ⟨0, linkX V k j b, by omega, fun w C X h => (link_ok k j b h (by omega) (by omega) (by omega)).mono ?_, fun w D Y h => (rlink_ok k j b h (by omega) (by omega) (by omega)).mono ?_⟩
    · rintro e w' ⟨rfl, ho⟩; exact ⟨rfl, ho.mono (by omega)⟩
    · rintro e w' ⟨rfl, ho⟩; exact ⟨rfl, ho.mono (by omega)⟩
  · refine ⟨2, V, by omega, fun w C X h => (link_no s d b h hE hx).mono ?_, fun w D Y h => (rlink_no s d b h hx).mono ?_⟩
    · rintro e w' ⟨rfl, rfl⟩; exact ⟨rfl, h.out (Below.refl _ _) (by omega)⟩
    · rintro e w' ⟨rfl, rfl⟩; exact ⟨rfl, h.out (Below.refl _ _) (by omega)⟩
theorem a_deliver (x : Int) (hE : Held9 w0 A) (hm : m < 800000) : Alike2 w0 A aw cap zs V m (m + 42) 59 60 (fun p => #[p, .int .i64 x]) (fun p => #[p, .int .i64 x]) := by
  by_cases hx : 0 ≤ x ∧ x < V.fly.length
  · obtain ⟨k, rfl⟩ := Int.eq_ofNat_of_zero_le hx.1
    have hk : k < V.fly.length := by omega
    refine ⟨0, deliverX zs V k (V.fly[k]'hk), by omega, fun w C X h => (deliver_ok k _ h hE hk rfl (by omega)).mono ?_, fun w D Y h => (rdeliver_ok k _ h hk rfl (by omega)).mono ?_⟩
    · rintro e w' ⟨rfl, ho⟩; exact ⟨rfl, ho.mono (by omega)⟩
    · rintro e w' ⟨rfl, ho⟩; exact ⟨rfl, ho.mono (by omega)⟩
  · refine ⟨4, V, by omega, fun w C X h => (deliver_no x h hE hx).mono ?_, fun w D Y h => (rdeliver_no x h hx (by omega)).mono ?_⟩
    · rintro e w' ⟨rfl, rfl⟩; exact ⟨rfl, h.out (Below.refl _ _) (by omega)⟩
    · rintro e w' ⟨rfl, hb⟩; exact ⟨rfl, h.out hb (by omega)⟩
end
end Go.Proofs.YtbaamegnmeohoacGreatDoor
