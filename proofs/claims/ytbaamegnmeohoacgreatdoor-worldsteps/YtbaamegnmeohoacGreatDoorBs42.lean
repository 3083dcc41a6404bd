/-
  On the way to WStepsProof: SX X0 X6 X6B.
-/
import Derived.Test.YtbaamegnmeohoacGreatDoorBs14
import Derived.Test.YtbaamegnmeohoacGreatDoorBs41
import Derived.Test.YtbaamegnmeohoacGreatDoorBs3
import Derived.Test.YtbaamegnmeohoacGreatDoorBs4
import Derived.Test.YtbaamegnmeohoacGreatDoorBs37
namespace Go.Proofs.YtbaamegnmeohoacGreatDoor
open Go.RowKit
structure Step4 where
  k : ByteArray
  s : Int
  d : Int
  n : Int
def SIn (w : World) (a : Option Addr) (L : List Step4) : Prop :=
  ∀ i (h : i < L.length), (L[i]'h).n ≤ 9223372036854775807 ∧ ∃ b off, a = some ⟨b, off, none⟩ ∧ w.cell? ⟨b, off + i * 4, none⟩ = some (.string (L[i]'h).k) ∧ w.cell? ⟨b, off + i * 4 + 1, none⟩ = some (.int .i64 (L[i]'h).s) ∧ w.cell? ⟨b, off + i * 4 + 2, none⟩ = some (.int .i64 (L[i]'h).d) ∧ w.cell? ⟨b, off + i * 4 + 3, none⟩ = some (.int .i64 (L[i]'h).n)
theorem SIn.later {w w' : World} {a : Option Addr} {L : List Step4} (h : SIn w a L) (hb : Below w.heap.size w w') : SIn w' a L := fun i hi => by
  obtain ⟨hn, b, off, ha, h0, h1, h2, h3⟩ := h i hi
  exact ⟨hn, b, off, ha, cell_later hb h0, cell_later hb h1, cell_later hb h2, cell_later hb h3⟩
theorem errW_le9 (zs : List Int) : errW zs ≤ 9 := by
  unfold errW
  repeat' split
  all_goals omega
theorem rErrN (v : Value) (zs : List Int) (n : Nat) (w : World) (hv : IsSl w v zs) (hn : errW zs = n) :
    Calls Tryz.prog 12 #[v] w fun e w' => e = .returned (.int .i64 (n : Int)) ∧ w' = w := by
  subst hn; exact rErr_any v zs w hv
section
variable {w0 v0 w w1 w' : World} {C D : Nat → Nat} {X : XB} {Y : YB} {aw : Option Addr} {cap m : Nat} {zs : List Int} {V : PX} {A : Nat → Addr}
theorem RW.rebase (h : RW v0 w D Y aw cap zs V m) (hb : Below w0.heap.size w0 w) (hs : w0.heap.size ≤ v0.heap.size) (hsl : IsSl w0 (.slice aw zs.length cap) zs) : RW w0 w D Y aw cap zs V m := by
  obtain ⟨L, b1, b2, b3⟩ := h.brk
  exact ⟨hb, h.row, hsl, h.ns, h.nds, ⟨L, own_base b1 hs, b2, b3⟩, own_base h.fly hs, own_base h.evs hs, h.cx, h.cn, h.cb, h.cf, h.ce, h.lt, fun x hx => Nat.le_trans hs (h.low x hx), h.inv⟩
theorem two_new (h : WD w0 w C X zs V m) (k : RW w w' D Y aw cap zs V m) (hsl : IsSl w0 (.slice aw zs.length cap) zs) : Two w0 w' C X D Y aw cap zs V V m m := by
  have hb := k.bel
  refine ⟨h.later hb, k.rebase (h.bel.trans (hb.mono h.bel.size)) h.bel.size hsl, fun x hx => ?_⟩
  have h1 := h.lt x hx
  rcases Nat.lt_or_ge (D x) 2000 with q | q
  · have := k.low x q; omega
  · exact q
def NewOk : Prop := ∀ (w : World) (aw : Option Addr) (cap : Nat) (zs : List Int), IsSl w (.slice aw zs.length cap) zs → errW zs = 0 →
    Calls Tryz.prog 14 #[.slice aw zs.length cap] w fun e w' => ∃ C Y, e = .returned (.pointer (some ⟨Y.xb, 0, none⟩)) ∧ RW w w' C Y aw cap zs newX 0
end
set_option maxHeartbeats 8000000 in
set_option maxRecDepth 100000 in
theorem wsteps_any (hNew : NewOk) (A : Nat → Addr) (v : Value) (zs : List Int) (ad : Option Addr) (cap : Nat) (xs : List Step4) (w : World) (hE : Held9 w A) (hv : IsSl w v zs) (hx : SIn w ad xs) (hm : xs.length ≤ maxLen) :
    Calls Tryz.prog 3 #[v, .slice ad xs.length cap] w fun e w' => e = .returned (.bool true) ∧ Below w.heap.size w w' := by
  unfold maxLen at hm
  have HE := hid hE
  have HV := hid hv
  have HX := hid hx
  have HNw := hid hNew
  obtain ⟨av, capv, rfl, hzm, -, -⟩ := hv
  unfold maxLen at hzm
  obtain ⟨n, HN⟩ : ∃ n, Hid (zs.length = n) := ⟨_, rfl⟩
  obtain ⟨l, HL⟩ : ∃ l, Hid (xs.length = l) := ⟨_, rfl⟩
  rw [HL.out] at hm ⊢
  rw [HN.out] at hzm ⊢
  clear hE hx hNew
  by_cases h30 : 30 < n
  · have e1 : (30 : Int) < (n : Int) := by omega
    go_enter Tryz.func3, Tryz.ntmps3
    go_wp2_with fail
    refine (born_any A w HE.out).mono ?_
    rintro e w1 ⟨rfl, hb⟩
    have HB1 := hid hb
    clear hb
    go_wp2_with fail
    go_ret
    exact ⟨rfl, HB1.out⟩
  · have e1 : ¬ (30 : Int) < (n : Int) := by omega
    by_cases h150 : 150 < l
    · have e2 : (150 : Int) < (l : Int) := by omega
      go_enter Tryz.func3, Tryz.ntmps3
      go_wp2_with fail
      refine (born_any A w HE.out).mono ?_
      rintro e w1 ⟨rfl, hb⟩
      have HB1 := hid hb
      clear hb
      go_wp2_with fail
      go_ret
      exact ⟨rfl, HB1.out⟩
    · have e2 : ¬ (150 : Int) < (l : Int) := by omega
      go_enter Tryz.func3, Tryz.ntmps3
      go_wp2_with fail
      refine (born_any A w HE.out).mono ?_
      rintro e w1 ⟨rfl, hb⟩
      have HB1 := hid hb
      have HOwn := hid (ownInts_any _ zs w1 (HV.out.later hb) (by rw [HN.out]; omega))
      rw [HN.out] at HOwn
      clear hb
      go_wp2_with fail
      refine HOwn.out.mono ?_
      rintro e w2 ⟨v2, rfl, hv2, hb2⟩
      have HV2 := hid hv2
      have HB2 := hid (below_trans HB1.out hb2)
      clear hv2 hb2
      by_cases he : errW zs = 0
      · obtain ⟨n1, n7, -, -⟩ := errW_zero he
        rw [HN.out] at n1 n7
        have HEr := hid he
        have HNewW := hid (wnew_ok v2 HV2.out (HE.out.later HB2.out) he)
        clear he
        go_wp2_with fail
        refine HNewW.out.mono ?_
        rintro e w3 ⟨C, X, rfl, h3⟩
        have H3 := hid h3
        have HB3 := hid (below_trans HB2.out h3.bel)
        have HErr := hid (rErrN (.slice av zs.length capv) zs 0 w3 (HV.out.later HB3.out) HEr.out)
        rw [HN.out] at HErr
        clear h3
        go_wp2_with fail
        refine HErr.out.mono ?_
        rintro e w4 ⟨rfl, hx4⟩
        subst w4
        have HMod := hid (HNw.out w3 av capv zs (HV.out.later HB3.out) HEr.out)
        rw [HN.out] at HMod
        go_wp2_with fail
        refine HMod.out.mono ?_
        rintro e w4 ⟨D, Y, rfl, h4⟩
        have HT := hid (two_new H3.out h4 (HV.out.later HB2.out))
        clear h4
        go_wp2_with fail
        go_loopw [10] (fun v wr => ∃ (k : Nat) (V : PX) (C' : Nat → Nat) (X' : XB) (D' : Nat → Nat) (Y' : YB), k ≤ l ∧ v = .int .i64 (k : Int) ∧ Hid (Two w2 wr C' X' D' Y' av capv zs V V (42 * k) (42 * k) ∧ X'.xb = X.xb ∧ Y'.xb = Y.xb)) (fun v _ => l - (intOf v).toNat)
        case atStart => exact ⟨0, newX, C, X, D, Y, Nat.zero_le _, rfl, HT.out, rfl, rfl⟩
        case round =>
          obtain ⟨k, V, C1, X1, D1, Y1, hk, rfl, HI⟩ := hrel
          rename_i wr
          have HBr := hid (below_trans HB2.out HI.out.1.wd.bel)
          by_cases hlt : k < l
          · have hkl : k < xs.length := by rw [HL.out]; exact hlt
            obtain ⟨hn9, b, o, rfl, y0, y1, y2, y3⟩ := (HX.out.later HBr.out) k hkl
            obtain ⟨⟨xk, xS, xD, xN⟩, HS⟩ : ∃ e, Hid (xs[k]'hkl = e) := ⟨_, rfl⟩
            rw [HS.out] at y0 y1 y2 y3 hn9
            have HStep := hid (step_any xk xS xD xN HI.out.1 (HE.out.later HB2.out) (by omega) hn9)
            rw [HI.out.2.1, HI.out.2.2] at HStep
            have hkI : (k : Int) < (l : Int) := by omega
            have htm : (k : Int).tmod 10 = (k : Int) % 10 := rem_is (by omega)
            go_wp2_with fail
            refine HStep.out.mono ?_
            rintro e w5 ⟨rfl, V5, C5, X5, D5, Y5, t5, k5, k6⟩
            have HT5 : Hid (Two w2 w5 C5 X5 D5 Y5 av capv zs V5 V5 (42 * (k + 1)) (42 * (k + 1)) ∧ X5.xb = X.xb ∧ Y5.xb = Y.xb) := by
              refine ⟨?_, (key_xb k5).trans HI.out.2.1, (rkey_xb k6).trans HI.out.2.2⟩
              rw [show 42 * (k + 1) = 42 * k + 42 by omega]; exact t5
            clear t5 k5 k6 y0 y1 y2 y3
            by_cases h10 : (k : Int) % 10 = 0
            · have h11 : ((k : Int) % 10 == 0) = true := by simpa using h10
              have HAs := hid (asWorld_any HT5.out.1.wd HT5.out.1.rw (HE.out.later HB2.out) (by omega))
              rw [HT5.out.2.1, HT5.out.2.2] at HAs
              clear h10
              go_wp2_with fail
              refine HAs.out.mono ?_
              rintro e w6 ⟨rfl, hb6⟩
              have HT6 := hid (HT5.out.1.later hb6)
              clear hb6
              go_wp2_with fail
              go_roundw
              case rel => exact ⟨k + 1, V5, C5, X5, D5, Y5, by omega, by go_num, HT6.out, HT5.out.2.1, HT5.out.2.2⟩
              case measure => simp [intOf]; omega
            · have h11 : ((k : Int) % 10 == 0) = false := by simpa using h10
              clear h10
              go_wp2_with fail
              go_roundw
              case rel => exact ⟨k + 1, V5, C5, X5, D5, Y5, by omega, by go_num, HT5.out⟩
              case measure => simp [intOf]; omega
          · obtain rfl : k = l := by omega
            have HAs := hid (asWorld_any HI.out.1.wd HI.out.1.rw (HE.out.later HB2.out) (by omega))
            rw [HI.out.2.1, HI.out.2.2] at HAs
            go_wp2_with fail
            refine HAs.out.mono ?_
            rintro e w6 ⟨rfl, hb6⟩
            have HB6 := hid (below_trans HBr.out hb6)
            clear hb6
            go_wp2_with fail
            go_ret
            exact ⟨rfl, HB6.out⟩
      · obtain ⟨c, hc⟩ : ∃ c, errW zs = c + 1 := ⟨errW zs - 1, by omega⟩
        have hc9 : c + 1 ≤ 9 := by rw [← hc]; exact errW_le9 zs
        have HNewW := hid (wnew_err v2 c HV2.out (HE.out.later HB2.out) hc)
        have HErr := hid (rErrN (.slice av zs.length capv) zs (c + 1) w2 (HV.out.later HB2.out) hc)
        rw [HN.out] at HErr
        have HCo := hid (coded_ev A (c + 1) w2 (HE.out.later HB2.out) hc9)
        have hcp : (0 : Int) < ((c + 1 : Nat) : Int) := by omega
        obtain ⟨c1, HC1⟩ : ∃ c1 : Nat, Hid (c + 1 = c1) := ⟨_, rfl⟩
        have HCo2 : Hid (Calls Tryz.prog 13 #[.iface 342 (.pointer (some (A c))), .int .i64 ((c + 1 : Nat) : Int)] w2 fun e w' => e = .returned (.bool true) ∧ Below w2.heap.size w2 w') := HCo.out
        rw [HC1.out] at HErr HCo2 hcp
        clear he hc hc9
        go_wp2_with fail
        refine HNewW.out.mono ?_
        rintro e w3 ⟨rfl, hx3⟩
        subst w3
        go_wp2_with fail
        refine HErr.out.mono ?_
        rintro e w3 ⟨rfl, hx3⟩
        subst w3
        go_wp2_with fail
        refine HCo2.out.mono ?_
        rintro e w3 ⟨rfl, hb3⟩
        have HB3 := hid (below_trans HB2.out hb3)
        clear hb3
        go_wp2_with fail
        go_ret
        exact ⟨rfl, HB3.out⟩
structure Dis9 (nd t mm gn gs gb r ls dn : Nat) : Prop where
  d01 : t ≠ nd
  d02 : mm ≠ nd
  d12 : mm ≠ t
  d03 : gn ≠ nd
  d13 : gn ≠ t
  d23 : gn ≠ mm
  d04 : gs ≠ nd
  d14 : gs ≠ t
  d24 : gs ≠ mm
  d34 : gs ≠ gn
  d05 : gb ≠ nd
  d15 : gb ≠ t
  d25 : gb ≠ mm
  d35 : gb ≠ gn
  d45 : gb ≠ gs
  d06 : r ≠ nd
  d16 : r ≠ t
  d26 : r ≠ mm
  d36 : r ≠ gn
  d46 : r ≠ gs
  d56 : r ≠ gb
  d07 : ls ≠ nd
  d17 : ls ≠ t
  d27 : ls ≠ mm
  d37 : ls ≠ gn
  d47 : ls ≠ gs
  d57 : ls ≠ gb
  d67 : ls ≠ r
  d08 : dn ≠ nd
  d18 : dn ≠ t
  d28 : dn ≠ mm
  d38 : dn ≠ gn
  d48 : dn ≠ gs
  d58 : dn ≠ gb
  d68 : dn ≠ r
  d78 : dn ≠ ls
def col9 (C : Nat → Nat) (k nd t mm gn gs gb r ls dn : Nat) : Nat → Nat := fun x => if x = nd then 100 * k + 1 else if x = t then 100 * k + 2 else if x = mm then 100 * k + 3 else if x = gn then 100 * k + 4 else if x = gs then 100 * k + 5 else if x = gb then 100 * k + 6 else if x = r then 100 * k + 7 else if x = ls then 100 * k + 8 else if x = dn then 100 * k + 9 else C x
section
variable {C : Nat → Nat} {k nd t mm gn gs gb r ls dn : Nat}
theorem col9_0 (_h : Dis9 nd t mm gn gs gb r ls dn) : col9 C k nd t mm gn gs gb r ls dn nd = 100 * k + 1 := by
  unfold col9
  rw [if_pos rfl]
theorem col9_1 (h : Dis9 nd t mm gn gs gb r ls dn) : col9 C k nd t mm gn gs gb r ls dn t = 100 * k + 2 := by
  unfold col9
  rw [if_neg h.d01, if_pos rfl]
theorem col9_2 (h : Dis9 nd t mm gn gs gb r ls dn) : col9 C k nd t mm gn gs gb r ls dn mm = 100 * k + 3 := by
  unfold col9
  rw [if_neg h.d02, if_neg h.d12, if_pos rfl]
theorem col9_3 (h : Dis9 nd t mm gn gs gb r ls dn) : col9 C k nd t mm gn gs gb r ls dn gn = 100 * k + 4 := by
  unfold col9
  rw [if_neg h.d03, if_neg h.d13, if_neg h.d23, if_pos rfl]
theorem col9_4 (h : Dis9 nd t mm gn gs gb r ls dn) : col9 C k nd t mm gn gs gb r ls dn gs = 100 * k + 5 := by
  unfold col9
  rw [if_neg h.d04, if_neg h.d14, if_neg h.d24, if_neg h.d34, if_pos rfl]
theorem col9_5 (h : Dis9 nd t mm gn gs gb r ls dn) : col9 C k nd t mm gn gs gb r ls dn gb = 100 * k + 6 := by
  unfold col9
  rw [if_neg h.d05, if_neg h.d15, if_neg h.d25, if_neg h.d35, if_neg h.d45, if_pos rfl]
theorem col9_6 (h : Dis9 nd t mm gn gs gb r ls dn) : col9 C k nd t mm gn gs gb r ls dn r = 100 * k + 7 := by
  unfold col9
  rw [if_neg h.d06, if_neg h.d16, if_neg h.d26, if_neg h.d36, if_neg h.d46, if_neg h.d56, if_pos rfl]
theorem col9_7 (h : Dis9 nd t mm gn gs gb r ls dn) : col9 C k nd t mm gn gs gb r ls dn ls = 100 * k + 8 := by
  unfold col9
  rw [if_neg h.d07, if_neg h.d17, if_neg h.d27, if_neg h.d37, if_neg h.d47, if_neg h.d57, if_neg h.d67, if_pos rfl]
theorem col9_8 (h : Dis9 nd t mm gn gs gb r ls dn) : col9 C k nd t mm gn gs gb r ls dn dn = 100 * k + 9 := by
  unfold col9
  rw [if_neg h.d08, if_neg h.d18, if_neg h.d28, if_neg h.d38, if_neg h.d48, if_neg h.d58, if_neg h.d68, if_neg h.d78, if_pos rfl]
theorem col9_old {x b : Nat} (h : b ≤ nd ∧ b ≤ t ∧ b ≤ mm ∧ b ≤ gn ∧ b ≤ gs ∧ b ≤ gb ∧ b ≤ r ∧ b ≤ ls ∧ b ≤ dn) (hx : x < b) : col9 C k nd t mm gn gs gb r ls dn x = C x := by
  unfold col9
  rw [if_neg (by omega), if_neg (by omega), if_neg (by omega), if_neg (by omega), if_neg (by omega), if_neg (by omega), if_neg (by omega), if_neg (by omega), if_neg (by omega)]
theorem col9_in {x : Nat} (h : col9 C k nd t mm gn gs gb r ls dn x < 2000) : C x < 2000 ∨ x = nd ∨ x = t ∨ x = mm ∨ x = gn ∨ x = gs ∨ x = gb ∨ x = r ∨ x = ls ∨ x = dn := by
  unfold col9 at h
  by_cases e0 : x = nd
  · omega
  · rw [if_neg e0] at h
    by_cases e1 : x = t
    · omega
    · rw [if_neg e1] at h
      by_cases e2 : x = mm
      · omega
      · rw [if_neg e2] at h
        by_cases e3 : x = gn
        · omega
        · rw [if_neg e3] at h
          by_cases e4 : x = gs
          · omega
          · rw [if_neg e4] at h
            by_cases e5 : x = gb
            · omega
            · rw [if_neg e5] at h
              by_cases e6 : x = r
              · omega
              · rw [if_neg e6] at h
                by_cases e7 : x = ls
                · omega
                · rw [if_neg e7] at h
                  by_cases e8 : x = dn
                  · omega
                  · rw [if_neg e8] at h
                    exact .inl h
end
def rptrs (K : Nat → RB) (k : Nat) : List Value := (List.range k).map fun i => .pointer (some ⟨(K i).nd, 0, none⟩)
theorem rptrs_succ (K : Nat → RB) (k : Nat) : rptrs K (k + 1) = rptrs K k ++ [.pointer (some ⟨(K k).nd, 0, none⟩)] := by simp [rptrs, List.range_succ]
theorem rptrs_same {K L : Nat → RB} {k : Nat} (h : ∀ i, i < k → (K i).nd = (L i).nd) : rptrs K k = rptrs L k := by
  unfold rptrs
  refine List.map_congr_left fun i hi => ?_
  rw [h i (List.mem_range.1 hi)]
theorem Tryz.infoPRN : (Tryz.prog.info? 99).map (fun i => (i.zero, i.size, i.bytes)) = some (some (.pointer none), 1, 8) := by kernel_rfl
structure RWN (w0 w : World) (C : Nat → Nat) (xb : Nat) (nv : Value) (K : Nat → RB) (aw : Option Addr) (cap : Nat) (zs : List Int) (k : Nat) : Prop where
  bel : Below w0.heap.size w0 w
  row : w.heap[xb]? = some (.cells #[.slice aw zs.length cap, nv, .slice none 0 0, .slice none 0 0, .slice none 0 0] 72 (0, 0))
  ns : w.ownsRow w0.heap.size 99 1 nv k (rptrs K k)
  nds : ∀ i, i < k → RN w C (K i) i zs.length cap aw (newN 512)
  cx : C xb = 1001
  cn : ∀ g, nv.ownBlock = some g → C g = 1003
  lt : ∀ x, C x < 2000 → x < w.heap.size
  low : ∀ x, C x < 2000 → w0.heap.size ≤ x
structure RNew (w : World) (k nd t mm gn gs gb r ls dn : Nat) : Prop where
  row : w.heap[nd]? = some (.cells #[.pointer (some ⟨t, 0, none⟩), .pointer (some ⟨r, 0, none⟩), .slice (some ⟨ls, 0, none⟩) 6 6, .slice (some ⟨dn, 0, none⟩) 6 6] 105 (0, 0))
  rp : RP w r (zeroB 512) false 0 false
  rj : RJ w mm gn gs r (dealL (zeroB 512).data.toList) false
  rs : RSt w t mm gb (k : Int) (fun _ => false)
  lr : w.heap[ls]? = some (.cells #[.pointer none, .pointer none, .pointer none, .pointer none, .pointer none, .pointer none] 169 (0, 0))
  dr : VR w dn (fun _ => false)
def newRK (nd t mm gn gs gb r ls dn : Nat) : RB := ⟨nd, t, mm, gn, gs, gb, r, ls, dn, fun _ => 0, fun _ => .slice none 0 0⟩
def addRK (K : Nat → RB) (k : Nat) (x : RB) : Nat → RB := fun e => if e = k then x else K e
section
variable {w0 w W4 w5 : World} {C C' : Nat → Nat} {xb k cap : Nat} {aw : Option Addr} {nv nv' : Value} {K : Nat → RB} {zs : List Int} {nd t mm gn gs gb r ls dn : Nat}
theorem newN_fin (d : Nat) (hd : d < 6) : finB (stN (newN 512) d).ph = false := by
  show finB (dealL (zeroB 512).data.toList d).2.ph = false
  rw [deal_zero 512 d (by omega)]
  rfl
theorem RNew.rn (h : RNew w k nd t mm gn gs gb r ls dn) (c : Dis9 nd t mm gn gs gb r ls dn) (n : Nat) : RN w (col9 C k nd t mm gn gs gb r ls dn) (newRK nd t mm gn gs gb r ls dn) k n cap aw (newN 512) := by
  have hz : (zeroB 512).size = 512 := zeroB_size 512
  have h7 : ∀ x, x = r → True := fun _ _ => trivial
  refine ⟨h.row, ⟨false, 0, false, h.rp, .inr (.inl ⟨rfl, rfl, rfl⟩)⟩, fun _ => ⟨⟨h.rj, ⟨false, 0, false, h.rp, .inr (.inl ⟨rfl, rfl, rfl⟩)⟩, c.d26, c.d36, c.d46, by show (zeroB 512).size ≤ 1000; omega, by show 216 ≤ (zeroB 512).size; omega⟩, h.rs⟩, h.lr, ?_, fun d hd x hx => (by cases hx), col9_0 c, col9_6 c, col9_7 c, col9_8 c, fun _ => ⟨col9_1 c, col9_2 c, col9_3 c, col9_4 c, col9_5 c⟩, fun d hd x hx => (by cases hx)⟩
  have := h.dr
  unfold VR at this ⊢
  show w.heap[dn]? = _
  rw [this]
  simp only [newN_fin 0 (by omega), newN_fin 1 (by omega), newN_fin 2 (by omega), newN_fin 3 (by omega), newN_fin 4 (by omega), newN_fin 5 (by omega)]
theorem RWN.add (h : RWN w0 w C xb nv K aw cap zs k) (hk : k < 7) (hb : Below w.heap.size w W4) (hn : RNew W4 k nd t mm gn gs gb r ls dn) (c : Dis9 nd t mm gn gs gb r ls dn) (hlo : w.heap.size ≤ nd ∧ w.heap.size ≤ t ∧ w.heap.size ≤ mm ∧ w.heap.size ≤ gn ∧ w.heap.size ≤ gs ∧ w.heap.size ≤ gb ∧ w.heap.size ≤ r ∧ w.heap.size ≤ ls ∧ w.heap.size ≤ dn) (hhi : nd < W4.heap.size ∧ t < W4.heap.size ∧ mm < W4.heap.size ∧ gn < W4.heap.size ∧ gs < W4.heap.size ∧ gb < W4.heap.size ∧ r < W4.heap.size ∧ ls < W4.heap.size ∧ dn < W4.heap.size)
    (hown : w5.ownsRow w0.heap.size 99 1 nv' (k + 1) (rptrs K k ++ [.pointer (some ⟨nd, 0, none⟩)])) (hg : W4.grownBy w5 nv.ownBlock) (ho : nv'.ownBlock = nv.ownBlock ∨ nv'.ownBlock = some W4.heap.size) :
    ∃ C' K', RWN w0 (w5.setCell ⟨xb, 1, none⟩ nv') C' xb nv' K' aw cap zs (k + 1) := by
  have hw0 := h.bel.size
  have hbs := hb.size
  have hold : ∀ x, x < w.heap.size → col9 C k nd t mm gn gs gb r ls dn x = C x := fun x hx => col9_old hlo hx
  have hcase : ∀ x, col9 C k nd t mm gn gs gb r ls dn x < 2000 → (x < w.heap.size ∧ C x < 2000) ∨ (w.heap.size ≤ x ∧ x < W4.heap.size) := fun x hx => by
    rcases col9_in hx with q | q | q | q | q | q | q | q | q | q
    · exact .inl ⟨h.lt x q, q⟩
    all_goals (right; omega)
  have hlt1 : ∀ x, col9 C k nd t mm gn gs gb r ls dn x < 2000 → x < W4.heap.size := fun x hx => by rcases hcase x hx with q | q <;> omega
  have hlow1 : ∀ x, col9 C k nd t mm gn gs gb r ls dn x < 2000 → w0.heap.size ≤ x := fun x hx => by
    rcases hcase x hx with q | q
    · exact h.low x q.2
    · omega
  have hkk := grown_kept hg
  have cx0 := h.cx
  have cx1 : col9 C k nd t mm gn gs gb r ls dn xb = 1001 := (hold xb (h.lt xb (by omega))).trans cx0
  have cn1 : ∀ g, nv.ownBlock = some g → col9 C k nd t mm gn gs gb r ls dn g = 1003 := fun g hgg => by
    have := h.cn g hgg
    exact (hold g (h.lt g (by omega))).trans this
  obtain ⟨C2, hC2, hlt2, hlow2, hcn2⟩ : ∃ C2 : Nat → Nat, (∀ x, x < W4.heap.size → C2 x = col9 C k nd t mm gn gs gb r ls dn x) ∧ (∀ x, C2 x < 2000 → x < w5.heap.size) ∧ (∀ x, C2 x < 2000 → w0.heap.size ≤ x) ∧ ∀ g, nv'.ownBlock = some g → C2 g = 1003 := by
    rcases ho with o | o
    · exact ⟨col9 C k nd t mm gn gs gb r ls dn, fun _ _ => rfl, fun x hx => Nat.lt_of_lt_of_le (hlt1 x hx) hg.size, hlow1, fun g hgg => cn1 g (by rw [← o]; exact hgg)⟩
    · have hsz : W4.heap.size < w5.heap.size := own_lt hown o
      refine ⟨paint (col9 C k nd t mm gn gs gb r ls dn) W4.heap.size 1003, fun x hx => paint_ne (by omega), fun x hx => ?_, fun x hx => ?_, fun g hgg => ?_⟩
      · by_cases e : x = W4.heap.size
        · rw [e]; exact hsz
        · rw [paint_ne e] at hx; exact Nat.lt_of_lt_of_le (hlt1 x hx) hg.size
      · by_cases e : x = W4.heap.size
        · rw [e]; omega
        · rw [paint_ne e] at hx; exact hlow1 x hx
      · rw [o] at hgg
        obtain rfl := Option.some.inj hgg
        exact paint_at _ _ _
  have hK : Kept (fun x => nv.ownBlock = some x ∨ x = xb) W4 (w5.setCell ⟨xb, 1, none⟩ nv') := (hkk.mono (fun x hx => .inl hx)).setCell (.inr rfl) _
  have hS : ∀ x, (nv.ownBlock = some x ∨ x = xb) → col9 C k nd t mm gn gs gb r ls dn x = 1003 ∨ col9 C k nd t mm gn gs gb r ls dn x = 1001 := fun x hx => by
    rcases hx with hx | rfl
    · exact .inl (cn1 x hx)
    · exact .inr cx1
  have hlow : ∀ x, (nv.ownBlock = some x ∨ x = xb) → w0.heap.size ≤ x := fun x hx => hlow1 x (by rcases hS x hx with g | g <;> omega)
  have hRN : ∀ (x : RB) (e : Nat), e ≤ 9 → RN W4 (col9 C k nd t mm gn gs gb r ls dn) x e zs.length cap aw (newN 512) → RN (w5.setCell ⟨xb, 1, none⟩ nv') C2 x e zs.length cap aw (newN 512) := fun x e he hx => by
    have := hx.col (C' := C2) hC2
    refine this.kept (S := fun y => (nv.ownBlock = some y ∨ y = xb) ∧ y < W4.heap.size) ⟨hK.os, hK.tape, hK.output, hK.size, fun y hy hn => hK.block y hy (fun q => hn ⟨q, hy⟩)⟩ (fun y hy hq => ?_)
    rcases hS y hq.1 with g | g <;> (rw [hC2 y hq.2] at hy; omega)
  refine ⟨C2, addRK K k (newRK nd t mm gn gs gb r ls dn), ⟨hK.below (Nat.le_trans hw0 hbs) hlow (h.bel.trans (hb.mono hw0)), ?_, ?_, fun e he => ?_, ?_, hcn2, fun x hx => ?_, hlow2⟩⟩
  · have hr4 : W4.heap[xb]? = _ := (hb.block _ (row_ltJ h.row)).trans h.row
    have hr5 := hkk.row hr4 (fun e => by have := cn1 _ e; omega)
    rw [heap_setCell_same w5 xb 1 _ _ _ hr5]; rfl
  · have e1 : rptrs (addRK K k (newRK nd t mm gn gs gb r ls dn)) (k + 1) = rptrs K k ++ [.pointer (some ⟨nd, 0, none⟩)] := by
      rw [rptrs_succ, rptrs_same (L := K) (fun i hi => by unfold addRK; rw [if_neg (by omega)])]
      unfold addRK newRK
      rw [if_pos rfl]
    rw [e1]
    refine own_kept hown ((Kept.refl (In1 xb) w5).set1 1 nv') (fun y hy e => ?_)
    have h3 := hcn2 y hy
    rw [show y = xb from e, hC2 _ (hlt1 xb (by omega))] at h3
    omega
  · by_cases g : e = k
    · subst g
      have := hRN _ e (by omega) (hn.rn (C := C) (aw := aw) (cap := cap) c zs.length)
      unfold addRK
      rw [if_pos rfl]
      exact this
    · have := hRN _ e (by omega) (((h.nds e (by omega)).col (C' := col9 C k nd t mm gn gs gb r ls dn) hold).later hb)
      unfold addRK
      rw [if_neg g]
      exact this
  · exact (hC2 _ (hlt1 xb (by omega))).trans cx1
  · have := hlt2 x hx
    simpa using this
theorem RWN.done (h : RWN w0 w C xb nv K aw cap zs zs.length) (he : errW zs = 0) (hs : IsSl w0 (.slice aw zs.length cap) zs) : ∃ Y, Y.xb = xb ∧ RW w0 w C Y aw cap zs newX 0 := by
  have n1 := (errW_zero he).1
  rcases h.ns.2 with ⟨-, h0⟩ | ⟨g, cp, cur, e, h2, h3, h4, h5, h6, h7⟩
  · omega
  · subst e
    refine ⟨⟨xb, g, cp, .slice none 0 0, .slice none 0 0, .slice none 0 0, K⟩, rfl, ⟨h.bel, h.row, hs, fun i hi => ?_, h.nds, ⟨[], World.ownsRow_nil _ _ _ _, ⟨fun a b _ _ _ => ?_, fun x hx => (by cases hx)⟩, Nat.zero_le _⟩, World.ownsRow_nil _ _ _ _, World.ownsRow_nil _ _ _ _, h.cx, h.cn g rfl, fun y hy => (by cases hy), fun y hy => (by cases hy), fun y hy => (by cases hy), h.lt, h.low, ⟨he, fun i _ => newN_ni _, fun f hf => (by cases hf), Nat.zero_le _, Nat.zero_le _⟩⟩⟩
    · have := h.ns.cellAt i (by omega)
      rw [this]
      unfold rptrs
      rw [List.getElem?_map, List.getElem?_range hi]
      rfl
    · constructor
      · intro q
        have : brX newX a b = false := rfl
        rw [this] at q; cases q
      · rintro (q | q) <;> cases q
end
theorem conv_z {w : World} {q n : Nat} (h : w.heap[q]? = some (.cells (cellsB (zeroB n)) 5 (0, 0))) : (convert 96 9 (.slice (some ⟨q, 0, none⟩) n n)).run Tryz.prog w = .ok (.string (zeroB n)) w := by
  have := run_convert_bytes_back (P := Tryz.prog) w 96 9 5 ⟨q, 0, none⟩ n (zeroB n).data.toList Tryz.underlying96 Tryz.underlying5 Tryz.underlying9 (fun j hj => by
    rw [Addr.add_lit, cell_of_row _ q (0 + j) _ _ _ h, Nat.zero_add, cellsB_at hj, getB hj])
  rw [← size_list, zeroB_size] at this
  rw [this]
theorem row_alloc {X : World} {b : Nat} {o o' : Obj} (h : X.heap[b]? = some o) : (X.alloc o').heap[b]? = some o := (Below.heap_alloc _ _ _ (row_ltJ h)).trans h
theorem row_below {X Y : World} {b : Nat} {o : Obj} (hb : Below X.heap.size X Y) (h : X.heap[b]? = some o) : Y.heap[b]? = some o := (hb.block b (row_ltJ h)).trans h
theorem RJ.at {w w' : World} {m gn gs r : Nat} {E : Nat → Nat × St} {d : Bool} (h : RJ w m gn gs r E d) (hb : Below w.heap.size w w') : RJ w' m gn gs r E d := h.kept (S := fun _ => False) (Kept.of_below hb) (fun x => x) (fun x => x) (fun x => x)
set_option maxHeartbeats 4000000 in
theorem RWN.fin {w wr W W3 : World} {C : Nat → Nat} {aw : Option Addr} {cap k : Nat} {nv : Value} {K : Nat → RB} {zs : List Int} (HN : Hid (RWN w wr C w.heap.size nv K aw cap zs k)) (hk : k < 7) (HB : Hid (Below wr.heap.size wr W)) (HRP : Hid (RP W W3.heap.size (zeroB 512) false 0 false)) (HS3 : Hid (W3.heap.size = wr.heap.size + 1 ∧ W.heap.size = wr.heap.size + 2)) :
    ∀ (X4 w1 w5 : World) (t mm gn gs gb ls dn nd g5 c5 : Nat), Below W.heap.size W w1 → Below w1.heap.size w1 X4 → RJ w1 mm gn gs W3.heap.size (dealL (zeroB 512).data.toList) false → RSt w1 t mm gb (k : Int) (fun _ => false) → (W.heap.size ≤ t ∧ W.heap.size ≤ mm ∧ W.heap.size ≤ gn ∧ W.heap.size ≤ gs ∧ W.heap.size ≤ gb) → (t ≠ mm ∧ t ≠ gn ∧ t ≠ gs ∧ t ≠ gb) → (gb ≠ mm ∧ gb ≠ gn ∧ gb ≠ gs) → (ls ≠ t ∧ ls ≠ mm ∧ ls ≠ gn ∧ ls ≠ gs ∧ ls ≠ gb) → (dn ≠ t ∧ dn ≠ mm ∧ dn ≠ gn ∧ dn ≠ gs ∧ dn ≠ gb) → (W.heap.size ≤ ls ∧ W.heap.size ≤ dn ∧ ls ≠ dn ∧ ls < nd ∧ dn < nd ∧ w1.heap.size ≤ nd) →
    X4.heap[nd]? = some (.cells #[.pointer (some ⟨t, 0, none⟩), .pointer (some ⟨W3.heap.size, 0, none⟩), .slice (some ⟨ls, 0, none⟩) 6 6, .slice (some ⟨dn, 0, none⟩) 6 6] 105 (0, 0)) → X4.heap[ls]? = some (.cells #[.pointer none, .pointer none, .pointer none, .pointer none, .pointer none, .pointer none] 169 (0, 0)) → X4.heap[dn]? = some (.cells #[.bool false, .bool false, .bool false, .bool false, .bool false, .bool false] 4 (0, 0)) →
    w5.ownsRow w.heap.size 99 1 (.slice (some ⟨g5, 0, none⟩) (k + 1) c5) (k + 1) (rptrs K k ++ [.pointer (some ⟨nd, 0, none⟩)]) → X4.grownBy w5 nv.ownBlock → (nv.ownBlock = some g5 ∨ g5 = X4.heap.size) →
    ∃ C' K', RWN w (w5.setCell ⟨w.heap.size, 1, none⟩ (.slice (some ⟨g5, 0, none⟩) (k + 1) c5)) C' w.heap.size (.slice (some ⟨g5, 0, none⟩) (k + 1) c5) K' aw cap zs (k + 1) := by
  intro X4 w1 w5 t mm gn gs gb ls dn nd g5 c5 hbW hb4 hrj hrs lo ht hg hl hd hx r1 r2 r3 hown hgr hat
  obtain ⟨s1, s2⟩ := HS3.out
  obtain ⟨j1, j2, j3⟩ := hrj.lts
  have j4 := row_ltJ hrs.row
  have j5 := row_ltJ hrs.refs
  have z1 := hbW.size
  have z2 := hb4.size
  have y1 := row_ltJ r1; have y2 := row_ltJ r2; have y3 := row_ltJ r3
  have m1 := hrj.mn; have m2 := hrj.ms; have m3 := hrj.ns
  have hRN : RNew X4 k nd t mm gn gs gb W3.heap.size ls dn := ⟨r1, HRP.out.kept (S := fun _ => False) (Kept.of_below (hbW.trans (hb4.mono hbW.size))) (fun x => x), hrj.at hb4, hrs.later hb4, r2, r3⟩
  have hD : Dis9 nd t mm gn gs gb W3.heap.size ls dn := ⟨by omega, by omega, by omega, by omega, by omega, by omega, by omega, by omega, by omega, by omega, by omega, by omega, by omega, by omega, by omega, by omega, by omega, by omega, by omega, by omega, by omega, by omega, by omega, by omega, by omega, by omega, by omega, by omega, by omega, by omega, by omega, by omega, by omega, by omega, by omega, by omega⟩
  exact HN.out.add hk ((HB.out.trans ((hbW.trans (hb4.mono hbW.size)).mono HB.out.size))) hRN hD ⟨by omega, by omega, by omega, by omega, by omega, by omega, by omega, by omega, by omega⟩ ⟨by omega, by omega, by omega, by omega, by omega, by omega, by omega, by omega, by omega⟩ hown hgr (by
    rcases hat with q | q
    · exact .inl q.symm
    · exact .inr (by rw [q]; rfl))
end Go.Proofs.YtbaamegnmeohoacGreatDoor
