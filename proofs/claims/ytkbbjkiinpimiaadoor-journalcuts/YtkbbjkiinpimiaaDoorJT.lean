/-
  THE WALK of the law JournalCuts.
-/
import Derived.Test.YtkbbjkiinpimiaaDoorJW
import Derived.Test.YtkbbjkiinpimiaaDoorJS
namespace Go.Proofs.YtkbbjkiinpimiaaDoor
open Go.RowKit

set_option maxRecDepth 100000 in
theorem cuts_early (A : Nat → Addr) (ad : Option Addr) (len cap : Nat) (w : World) (hE : Held9 w A) (hl : len ≤ 9223372036854775807) (h : 60 < len) :
    Calls Tryd.prog 9 #[.slice ad len cap] w fun e w' => e = .returned (.bool true) ∧ Below w.heap.size w w' := by
  have HE := hid hE
  clear hE
  go_enter Tryd.func9, Tryd.ntmps9
  go_wp2_with (go_at_call 46; refine (written_any A _ HE.out.toE).mono ?_; rintro e w1 ⟨rfl, hb1⟩)
  go_ret
  exact ⟨rfl, hb1⟩
/-- Where the loop begins. -/
theorem ci_start {w0 w2 : World} {p q j : Nat} {B : ByteArray} (hj : JP w0 w2 j p q (dealL B.data.toList) false B (-1)) (hB : B = zeroB 216) : CI w0 (w2.alloc (.cells (stL St.zero ++ (stL St.zero ++ (stL St.zero ++ (stL St.zero ++ (stL St.zero ++ stL St.zero))))).toArray 74)) j p q w2.heap.size B (-1) (fun _ => St.zero) 0 := by
  have e1 := hj.jr.lt
  have e2 := row_lt hj.pl.head
  have e3 := row_lt hj.pl.row
  refine ⟨hj.later ((Below.refl _ _).alloc (Nat.le_refl _) _), by omega, NR.new w2, hj.bel.size, by omega, by omega, by omega, fun d hd => ?_, fun d hd => ?_⟩
  · unfold sts; rw [hB, deal_zero 216 d (by omega)]
  · rw [hB, deal_zero 216 d (by omega)]; exact Nat.le_refl _
set_option maxRecDepth 100000 in
set_option maxHeartbeats 4000000 in
theorem cuts_small (A : Nat → Addr) (ad : Option Addr) (cap : Nat) (xs : List Put6) (w : World) (hE : Held9 w A) (hx : PutsIn w ad xs) (hl : xs.length ≤ 60) :
    Calls Tryd.prog 9 #[.slice ad xs.length cap] w fun e w' => e = .returned (.bool true) ∧ Below w.heap.size w w' := by
  have HE := hid hE
  have HX := hid hx
  clear hE hx
  have hmk := mkSt
  go_enter Tryd.func9, Tryd.ntmps9
  go_wp2_with (go_at_call 46; refine (written_any A _ HE.out.toE).mono ?_; rintro e w1 ⟨rfl, hb1⟩; have HB1 := hid hb1; have HE1 := hid (HE.out.later hb1); clear hb1)
  refine (pnew_ok 216 _ (by omega)).mono ?_
  rintro e w2 ⟨rfl, hP2, hb2, hs2⟩
  have HP2 := hid hP2
  have HB2 := hid (HB1.out.trans (hb2.mono HB1.out.size))
  have HE2 := hid (HE.out.later HB2.out)
  have hpq := HB1.out.size
  clear hP2 hb2 hs2
  obtain ⟨p, Hp⟩ : ∃ p, Hid (w1.heap.size + 1 = p) := ⟨_, rfl⟩
  obtain ⟨q, Hq⟩ : ∃ q, Hid (w1.heap.size = q) := ⟨_, rfl⟩
  have p0 : w.heap.size ≤ p := by rw [← Hp.out]; omega
  have q0 : w.heap.size ≤ q := by rw [← Hq.out]; omega
  rw [Hp.out, Hq.out] at HP2
  have hpp := Hp.out
  go_wp2_with fail
  refine (open_ok A p q _ (-1) _ HP2.out HE2.out.toE (by rw [zeroB_size]; omega) (by rw [zeroB_size]; omega) (by omega)).mono ?_
  rintro e w3 ⟨j, rfl, hJ, hb3, hj0⟩
  have HJ := hid (jp_new HB2.out HP2.out p0 q0 hJ hb3 hj0 (by omega) (by omega) (by rw [zeroB_size]; omega) (by rw [zeroB_size]; omega))
  clear hJ hb3 hj0 hpp
  obtain ⟨nb, Hnb⟩ : ∃ n, Hid (w3.heap.size = n) := ⟨_, rfl⟩
  have hnb := Hnb.out
  have HS := hid (ci_start HJ.out rfl)
  rw [Hnb.out] at HS
  go_wp2_with fail
  go_loopw [6, 8] (fun vj i wr => ∃ (k j : Nat) (B : ByteArray) (l : Int) (N : Nat → St), k ≤ xs.length ∧ vj = .pointer (some ⟨j, 0, none⟩) ∧ i = .int .i64 (k : Int) ∧ CI w wr j p q nb B l N k) (fun _ i _ => xs.length - (intOf i).toNat)
  case atStart => exact ⟨0, j, _, _, _, Nat.zero_le _, rfl, rfl, HS.out⟩
  case round =>
    clear HS HJ
    obtain ⟨k, j, B, l, N, hk, rfl, rfl, hI⟩ := hrel
    have HI := hid hI
    clear hI
    by_cases hlt : k < xs.length
    · obtain ⟨b, o, rfl, y0, y1, y2, y3, y4, y5, hc9⟩ := HX.out k hlt
      replace y0 := cell_later HI.out.jp.bel y0
      replace y1 := cell_later HI.out.jp.bel y1
      replace y2 := cell_later HI.out.jp.bel y2
      replace y3 := cell_later HI.out.jp.bel y3
      replace y4 := cell_later HI.out.jp.bel y4
      replace y5 := cell_later HI.out.jp.bel y5
      generalize (xs[k]'hlt).deal = dl at y0
      generalize (xs[k]'hlt).ph = ph at y1
      generalize (xs[k]'hlt).pr = pr at y2
      generalize (xs[k]'hlt).at_ = at_ at y3
      generalize (xs[k]'hlt).cut = cu at y4 hc9
      generalize (xs[k]'hlt).boot = bo at y5
      obtain ⟨ab, Hab⟩ : ∃ n, Hid (wr.heap.size = n) := ⟨_, rfl⟩
      obtain ⟨W, HW⟩ : ∃ W, Hid (wr.alloc (.cells #[.int .i64 dl, .int .i64 ph, .int .i64 pr, .int .i64 at_, .int .i64 cu, .bool bo] 76) = W) := ⟨_, rfl⟩
      have hW := HW.out
      have hab := Hab.out
      have HIW := hid (HI.out.later (w' := W) (by rw [← HW.out]; exact (Below.refl _ _).alloc (Nat.le_refl _) _))
      have RW : Hid (W.heap[ab]? = some (.cells #[.int .i64 dl, .int .i64 ph, .int .i64 pr, .int .i64 at_, .int .i64 cu, .bool bo] 76 (0, 0))) := by rw [← HW.out, ← Hab.out]; exact heap_alloc_new wr _
      have HN : Hid (ab ≠ j ∧ ab ≠ p ∧ ab ≠ q ∧ ab ≠ nb) := by
        obtain ⟨e1, e2, e3, e4⟩ := HI.out.lts
        rw [← Hab.out]
        exact ⟨by omega, by omega, by omega, by omega⟩
      have a0 : W.cell? ⟨ab, 0, none⟩ = some (.int .i64 dl) := by rw [cell_of_row _ _ _ _ _ _ RW.out]; rfl
      have a1 : W.cell? ⟨ab, 1, none⟩ = some (.int .i64 ph) := by rw [cell_of_row _ _ _ _ _ _ RW.out]; rfl
      have a2 : W.cell? ⟨ab, 2, none⟩ = some (.int .i64 pr) := by rw [cell_of_row _ _ _ _ _ _ RW.out]; rfl
      have a3 : W.cell? ⟨ab, 3, none⟩ = some (.int .i64 at_) := by rw [cell_of_row _ _ _ _ _ _ RW.out]; rfl
      have a4 : W.cell? ⟨ab, 4, none⟩ = some (.int .i64 cu) := by rw [cell_of_row _ _ _ _ _ _ RW.out]; rfl
      obtain ⟨t1, HT1⟩ : ∃ t : Bool, Hid (decide (dl < 0 ∨ 6 ≤ dl ∨ ph < 0 ∨ 255 < ph) = t) := ⟨_, hid (Eq.refl _)⟩
      obtain ⟨t2, HT2⟩ : ∃ t : Bool, Hid (decide (pr < 0 ∨ 1048576 < pr ∨ at_ < 0 ∨ 1048576 < at_) = t) := ⟨_, hid (Eq.refl _)⟩
      have HY1 : Hid (t1 = false → (0 ≤ dl ∧ dl < 6) ∧ 0 ≤ ph ∧ ph ≤ 255) := fun e => by have := of_decide_eq_false (HT1.out.trans e); omega
      have HY2 : Hid (t2 = false → (0 ≤ pr ∧ pr ≤ 1048576) ∧ 0 ≤ at_ ∧ at_ ≤ 1048576) := fun e => by have := of_decide_eq_false (HT2.out.trans e); omega
      go_upto_region 15 with fail
      go_cut [77] from 48 (fun s77 wx => s77 = .bool t1 ∧ W = wx)
      case first =>
        go_wp2_with fail
        all_goals go_meet
        all_goals refine ⟨congrArg Value.bool ?_, rfl⟩
        all_goals rw [← HT1.out]
        all_goals first | exact dec_or4 _ _ _ _ | exact (decide_eq_true (by omega)).symm
      case rest =>
        obtain ⟨rfl, rfl⟩ := hcut
        cases t1 with
        | true =>
          go_wp2_with fail
          go_roundw
          case rel => exact ⟨k + 1, j, B, l, N, by omega, rfl, by go_num, HIW.out.mono (Nat.le_succ _)⟩
          case measure => simp [intOf]; omega
        | false =>
          go_upto_region 16 with fail
          go_cut [99] from 48 (fun s99 wx => s99 = .bool t2 ∧ W = wx)
          case first =>
            go_wp2_with fail
            all_goals go_meet
            all_goals refine ⟨congrArg Value.bool ?_, rfl⟩
            all_goals rw [← HT2.out]
            all_goals first | exact dec_or4 _ _ _ _ | exact (decide_eq_true (by omega)).symm
          case rest =>
            obtain ⟨rfl, rfl⟩ := hcut
            cases t2 with
            | true =>
              go_wp2_with fail
              go_roundw
              case rel => exact ⟨k + 1, j, B, l, N, by omega, rfl, by go_num, HIW.out.mono (Nat.le_succ _)⟩
              case measure => simp [intOf]; omega
            | false =>
              have G1 := HY1.out rfl
              have G2 := HY2.out rfl
              obtain ⟨d, rfl⟩ : ∃ n : Nat, dl = n := ⟨dl.toNat, by omega⟩
              obtain ⟨h1, rfl⟩ : ∃ n : Nat, ph = n := ⟨ph.toNat, by omega⟩
              obtain ⟨h2, rfl⟩ : ∃ n : Nat, pr = n := ⟨pr.toNat, by omega⟩
              obtain ⟨h3, rfl⟩ : ∃ n : Nat, at_ = n := ⟨at_.toNat, by omega⟩
              have hd : d < 6 := by omega
              have HF : Hid (fitsB h1 h2 h3 = true) := by unfold Hid fitsB; exact decide_eq_true ⟨by omega, by omega, by omega, by omega, by omega, by omega⟩
              clear G1 G2 HY1 HY2 HT1 HT2
              go_upto_region 17 with fail
              go_cut [109] from 48 (fun s109 wx => s109 = .bool false ∧ ∃ l2, CI w wx j p q nb B l2 N k ∧ wx.heap[ab]? = some (.cells #[.int .i64 (d : Int), .int .i64 (h1 : Int), .int .i64 (h2 : Int), .int .i64 (h3 : Int), .int .i64 cu, .bool bo] 76 (0, 0)))
              case first =>
                by_cases hcu : 0 ≤ cu
                · go_wp2_with (go_at_call 40; refine (pcut_ok p q B l cu _ HIW.out.jp.pl HIW.out.pow (by omega)).mono ?_; rintro e w4 ⟨rfl, hP4, hK4⟩; have HC4 := hid (HIW.out.cut hK4 hP4 hcu hc9); have R4 := hid (hK4.row RW.out (fun g => g.elim HN.out.2.1 HN.out.2.2.1)); clear hP4 hK4)
                  go_meet
                  exact ⟨rfl, cu, HC4.out, R4.out⟩
                · go_wp2_with fail
                  go_meet
                  exact ⟨rfl, l, HIW.out, RW.out⟩
              case rest =>
                obtain ⟨rfl, l2, hC, hR⟩ := hcut
                have HC := hid hC
                have R := hid hR
                clear hC hR HIW RW HI
                have b0 : wc.cell? ⟨ab, 0, none⟩ = some (.int .i64 (d : Int)) := by rw [cell_of_row _ _ _ _ _ _ R.out]; rfl
                have b1 : wc.cell? ⟨ab, 1, none⟩ = some (.int .i64 (h1 : Int)) := by rw [cell_of_row _ _ _ _ _ _ R.out]; rfl
                have b2 : wc.cell? ⟨ab, 2, none⟩ = some (.int .i64 (h2 : Int)) := by rw [cell_of_row _ _ _ _ _ _ R.out]; rfl
                have b3 : wc.cell? ⟨ab, 3, none⟩ = some (.int .i64 (h3 : Int)) := by rw [cell_of_row _ _ _ _ _ _ R.out]; rfl
                have hnum := HC.out.num d hd
                have hn1 : (dealL B.data.toList d).1 < 4294967296 := by omega
                rcases put_out (B := B) (l := l2) (d := d) (s := ⟨h1, h2, h3⟩) HC.out.jp.s6 hd (fits_of HF.out) (by omega) HC.out.pow with ho | ho
                · obtain ⟨o1, o2, o3, o4, o5, o6, o7⟩ := ho
                  go_wp2_with fail
                  refine (put_ok d ⟨h1, h2, h3⟩ HC.out.jp HE.out.toE hd HF.out hn1 o1).mono ?_
                  rintro e w5 ⟨rfl, hj5, hk5⟩
                  obtain ⟨j5, n5, fin⟩ := HC.out.put hj5 hk5 o2 o3 o4 o5 o6 o7 hd
                  have R5 := hid (hk5.row R.out (fun g => by rcases g with g | g | g; exact HN.out.1 g; exact HN.out.2.1 g; exact HN.out.2.2.1 g))
                  have c0 : w5.cell? ⟨ab, 0, none⟩ = some (.int .i64 (d : Int)) := by rw [cell_of_row _ _ _ _ _ _ R5.out]; rfl
                  have c1 : w5.cell? ⟨ab, 1, none⟩ = some (.int .i64 (h1 : Int)) := by rw [cell_of_row _ _ _ _ _ _ R5.out]; rfl
                  have c2 : w5.cell? ⟨ab, 2, none⟩ = some (.int .i64 (h2 : Int)) := by rw [cell_of_row _ _ _ _ _ _ R5.out]; rfl
                  have c3 : w5.cell? ⟨ab, 3, none⟩ = some (.int .i64 (h3 : Int)) := by rw [cell_of_row _ _ _ _ _ _ R5.out]; rfl
                  obtain ⟨n0, n1, n2⟩ := n5.ent hd
                  have f0 := n5.fz (d * 3)
                  have f1 := n5.fz (d * 3 + 1)
                  have f2 := n5.fz (d * 3 + 2)
                  have FIN := hid (fin _ (n5.set hd ⟨h1, h2, h3⟩) (j5.aside ((((Kept.refl _ w5).set1 _ _).set1 _ _).set1 _ _) HC.out.nb0 HC.out.nbj HC.out.nbp HC.out.nbq))
                  clear hj5 hk5 j5 n5 fin o1 o2 o3 o4 o5 o6 o7
                  go_wp2_with fail
                  go_roundw
                  case rel => exact ⟨k + 1, j, _, _, _, by omega, rfl, by go_num, FIN.out⟩
                  case measure => simp [intOf]; omega
                · obtain ⟨o1, o2, o3, o4⟩ := ho
                  go_wp2_with fail
                  refine (put_no d ⟨h1, h2, h3⟩ 5 HC.out.jp HE.out.toE hd HF.out hn1 o1).mono ?_
                  rintro e w5 ⟨rfl, hj5, hk5⟩
                  obtain ⟨B', HB'⟩ : ∃ X, Hid ((putIn (dealL B.data.toList) B l2 d ⟨h1, h2, h3⟩).b = X) := ⟨_, rfl⟩
                  rw [HB'.out] at hj5 o4
                  have HJ5 := hid hj5
                  have HK5 := hid hk5
                  have O4 := hid o4
                  have R5 := hid (hk5.row R.out (fun g => by rcases g with g | g | g; exact HN.out.1 g; exact HN.out.2.1 g; exact HN.out.2.2.1 g))
                  clear hj5 hk5 o1 o2 o3 o4
                  go_wp2_with fail
                  refine (pon_any p q B' _ _ HJ5.out.pl).mono ?_
                  rintro e w6 ⟨rfl, hP6, hK6⟩
                  have b6 : Below w.heap.size w w6 := hK6.below HJ5.out.bel.size (fun k g => by unfold In2 at g; omega) HJ5.out.bel
                  have HE6 := hid (HE.out.later b6)
                  have HP6 := hid hP6
                  have HK6 := hid hK6
                  have R6 := hid (hK6.row R5.out (fun g => g.elim HN.out.2.1 HN.out.2.2.1))
                  clear hP6 hK6 b6
                  go_wp2_with fail
                  refine (open_ok A p q B' (-1) _ HP6.out HE6.out.toE HJ5.out.sz HJ5.out.s6 (by omega)).mono ?_
                  rintro e w7 ⟨j2, rfl, hJ7, hb7, hj7⟩
                  have HC7 := hid (HC.out.reopen HJ5.out HK5.out O4.out HP6.out HK6.out hJ7 hb7 hj7)
                  have R7 := hid ((hb7.block _ (row_ltJ R6.out)).trans R6.out)
                  have HE7 := hid (HE.out.later HC7.out.jp.bel)
                  clear hJ7 hb7 hj7
                  go_wp2_with fail
                  refine (coded_ev A 6 _ HE7.out (by decide)).mono ?_
                  rintro e w8 ⟨rfl, hb8⟩
                  have HC8 := hid (HC7.out.later hb8)
                  have R8 := hid ((hb8.block _ (row_ltJ R7.out)).trans R7.out)
                  have d0 : w8.cell? ⟨ab, 0, none⟩ = some (.int .i64 (d : Int)) := by rw [cell_of_row _ _ _ _ _ _ R8.out]; rfl
                  clear hb8 HC7 R7
                  obtain ⟨⟨g1, g2, g3⟩, HG⟩ : ∃ x, Hid (N d = x) := ⟨_, rfl⟩
                  have HS8 : Hid ((dealL B'.data.toList d).2 = ⟨g1, g2, g3⟩) := by rw [← HG.out]; exact (HC8.out.same d hd).symm
                  go_wp2_with fail
                  refine (get_jp d ⟨g1, g2, g3⟩ HC8.out.jp hd HS8.out).mono ?_
                  rintro e w9 ⟨rfl, hb9⟩
                  have HC9 := hid (HC8.out.later hb9)
                  have R9 := hid ((hb9.block _ (row_ltJ R8.out)).trans R8.out)
                  clear hb9 HC8 R8 d0
                  obtain ⟨X, HXX⟩ : ∃ X, Hid (w9.alloc (.cells #[.int .i64 (g1 : Int), .int .i64 (g2 : Int), .int .i64 (g3 : Int)] 74) = X) := ⟨_, rfl⟩
                  obtain ⟨sb, Hsb⟩ : ∃ n, Hid (w9.heap.size = n) := ⟨_, rfl⟩
                  have hX := HXX.out
                  have hsb := Hsb.out
                  have HCX := hid (HC9.out.later (w' := X) (by rw [← HXX.out]; exact (Below.refl _ _).alloc (Nat.le_refl _) _))
                  have RX : Hid (X.heap[ab]? = some (.cells #[.int .i64 (d : Int), .int .i64 (h1 : Int), .int .i64 (h2 : Int), .int .i64 (h3 : Int), .int .i64 cu, .bool bo] 76 (0, 0))) := by rw [← HXX.out]; exact (Below.heap_alloc w9 _ _ (row_ltJ R9.out)).trans R9.out
                  have SX : Hid (X.heap[sb]? = some (.cells #[.int .i64 (g1 : Int), .int .i64 (g2 : Int), .int .i64 (g3 : Int)] 74 (0, 0))) := by rw [← HXX.out, ← Hsb.out]; exact heap_alloc_new w9 _
                  have hsn : sb ≠ nb := by have := HC9.out.nr.lt; rw [← Hsb.out]; omega
                  have e0 : X.cell? ⟨ab, 0, none⟩ = some (.int .i64 (d : Int)) := by rw [cell_of_row _ _ _ _ _ _ RX.out]; rfl
                  have s0 : X.cell? ⟨sb, 0, none⟩ = some (.int .i64 (g1 : Int)) := by rw [cell_of_row _ _ _ _ _ _ SX.out]; rfl
                  have s1 : X.cell? ⟨sb, 1, none⟩ = some (.int .i64 (g2 : Int)) := by rw [cell_of_row _ _ _ _ _ _ SX.out]; rfl
                  have s2 : X.cell? ⟨sb, 2, none⟩ = some (.int .i64 (g3 : Int)) := by rw [cell_of_row _ _ _ _ _ _ SX.out]; rfl
                  obtain ⟨n0, n1, n2⟩ := HCX.out.nr.ent hd
                  rw [HG.out] at n0 n1 n2
                  go_wp2_with fail
                  go_quiet (fail)
                  have HCY := hid (HCX.out.drewN nq)
                  have SY : Hid ((X.drewN nq).heap[sb]? = some (.cells #[.int .i64 (g1 : Int), .int .i64 (g2 : Int), .int .i64 (g3 : Int)] 74 (0, 0))) := by rw [heap_drewJ]; exact SX.out
                  have RY : Hid ((X.drewN nq).heap[ab]? = some (.cells #[.int .i64 (d : Int), .int .i64 (h1 : Int), .int .i64 (h2 : Int), .int .i64 (h3 : Int), .int .i64 cu, .bool bo] 76 (0, 0))) := by rw [heap_drewJ]; exact RX.out
                  clear e0 s0 s1 s2 n0 n1 n2 hX
                  generalize X.drewN nq = Y at HCY SY RY ⊢
                  have e0 : Y.cell? ⟨ab, 0, none⟩ = some (.int .i64 (d : Int)) := by rw [cell_of_row _ _ _ _ _ _ RY.out]; rfl
                  have s0 : Y.cell? ⟨sb, 0, none⟩ = some (.int .i64 (g1 : Int)) := by rw [cell_of_row _ _ _ _ _ _ SY.out]; rfl
                  have s1 : Y.cell? ⟨sb, 1, none⟩ = some (.int .i64 (g2 : Int)) := by rw [cell_of_row _ _ _ _ _ _ SY.out]; rfl
                  have s2 : Y.cell? ⟨sb, 2, none⟩ = some (.int .i64 (g3 : Int)) := by rw [cell_of_row _ _ _ _ _ _ SY.out]; rfl
                  obtain ⟨n0, n1, n2⟩ := HCY.out.nr.ent hd
                  have f0 := HCY.out.nr.fz (d * 3)
                  have f1 := HCY.out.nr.fz (d * 3 + 1)
                  have f2 := HCY.out.nr.fz (d * 3 + 2)
                  have HZ0 : Hid (CI w (((Y.setCell ⟨nb, d * 3, none⟩ (.int .i64 (g1 : Int))).setCell ⟨nb, d * 3 + 1, none⟩ (.int .i64 (g2 : Int))).setCell ⟨nb, d * 3 + 2, none⟩ (.int .i64 (g3 : Int))) j2 p q nb B' (-1) N k) :=
                    HCY.out.again ((((Kept.refl _ Y).set1 _ _).set1 _ _).set1 _ _) ((HCY.out.nr.set hd ⟨g1, g2, g3⟩).ext (fun e _ => by rw [← HG.out, updN_same]))
                  go_wp2_with fail
                  go_loopw [14] (fun i wr2 => ∃ e : Nat, e ≤ 6 ∧ i = .int .i64 (e : Int) ∧ CI w wr2 j2 p q nb B' (-1) N k) (fun i _ => 6 - (intOf i).toNat)
                  case atStart => exact ⟨0, by omega, rfl, HZ0.out⟩
                  case round =>
                    clear HZ0
                    obtain ⟨e, he, rfl, hI2⟩ := hrel
                    have HI2 := hid hI2
                    clear hI2 e0 s0 s1 s2 n0 n1 n2 f0 f1 f2
                    by_cases he6 : e < 6
                    · obtain ⟨⟨q1, q2, q3⟩, HQ⟩ : ∃ x, Hid (N e = x) := ⟨_, rfl⟩
                      have HSe : Hid ((dealL B'.data.toList e).2 = ⟨q1, q2, q3⟩) := by rw [← HQ.out]; exact (HI2.out.same e he6).symm
                      go_wp2_with fail
                      refine (get_jp e ⟨q1, q2, q3⟩ HI2.out.jp he6 HSe.out).mono ?_
                      rintro e' w10 ⟨rfl, hb10⟩
                      have HC10 := hid (HI2.out.later hb10)
                      clear hb10
                      obtain ⟨Z, HZZ⟩ : ∃ X, Hid (w10.alloc (.cells #[.int .i64 (q1 : Int), .int .i64 (q2 : Int), .int .i64 (q3 : Int)] 74) = X) := ⟨_, rfl⟩
                      obtain ⟨zb, Hzb⟩ : ∃ n, Hid (w10.heap.size = n) := ⟨_, rfl⟩
                      have hZ := HZZ.out
                      have hzb := Hzb.out
                      have HCZ := hid (HC10.out.later (w' := Z) (by rw [← HZZ.out]; exact (Below.refl _ _).alloc (Nat.le_refl _) _))
                      have SZ : Hid (Z.heap[zb]? = some (.cells #[.int .i64 (q1 : Int), .int .i64 (q2 : Int), .int .i64 (q3 : Int)] 74 (0, 0))) := by rw [← HZZ.out, ← Hzb.out]; exact heap_alloc_new w10 _
                      have s0 : Z.cell? ⟨zb, 0, none⟩ = some (.int .i64 (q1 : Int)) := by rw [cell_of_row _ _ _ _ _ _ SZ.out]; rfl
                      have s1 : Z.cell? ⟨zb, 1, none⟩ = some (.int .i64 (q2 : Int)) := by rw [cell_of_row _ _ _ _ _ _ SZ.out]; rfl
                      have s2 : Z.cell? ⟨zb, 2, none⟩ = some (.int .i64 (q3 : Int)) := by rw [cell_of_row _ _ _ _ _ _ SZ.out]; rfl
                      obtain ⟨n0, n1, n2⟩ := HCZ.out.nr.ent he6
                      rw [HQ.out] at n0 n1 n2
                      go_wp2_with fail
                      go_quiet (fail)
                      go_wp2_with fail
                      go_roundw
                      case rel => exact ⟨e + 1, by omega, by go_num, HCZ.out.drewN _⟩
                      case measure => simp [intOf]; omega
                    · obtain rfl : e = 6 := by omega
                      go_wp2_with fail
                      go_roundw
                      case rel => exact ⟨k + 1, j2, B', -1, N, by omega, rfl, by go_num, HI2.out.mono (Nat.le_succ _)⟩
                      case measure => simp [intOf]; omega
    · obtain rfl : k = xs.length := by omega
      go_wp2_with fail
      go_ret
      exact ⟨rfl, HI.out.jp.bel⟩
end Go.Proofs.YtkbbjkiinpimiaaDoor
