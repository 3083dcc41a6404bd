/-
  THE WALK of the law JournalLast.
-/
import Derived.Test.YtkbbjkiinpimiaaDoorJW
import Derived.Test.YtkbbjkiinpimiaaDoorJS
namespace Go.Proofs.YtkbbjkiinpimiaaDoor
open Go.RowKit

section
variable {w0 w w' : World} {j p q nb m : Nat} {B : ByteArray} {l : Int} {N : Nat → St} {A : Nat → Addr} {E : Nat → Nat × St}
/-- Opened anew, beside the elder one. -/
theorem CI.open {w7 : World} {j2 : Nat} (h : CI w0 w j p q nb B l N m) (hJ7 : JR w7 j2 p (dealL B.data.toList) false) (hb7 : Below w.heap.size w w7) (hj7 : w.heap.size ≤ j2) : CI w0 w7 j2 p q nb B l N m := by
  have n7 := h.nr.later hb7 h.nr.lt
  have l6 := h.nr.lt
  exact ⟨jp_new h.jp.bel h.jp.pl h.jp.p0 h.jp.q0 hJ7 hb7 hj7 h.jp.l0 h.jp.l1 h.jp.sz h.jp.s6, h.pow, n7, h.nb0, by omega, h.nbp, h.nbq, h.same, h.num⟩
/-- A Put that turned nothing. -/
theorem CI.kept3 (h : CI w0 w j p q nb B l N m) (hj : JP w0 w' j p q (dealL B.data.toList) false B l) (hk : Kept (In3 j p q) w w') : CI w0 w' j p q nb B l N m :=
  ⟨hj, h.pow, hk.row h.nr (fun g => by rcases g with g | g | g; exact h.nbj g; exact h.nbp g; exact h.nbq g), h.nb0, h.nbj, h.nbp, h.nbq, h.same, h.num⟩
theorem put_okz (d h1 h2 h3 : Nat) (o : POut) (h : JP w0 w j p q E false B l) (hE : HeldE w0 A) (hd : d < 6) (hf : fitsB h1 h2 h3 = true) (hn : (E d).1 < 4294967296) (ho : putIn E B l d ⟨h1, h2, h3⟩ = o) (hc : o.c = 0) :
    Calls Tryd.prog 48 #[.pointer (some ⟨j, 0, none⟩), .int .i64 (d : Int), .agg #[.int .i64 (h1 : Int), .int .i64 (h2 : Int), .int .i64 (h3 : Int)]] w fun e w' => e = .returned .nilIface ∧ JP w0 w' j p q o.e o.over o.b o.l ∧ Kept (In3 j p q) w w' := by
  subst ho
  exact put_ok d ⟨h1, h2, h3⟩ h hE hd hf hn hc
end
set_option maxRecDepth 100000 in
theorem last_early (A : Nat → Addr) (ad : Option Addr) (len cap : Nat) (w : World) (hE : HeldE w A) (hl : len ≤ 9223372036854775807) (h : 60 < len) :
    Calls Tryd.prog 10 #[.slice ad len cap] w fun e w' => e = .returned (.bool true) ∧ Below w.heap.size w w' := by
  have HE := hid hE
  clear hE
  go_enter Tryd.func10, Tryd.ntmps10
  go_wp2_with (go_at_call 46; refine (written_any A _ HE.out).mono ?_; rintro e w1 ⟨rfl, hb1⟩)
  go_ret
  exact ⟨rfl, hb1⟩
/-- Where the loop begins. -/
theorem ci_begin {w0 w2 : World} {p q j : Nat} {B : ByteArray} (hj : JP w0 w2 j p q (dealL B.data.toList) false B (-1)) (hB : B = zeroB 216) : CI w0 (w2.alloc (.cells (stL St.zero ++ (stL St.zero ++ (stL St.zero ++ (stL St.zero ++ (stL St.zero ++ stL St.zero))))).toArray 74)) j p q w2.heap.size B (-1) (fun _ => St.zero) 0 := by
  have e1 := hj.jr.lt
  have e2 := row_lt hj.pl.head
  have e3 := row_lt hj.pl.row
  refine ⟨hj.later ((Below.refl _ _).alloc (Nat.le_refl _) _), by omega, NR.new w2, hj.bel.size, by omega, by omega, by omega, fun d hd => ?_, fun d hd => ?_⟩
  · unfold sts; rw [hB, deal_zero 216 d (by omega)]
  · rw [hB, deal_zero 216 d (by omega)]; exact Nat.le_refl _
set_option maxRecDepth 100000 in
set_option maxHeartbeats 4000000 in
theorem last_small (A : Nat → Addr) (ad : Option Addr) (cap : Nat) (xs : List Put6) (w : World) (hE : HeldE w A) (hx : PutsIn w ad xs) (hl : xs.length ≤ 60) :
    Calls Tryd.prog 10 #[.slice ad xs.length cap] w fun e w' => e = .returned (.bool true) ∧ Below w.heap.size w w' := by
  have HE := hid hE
  have HX := hid hx
  clear hE hx
  have hmk := mkSt
  go_enter Tryd.func10, Tryd.ntmps10
  go_wp2_with (go_at_call 46; refine (written_any A _ HE.out).mono ?_; rintro e w1 ⟨rfl, hb1⟩; have HB1 := hid hb1; have HE1 := hid (HE.out.later hb1); clear hb1)
  refine (pnew_ok 216 _ (by omega)).mono ?_
  rintro e w2 ⟨rfl, hP2, hb2, hs2⟩
  have HP2 := hid hP2
  have HB2 := hid (HB1.out.trans (hb2.mono HB1.out.size))
  have HE2 := hid (HE.out.later HB2.out)
  have hpq := HB1.out.size
  clear hP2 hb2 hs2
  obtain ⟨p, Hp⟩ : ∃ p, Hid (w1.heap.size + 1 = p) := ⟨_, rfl⟩
  obtain ⟨q, Hq⟩ : ∃ q, Hid (w1.heap.size = q) := ⟨_, rfl⟩
  have p0 : w.heap.size ≤ p := by rw [← Hp.out]; omega
  have q0 : w.heap.size ≤ q := by rw [← Hq.out]; omega
  rw [Hp.out, Hq.out] at HP2
  have hpp := Hp.out
  go_wp2_with fail
  refine (open_ok A p q _ (-1) _ HP2.out HE2.out (by rw [zeroB_size]; omega) (by rw [zeroB_size]; omega) (by omega)).mono ?_
  rintro e w3 ⟨j, rfl, hJ, hb3, hj0⟩
  have HJ := hid (jp_new HB2.out HP2.out p0 q0 hJ hb3 hj0 (by omega) (by omega) (by rw [zeroB_size]; omega) (by rw [zeroB_size]; omega))
  clear hJ hb3 hj0 hpp
  obtain ⟨nb, Hnb⟩ : ∃ n, Hid (w3.heap.size = n) := ⟨_, rfl⟩
  have hnb := Hnb.out
  have HS := hid (ci_begin HJ.out rfl)
  rw [Hnb.out] at HS
  go_wp2_with fail
  go_loopw [8] (fun i wr => ∃ (k : Nat) (B : ByteArray) (N : Nat → St), k ≤ xs.length ∧ i = .int .i64 (k : Int) ∧ CI w wr j p q nb B (-1) N k) (fun i _ => xs.length - (intOf i).toNat)
  case atStart => exact ⟨0, _, _, Nat.zero_le _, rfl, HS.out⟩
  case round =>
    clear HS HJ
    obtain ⟨k, B, N, hk, rfl, hI⟩ := hrel
    have HI := hid hI
    clear hI
    by_cases hlt : k < xs.length
    · obtain ⟨b, o, rfl, y0, y1, y2, y3, -, -, -⟩ := HX.out k hlt
      generalize (xs[k]'hlt).deal = dl at y0
      generalize (xs[k]'hlt).ph = ph at y1
      generalize (xs[k]'hlt).pr = pr at y2
      generalize (xs[k]'hlt).at_ = at_ at y3
      have HC : Hid (∀ wx, Below w.heap.size w wx → wx.cell? ⟨b, o + k * 6, none⟩ = some (.int .i64 dl) ∧ wx.cell? ⟨b, o + k * 6 + 1, none⟩ = some (.int .i64 ph) ∧ wx.cell? ⟨b, o + k * 6 + 2, none⟩ = some (.int .i64 pr) ∧ wx.cell? ⟨b, o + k * 6 + 3, none⟩ = some (.int .i64 at_)) :=
        fun wx hb => ⟨cell_later hb y0, cell_later hb y1, cell_later hb y2, cell_later hb y3⟩
      have hbw : b < w.heap.size := cell_lt y0
      have hbn : b ≠ nb := by have := HI.out.nb0; omega
      clear y0 y1 y2 y3
      obtain ⟨y0, y1, y2, y3⟩ := HC.out _ HI.out.jp.bel
      by_cases good : (0 ≤ dl ∧ dl < 6) ∧ fitsB ph pr at_ = true
      · obtain ⟨⟨g1, g2⟩, hf⟩ := good
        have hff := of_decide_eq_true hf
        obtain ⟨d, rfl⟩ : ∃ n : Nat, dl = n := ⟨dl.toNat, by omega⟩
        obtain ⟨h1, rfl⟩ : ∃ n : Nat, ph = n := ⟨ph.toNat, by omega⟩
        obtain ⟨h2, rfl⟩ : ∃ n : Nat, pr = n := ⟨pr.toNat, by omega⟩
        obtain ⟨h3, rfl⟩ : ∃ n : Nat, at_ = n := ⟨at_.toNat, by omega⟩
        have hd : d < 6 := by omega
        have HF := hid hf
        have hnum := HI.out.num d hd
        have hn1 : (dealL B.data.toList d).1 < 4294967296 := by omega
        have hfr := put_free (B := B) (d := d) (s := ⟨h1, h2, h3⟩) HI.out.jp.s6 hd (by omega)
        have hpo := put_out (B := B) (l := -1) (d := d) (s := ⟨h1, h2, h3⟩) HI.out.jp.s6 hd (fits_of HF.out) (by omega) (by omega)
        obtain ⟨⟨oc, oe, oo, B', ol⟩, HO⟩ : ∃ x, Hid (putIn (dealL B.data.toList) B (-1) d ⟨h1, h2, h3⟩ = x) := ⟨_, rfl⟩
        rw [HO.out] at hfr hpo
        simp only [] at hfr hpo
        obtain ⟨rfl, rfl⟩ := hfr
        rcases hpo with ⟨-, rfl, rfl, o4, o5, o6, o7⟩ | ⟨oc0, -⟩
        rotate_left
        · cases oc0
        have O5 := hid o5
        have O6 := hid o6
        have O7 := hid o7
        have HN1 := hid hn1
        have hn2 : Hid ((dealL B'.data.toList d).1 < 4294967296) := by unfold Hid; omega
        have HO2 : Hid (putIn (dealL B'.data.toList) B' (-1) d ⟨h1, h2, h3⟩ = ⟨0, dealL B'.data.toList, false, B', -1⟩) := put_same _ o5
        clear hff g1 g2 hf o4 o5 o6 o7 hn1
        go_wp2_with fail
        go_region_held3 (fun w' => w'.cell? ⟨b, o + k * 6, none⟩ = some (.int .i64 (d : Int)) ∧ w'.cell? ⟨b, o + k * 6 + 1, none⟩ = some (.int .i64 (h1 : Int)) ∧ w'.cell? ⟨b, o + k * 6 + 2, none⟩ = some (.int .i64 (h2 : Int)) ∧ w'.cell? ⟨b, o + k * 6 + 3, none⟩ = some (.int .i64 (h3 : Int))) (go_keep) (first | (go_at_call 48; (with_reducible refine (put_okz d h1 h2 h3 _ HI.out.drew.jp HE.out hd HF.out HN1.out HO.out rfl).mono ?_); rintro e w5 ⟨rfl, hj5, hk5⟩; obtain ⟨j5, n5, fin⟩ := HI.out.drew.put hj5 hk5 rfl rfl (show (-1 : Int) ≠ -2 by omega) O5.out O6.out O7.out hd; obtain ⟨z0, z1, z2, z3⟩ := HC.out _ j5.bel; obtain ⟨n0, n1, n2⟩ := n5.ent hd; have f0 := n5.fz (d * 3); have f1 := n5.fz (d * 3 + 1); have f2 := n5.fz (d * 3 + 2); have FIN := hid (fin _ (n5.set hd ⟨h1, h2, h3⟩) (j5.aside ((((Kept.refl _ w5).set1 _ _).set1 _ _).set1 _ _) HI.out.nb0 HI.out.nbj HI.out.nbp HI.out.nbq)); clear hj5 hk5 j5 n5 fin))
        all_goals go_wp2_with fail
        go_region
        all_goals go_wp2_with fail
        have FD := hid FIN.out.drew
        clear FIN z0 z1 z2 z3 n0 n1 n2 f0 f1 f2
        generalize (((w5.setCell ⟨nb, d * 3, none⟩ (.int .i64 (h1 : Int))).setCell ⟨nb, d * 3 + 1, none⟩ (.int .i64 (h2 : Int))).setCell ⟨nb, d * 3 + 2, none⟩ (.int .i64 (h3 : Int))).drew = Y at FD ⊢
        refine (pbytes_any p q B' (-1) _ FD.out.jp.pl).mono ?_
        rintro e wx ⟨rfl, hx⟩
        subst wx
        obtain ⟨z0, z1, z2, z3⟩ := HC.out _ FD.out.jp.bel
        have hBB : (B'.toList == B'.toList) = true := by simp
        go_wp2_with fail
        go_region_held3 (fun w' => w'.cell? ⟨b, o + k * 6, none⟩ = some (.int .i64 (d : Int)) ∧ w'.cell? ⟨b, o + k * 6 + 1, none⟩ = some (.int .i64 (h1 : Int)) ∧ w'.cell? ⟨b, o + k * 6 + 2, none⟩ = some (.int .i64 (h2 : Int)) ∧ w'.cell? ⟨b, o + k * 6 + 3, none⟩ = some (.int .i64 (h3 : Int))) (go_keep) (first | (go_at_call 48; (with_reducible refine (put_okz d h1 h2 h3 _ FD.out.drew.jp HE.out hd HF.out hn2.out HO2.out rfl).mono ?_); rintro e w6 ⟨rfl, hj6, hk6⟩; have HI6 := hid (FD.out.drew.kept3 hj6 hk6); obtain ⟨x0, x1, x2, x3⟩ := HC.out _ HI6.out.jp.bel; clear hj6 hk6) | (go_at_call 34; (with_reducible refine (pbytes_any p q B' (-1) _ HI6.out.jp.pl).mono ?_); rintro e wx ⟨rfl, hx⟩; subst wx))
        all_goals go_wp2_with fail
        all_goals go_roundw
        case rel => exact ⟨k + 1, B', _, by omega, by go_num, HI6.out⟩
        case measure => simp [intOf]; omega
      · have HG := hid good
        clear good
        go_wp2_with fail
        go_region_held3 (fun w' => w'.cell? ⟨b, o + k * 6, none⟩ = some (.int .i64 dl) ∧ w'.cell? ⟨b, o + k * 6 + 1, none⟩ = some (.int .i64 ph) ∧ w'.cell? ⟨b, o + k * 6 + 2, none⟩ = some (.int .i64 pr) ∧ w'.cell? ⟨b, o + k * 6 + 3, none⟩ = some (.int .i64 at_)) (go_keep) (first | (go_at_call 48; (with_reducible refine (put_bound A w _ j p q _ B (-1) dl ph pr at_ HI.out.drew.jp HE.out HG.out).mono ?_); rintro e w5 ⟨rfl, hj5, hk5⟩; have HI5 := hid (HI.out.drew.kept3 hj5 hk5); obtain ⟨z0, z1, z2, z3⟩ := HC.out _ HI5.out.jp.bel; clear hj5 hk5))
        all_goals go_wp2_with fail
        all_goals go_roundw
        case rel => exact ⟨k + 1, B, N, by omega, by go_num, HI5.out.mono (Nat.le_succ _)⟩
        case measure => simp [intOf]; omega
    · obtain rfl : k = xs.length := by omega
      go_wp2_with fail
      refine (open_ok A p q B (-1) _ HI.out.jp.pl (HE.out.later HI.out.jp.bel) HI.out.jp.sz HI.out.jp.s6 (by omega)).mono ?_
      rintro e w7 ⟨j2, rfl, hJ7, hb7, hj7⟩
      have HC7 := hid (HI.out.open hJ7 hb7 hj7)
      clear hJ7 hb7 hj7 HI
      go_wp2_with fail
      go_loopw [11] (fun i wr2 => ∃ e : Nat, e ≤ 6 ∧ i = .int .i64 (e : Int) ∧ CI w wr2 j2 p q nb B (-1) N xs.length) (fun i _ => 6 - (intOf i).toNat)
      case atStart => exact ⟨0, by omega, rfl, HC7.out⟩
      case round =>
        clear HC7
        obtain ⟨e, he, rfl, hI2⟩ := hrel
        have HI2 := hid hI2
        clear hI2
        by_cases he6 : e < 6
        · obtain ⟨⟨q1, q2, q3⟩, HQ⟩ : ∃ x, Hid (N e = x) := ⟨_, rfl⟩
          have HSe : Hid ((dealL B.data.toList e).2 = ⟨q1, q2, q3⟩) := by rw [← HQ.out]; exact (HI2.out.same e he6).symm
          go_wp2_with fail
          refine (get_jp e ⟨q1, q2, q3⟩ HI2.out.jp he6 HSe.out).mono ?_
          rintro e' w10 ⟨rfl, hb10⟩
          have HC10 := hid (HI2.out.later hb10)
          clear hb10
          obtain ⟨Z, HZZ⟩ : ∃ X, Hid (w10.alloc (.cells #[.int .i64 (q1 : Int), .int .i64 (q2 : Int), .int .i64 (q3 : Int)] 74) = X) := ⟨_, rfl⟩
          obtain ⟨zb, Hzb⟩ : ∃ n, Hid (w10.heap.size = n) := ⟨_, rfl⟩
          have hZ := HZZ.out
          have hzb := Hzb.out
          have HCZ := hid (HC10.out.later (w' := Z) (by rw [← HZZ.out]; exact (Below.refl _ _).alloc (Nat.le_refl _) _))
          have SZ : Hid (Z.heap[zb]? = some (.cells #[.int .i64 (q1 : Int), .int .i64 (q2 : Int), .int .i64 (q3 : Int)] 74 (0, 0))) := by rw [← HZZ.out, ← Hzb.out]; exact heap_alloc_new w10 _
          have s0 : Z.cell? ⟨zb, 0, none⟩ = some (.int .i64 (q1 : Int)) := by rw [cell_of_row _ _ _ _ _ _ SZ.out]; rfl
          have s1 : Z.cell? ⟨zb, 1, none⟩ = some (.int .i64 (q2 : Int)) := by rw [cell_of_row _ _ _ _ _ _ SZ.out]; rfl
          have s2 : Z.cell? ⟨zb, 2, none⟩ = some (.int .i64 (q3 : Int)) := by rw [cell_of_row _ _ _ _ _ _ SZ.out]; rfl
          obtain ⟨n0, n1, n2⟩ := HCZ.out.nr.ent he6
          rw [HQ.out] at n0 n1 n2
          go_wp2_with fail
          go_quiet (fail)
          go_wp2_with fail
          go_roundw
          case rel => exact ⟨e + 1, by omega, by go_num, HCZ.out.drewN _⟩
          case measure => simp [intOf]; omega
        · obtain rfl : e = 6 := by omega
          go_wp2_with fail
          go_ret
          exact ⟨rfl, HI2.out.jp.bel⟩
end Go.Proofs.YtkbbjkiinpimiaaDoor
