/-
  On the way to WStepsProof: Q6 Q7 Q8 EV VA.
-/
import Derived.Test.YtbaamegnmeohoacGreatDoorBs13
import Derived.Test.YtbaamegnmeohoacGreatDoorBs3
import Derived.Test.YtbaamegnmeohoacGreatDoorBs4
import Derived.Test.YtbaamegnmeohoacGreatDoorBs2
import Derived.Test.YtbaamegnmeohoacGreatDoorBs10
import Derived.Test.YtbaamegnmeohoacGreatDoorBs12
import Derived.BigRegion
import Derived.RegionTactic
import Derived.Laws.OwnMore
namespace Go.Proofs.YtbaamegnmeohoacGreatDoor
open Go.RowKit
section
variable {w : World} {lb b cap id : Nat} {deal att : Int} {zs : List Int} {P : PL}
theorem LD.setTold (h : LD w lb b cap id deal att zs P) {i : Nat} (hi : i < 7) (s : S3) :
    LD (((w.setCell ⟨lb, 6 + i * 3, none⟩ (.int .i64 s.p)).setCell ⟨lb, 6 + i * 3 + 1, none⟩ (.int .i64 s.r)).setCell ⟨lb, 6 + i * 3 + 2, none⟩ (.int .i64 s.a)) lb b cap id deal att zs { P with told := toldS P.told i s } := by
  obtain ⟨t0, t1, t2, t3, t4, t5, t6, e⟩ := seven h.pw.len
  have hP : P = { P with told := [t0, t1, t2, t3, t4, t5, t6] } := by rw [← e]
  have hw : PW zs.length P := h.pw
  rw [hP] at h
  rw [e]
  have key : ∀ L : List S3, L.length = 7 → PW zs.length { P with told := L } := fun L hL => ⟨hL, hw.lo, hw.hi⟩
  match i, hi with
  | 0, _ => exact ((h.set (Q := { P with told := [⟨s.p, t0.r, t0.a⟩, t1, t2, t3, t4, t5, t6] }) (key _ rfl) rfl).set (Q := { P with told := [⟨s.p, s.r, t0.a⟩, t1, t2, t3, t4, t5, t6] }) (key _ rfl) rfl).set (key _ rfl) rfl
  | 1, _ => exact ((h.set (Q := { P with told := [t0, ⟨s.p, t1.r, t1.a⟩, t2, t3, t4, t5, t6] }) (key _ rfl) rfl).set (Q := { P with told := [t0, ⟨s.p, s.r, t1.a⟩, t2, t3, t4, t5, t6] }) (key _ rfl) rfl).set (key _ rfl) rfl
  | 2, _ => exact ((h.set (Q := { P with told := [t0, t1, ⟨s.p, t2.r, t2.a⟩, t3, t4, t5, t6] }) (key _ rfl) rfl).set (Q := { P with told := [t0, t1, ⟨s.p, s.r, t2.a⟩, t3, t4, t5, t6] }) (key _ rfl) rfl).set (key _ rfl) rfl
  | 3, _ => exact ((h.set (Q := { P with told := [t0, t1, t2, ⟨s.p, t3.r, t3.a⟩, t4, t5, t6] }) (key _ rfl) rfl).set (Q := { P with told := [t0, t1, t2, ⟨s.p, s.r, t3.a⟩, t4, t5, t6] }) (key _ rfl) rfl).set (key _ rfl) rfl
  | 4, _ => exact ((h.set (Q := { P with told := [t0, t1, t2, t3, ⟨s.p, t4.r, t4.a⟩, t5, t6] }) (key _ rfl) rfl).set (Q := { P with told := [t0, t1, t2, t3, ⟨s.p, s.r, t4.a⟩, t5, t6] }) (key _ rfl) rfl).set (key _ rfl) rfl
  | 5, _ => exact ((h.set (Q := { P with told := [t0, t1, t2, t3, t4, ⟨s.p, t5.r, t5.a⟩, t6] }) (key _ rfl) rfl).set (Q := { P with told := [t0, t1, t2, t3, t4, ⟨s.p, s.r, t5.a⟩, t6] }) (key _ rfl) rfl).set (key _ rfl) rfl
  | 6, _ => exact ((h.set (Q := { P with told := [t0, t1, t2, t3, t4, t5, ⟨s.p, t6.r, t6.a⟩] }) (key _ rfl) rfl).set (Q := { P with told := [t0, t1, t2, t3, t4, t5, ⟨s.p, s.r, t6.a⟩] }) (key _ rfl) rfl).set (key _ rfl) rfl
theorem LD.told (h : LD w lb b cap id deal att zs P) : SL w (some ⟨lb, 6, none⟩) P.told := by
  obtain ⟨t0, t1, t2, t3, t4, t5, t6, e⟩ := seven h.pw.len
  have hr := h.row
  unfold pC at hr
  rw [e] at hr ⊢
  intro i hi
  refine ⟨lb, 6, rfl, ?_⟩
  match i, (show i < 7 from hi) with
  | 0, _ => refine ⟨?_, ?_, ?_⟩ <;> rw [cell_of_row _ _ _ _ _ _ hr] <;> rfl
  | 1, _ => refine ⟨?_, ?_, ?_⟩ <;> rw [cell_of_row _ _ _ _ _ _ hr] <;> rfl
  | 2, _ => refine ⟨?_, ?_, ?_⟩ <;> rw [cell_of_row _ _ _ _ _ _ hr] <;> rfl
  | 3, _ => refine ⟨?_, ?_, ?_⟩ <;> rw [cell_of_row _ _ _ _ _ _ hr] <;> rfl
  | 4, _ => refine ⟨?_, ?_, ?_⟩ <;> rw [cell_of_row _ _ _ _ _ _ hr] <;> rfl
  | 5, _ => refine ⟨?_, ?_, ?_⟩ <;> rw [cell_of_row _ _ _ _ _ _ hr] <;> rfl
  | 6, _ => refine ⟨?_, ?_, ?_⟩ <;> rw [cell_of_row _ _ _ _ _ _ hr] <;> rfl
theorem LD.toldAt (h : LD w lb b cap id deal att zs P) {i : Nat} (hi : i < 7) : ∃ x y z, w.cell? ⟨lb, 6 + i * 3, none⟩ = some x ∧ w.cell? ⟨lb, 6 + i * 3 + 1, none⟩ = some y ∧ w.cell? ⟨lb, 6 + i * 3 + 2, none⟩ = some z := by
  obtain ⟨b', off, e, h0, h1, h2⟩ := h.told i (by rw [h.pw.len]; exact hi)
  cases e
  exact ⟨_, _, _, h0, h1, h2⟩
theorem choose_is (a : Option Addr) (cap' : Nat) (L : List S3) (m : Nat) (x : Int) (y : Bool) (hm : L.length = m) (hl : m ≤ 200) (hL : SL w a L) (hx : chooseL L = (x, y)) :
    Calls Tryz.prog 234 #[.slice a m cap'] w fun e w' => e = .returned (.tuple #[.int .i64 x, .bool y]) ∧ Below w.heap.size w w' := by
  subst hm
  have := choose_any a cap' L w hl hL
  rw [hx] at this
  exact this
set_option maxHeartbeats 2000000 in
set_option maxRecDepth 100000 in
theorem ldtell_any (A : Nat → Addr) (i : Nat) (s : S3) (hi : i < 7) (he : errW zs = 0) (hE : Held3 w A) (h : LD w lb b cap id deal att zs P) :
    Calls Tryz.prog 192 #[.pointer (some ⟨lb, 0, none⟩), .int .i64 (i : Int), .agg #[.int .i64 s.p, .int .i64 s.r, .int .i64 s.a]] w fun e w' => ∃ v, e = .returned v ∧ FrB w.heap.size w' v (outL id deal att zs.length (tellP zs P i s).2) ∧ LD w' lb b cap id deal att zs (tellP zs P i s).1 ∧ Kept (In1 lb) w w' := by
  obtain ⟨s1, s2, s3⟩ := s
  simp only
  obtain ⟨x, HX⟩ : ∃ x, Hid (enoughB zs P.ans = x) := ⟨_, rfl⟩
  obtain ⟨R, HR⟩ : ∃ R, Hid (tellP zs P i ⟨s1, s2, s3⟩ = R) := ⟨_, rfl⟩
  rw [HR.out]
  obtain ⟨W, HW⟩ : ∃ W, Hid (w.alloc (.cells #[.int .i64 s1, .int .i64 s2, .int .i64 s3] 113) = W) := ⟨_, rfl⟩
  have HB : Hid (Below w.heap.size w W) := by rw [← HW.out]; exact (Below.refl _ _).alloc (Nat.le_refl _) _
  have HRw : Hid (W.heap[w.heap.size]? = some (.cells #[.int .i64 s1, .int .i64 s2, .int .i64 s3] 113 (0, 0))) := by rw [← HW.out]; exact heap_alloc_new w _
  have b0 : W.cell? ⟨w.heap.size, 0, none⟩ = some (.int .i64 s1) := by rw [cell_of_row _ _ _ _ _ _ HRw.out]; rfl
  have b1 : W.cell? ⟨w.heap.size, 1, none⟩ = some (.int .i64 s2) := by rw [cell_of_row _ _ _ _ _ _ HRw.out]; rfl
  have b2 : W.cell? ⟨w.heap.size, 2, none⟩ = some (.int .i64 s3) := by rw [cell_of_row _ _ _ _ _ _ HRw.out]; rfl
  have HL := hid (h.later HB.out)
  have HE := hid (hE.later HB.out)
  have HZ := hid he
  have hn := (errW_zero he).2.1
  have hlb : lb < w.heap.size := row_ltJ h.row
  obtain ⟨u0, u1, u2, c0, c1, c2⟩ := HL.out.toldAt hi
  have z0 := HL.out.fz (6 + i * 3)
  have z1 := HL.out.fz (6 + i * 3 + 1)
  have z2 := HL.out.fz (6 + i * 3 + 2)
  have hW := HW.out
  have HL2 := hid ((HL.out.setTold hi ⟨s1, s2, s3⟩).later (Below.refl _ _).drew)
  have HK2 : Hid (Kept (In1 lb) W (((W.setCell ⟨lb, 6 + i * 3, none⟩ (.int .i64 s1)).setCell ⟨lb, 6 + i * 3 + 1, none⟩ (.int .i64 s2)).setCell ⟨lb, 6 + i * 3 + 2, none⟩ (.int .i64 s3)).drew) := ((((Kept.refl _ _).set1 _ _).set1 _ _).set1 _ _).drew
  have HE2 := hid (HE.out.kept HK2.out (fun k hk => by rw [show k = lb from hk]; exact h.glo))
  have HX2 : Hid (enoughB zs ({ P with told := toldS P.told i ⟨s1, s2, s3⟩ } : PL).ans = x) := HX.out
  clear h hE he
  have hi2 : (i : Int) < 7 := by omega
  go_enter Tryz.func192, Tryz.ntmps192
  go_wp2_with fail
  go_region
  all_goals go_wp2_with fail
  refine (ldenough_is A x HL2.out HZ.out HE2.out HX2.out).mono ?_
  rintro e w1 ⟨rfl, hb⟩
  have HL3 := hid (HL2.out.later hb)
  have HK3 := hid (((Kept.of_below (S := In1 lb) HB.out).trans HK2.out).trans (Kept.of_below hb))
  clear hb b0 b1 b2 c0 c1 c2 z0 z1 z2 u0 u1 u2
  cases x with
  | false =>
    obtain rfl : R = ({ P with told := toldS P.told i ⟨s1, s2, s3⟩ }, none) := by rw [← HR.out]; unfold tellP; rw [if_pos HX.out]
    go_wp2_with fail
    go_ret
    exact ⟨_, rfl, FrB.zero _ _, HL3.out, HK3.out⟩
  | true =>
    obtain ⟨⟨cx, cy⟩, HC⟩ : ∃ z, Hid (chooseL (toldS P.told i ⟨s1, s2, s3⟩) = z) := ⟨_, rfl⟩
    have HSL := hid HL3.out.told
    have hlb3 : lb < w1.heap.size := row_ltJ HL3.out.row
    go_wp2_with fail
    refine (choose_is (some ⟨lb, 6, none⟩) _ (toldS P.told i ⟨s1, s2, s3⟩) 7 cx cy HL3.out.pw.len (by decide) HSL.out HC.out).mono ?_
    rintro e w2 ⟨rfl, hb⟩
    have HL4 := hid (HL3.out.later hb)
    have HK4 := hid (HK3.out.trans (Kept.of_below hb))
    clear hb
    cases cy with
    | true =>
      obtain rfl : R = decP { P with told := toldS P.told i ⟨s1, s2, s3⟩ } cx := by rw [← HR.out]; unfold tellP; rw [if_neg (by rw [HX.out]; decide), HC.out, if_pos rfl]
      go_wp2_with fail
      refine (lddecide_any cx HL4.out hn).mono ?_
      rintro e w3 ⟨v, rfl, ho, hl, hk⟩
      have HV := hid (And.intro (ho.mono HK4.out.size) (And.intro hl (HK4.out.trans hk)))
      clear ho hl hk
      go_wp2_with fail
      go_ret
      exact ⟨_, rfl, HV.out⟩
    | false =>
      obtain rfl : R = preP { P with told := toldS P.told i ⟨s1, s2, s3⟩ } cx := by rw [← HR.out]; unfold tellP; rw [if_neg (by rw [HX.out]; decide), HC.out, if_neg (by simp)]
      go_wp2_with fail
      refine (ldprepare_any cx HL4.out hn).mono ?_
      rintro e w3 ⟨v, rfl, ho, hl, hk⟩
      have HV := hid (And.intro (ho.mono HK4.out.size) (And.intro hl (HK4.out.trans hk)))
      clear ho hl hk
      go_wp2_with fail
      go_ret
      exact ⟨_, rfl, HV.out⟩
end
section
variable {w : World} {lb b cap id : Nat} {deal att : Int} {zs : List Int} {P : PL}
theorem ldtakes_is (f t d k a : Int) (y : Bool) (p1 p2 p3 : Int) (x : Bool) (hn : zs.length ≤ 7) (hs : P.stt < 4) (h : LD w lb b cap id deal att zs P) (hx : takesB zs.length id deal att P ⟨f, t, d, k, a, y, p1, p2, p3⟩ = x) :
    Calls Tryz.prog 189 #[.pointer (some ⟨lb, 0, none⟩), frV f t d k a y p1 p2 p3] w fun e w' => e = .returned (.bool x) ∧ Below w.heap.size w w' := by
  subst hx; exact ldtakes_any f t d k a y p1 p2 p3 hn hs h
structure HI (w W : World) (A : Nat → Addr) (lb b cap id : Nat) (deal att : Int) (zs : List Int) (P : PL) (f t d k a : Int) (y : Bool) (p1 p2 p3 : Int) : Prop where
  ld : LD W lb b cap id deal att zs P
  fr : W.heap[w.heap.size]? = some (.cells #[.int .i64 f, .int .i64 t, .int .i64 d, .int .i64 k, .int .i64 a, .bool y, .int .i64 p1, .int .i64 p2, .int .i64 p3] 130 (0, 0))
  kp : Kept (In1 lb) w W
  er : Held3 W A
theorem HI.go {W V : World} {A : Nat → Addr} {Q : PL} {f t d k a : Int} {y : Bool} {p1 p2 p3 : Int} (h : HI w W A lb b cap id deal att zs P f t d k a y p1 p2 p3) (hlb : lb < w.heap.size) (hl : LD V lb b cap id deal att zs Q) (hk : Kept (In1 lb) W V) : HI w V A lb b cap id deal att zs Q f t d k a y p1 p2 p3 :=
  ⟨hl, hk.row h.fr (fun e => by have : w.heap.size = lb := e; omega), h.kp.trans hk, h.er.kept hk (fun i hi => by rw [show i = lb from hi]; exact hl.glo)⟩
theorem HI.later {W V : World} {A : Nat → Addr} {f t d k a : Int} {y : Bool} {p1 p2 p3 : Int} (h : HI w W A lb b cap id deal att zs P f t d k a y p1 p2 p3) (hlb : lb < w.heap.size) (hb : Below W.heap.size W V) : HI w V A lb b cap id deal att zs P f t d k a y p1 p2 p3 :=
  h.go hlb (h.ld.later hb) (Kept.of_below hb)
set_option maxHeartbeats 4000000 in
set_option maxRecDepth 100000 in
theorem ldhear_any (A : Nat → Addr) (f t d k a : Int) (y : Bool) (p1 p2 p3 : Int) (he : errW zs = 0) (hs : P.stt < 4) (hE : Held3 w A) (h : LD w lb b cap id deal att zs P) :
    Calls Tryz.prog 157 #[.pointer (some ⟨lb, 0, none⟩), frV f t d k a y p1 p2 p3] w fun e w' => ∃ v, e = .returned v ∧ FrB w.heap.size w' v (outL id deal att zs.length (phear zs id deal att P ⟨f, t, d, k, a, y, p1, p2, p3⟩).2) ∧ LD w' lb b cap id deal att zs (phear zs id deal att P ⟨f, t, d, k, a, y, p1, p2, p3⟩).1 ∧ Kept (In1 lb) w w' := by
  obtain ⟨R, HR⟩ : ∃ R, Hid (phear zs id deal att P ⟨f, t, d, k, a, y, p1, p2, p3⟩ = R) := ⟨_, rfl⟩
  rw [HR.out]
  obtain ⟨x, HT⟩ : ∃ x, Hid (takesB zs.length id deal att P ⟨f, t, d, k, a, y, p1, p2, p3⟩ = x) := ⟨_, rfl⟩
  obtain ⟨W, HW⟩ : ∃ W, Hid (w.alloc (.cells #[.int .i64 f, .int .i64 t, .int .i64 d, .int .i64 k, .int .i64 a, .bool y, .int .i64 p1, .int .i64 p2, .int .i64 p3] 130) = W) := ⟨_, rfl⟩
  have HB : Hid (Below w.heap.size w W) := by rw [← HW.out]; exact (Below.refl _ _).alloc (Nat.le_refl _) _
  have hlbw : lb < w.heap.size := row_ltJ h.row
  have H1 : Hid (HI w W A lb b cap id deal att zs P f t d k a y p1 p2 p3) := ⟨h.later HB.out, by rw [← HW.out]; exact heap_alloc_new w _, Kept.of_below HB.out, hE.later HB.out⟩
  have HZ := hid he
  have HST := hid hs
  have hn := (errW_zero he).2.1
  obtain ⟨b0, b1, b2, b3, b4, b5, b6, b7, b8⟩ := nine H1.out.fr
  have hW := HW.out
  clear h hE he hs
  go_enter Tryz.func157, Tryz.ntmps157
  go_wp2_with fail
  refine (ldtakes_is f t d k a y p1 p2 p3 x hn HST.out H1.out.ld HT.out).mono ?_
  rintro e w1 ⟨rfl, hb⟩
  have H2 := hid (H1.out.later hlbw hb)
  clear hb b0 b1 b2 b3 b4 b5 b6 b7 b8 H1 HB HW hW
  cases x with
  | false =>
    obtain rfl : R = (P, none) := by rw [← HR.out]; unfold phear; rw [if_neg (by rw [HT.out]; decide)]
    go_wp2_with fail
    go_ret
    exact ⟨_, rfl, FrB.zero _ _, H2.out.ld, H2.out.kp⟩
  | true =>
    obtain ⟨-, -, ⟨q0, q1⟩, -⟩ := takesB_in HT.out
    simp only at q0 q1
    obtain ⟨m, rfl⟩ := Int.eq_ofNat_of_zero_le q0
    have hm : m < zs.length := by omega
    have hm7 : m < 7 := by omega
    obtain ⟨b0, b1, b2, b3, b4, b5, b6, b7, b8⟩ := nine H2.out.fr
    have c5 := H2.out.ld.cells.2.2.2.2.2.1
    have z5 := H2.out.ld.fz 5
    have hbd := ansS_bd hn H2.out.ld.pw.lo H2.out.ld.pw.hi hm
    have HLn := hid (H2.out.ld.setAns (ansS P.ans m) hbd.1 hbd.2)
    have hlb1 : lb < w1.heap.size := row_ltJ H2.out.ld.row
    have hp := (pow_le7 (n := m) (by omega)).1
    have hp2 := (pow_le7 (n := m) (by omega)).2
    unfold ansS at HLn
    have H3 := hid (H2.out.go hlbw (HLn.out.later (Below.refl _ _).drew) ((Kept.refl _ _).set1 _ _).drew)
    have HP : Hid (phear zs id deal att P ⟨(m : Int), t, d, k, a, y, p1, p2, p3⟩ = takenP zs P ⟨(m : Int), t, d, k, a, y, p1, p2, p3⟩) := by unfold Hid phear; rw [if_pos HT.out]
    have HN : Hid (noteP P ⟨(m : Int), t, d, k, a, y, p1, p2, p3⟩ = { P with ans := bits .or .i64 P.ans (2 ^ m) }) := rfl
    by_cases g2 : k = 2
    · subst g2
      obtain rfl : R = voteP zs.length { P with ans := bits .or .i64 P.ans (2 ^ m) } y := by rw [← HR.out, HP.out]; unfold takenP; rw [if_pos rfl]; rfl
      go_wp2_with fail
      go_region
      all_goals go_wp2_with fail
      refine (ldvote_any y hn H3.out.ld).mono ?_
      rintro e w2 ⟨v, rfl, ho, hl, hk⟩
      have HV := hid (And.intro (ho.mono H3.out.kp.size) (And.intro hl (H3.out.kp.trans hk)))
      clear ho hl hk
      go_wp2_with fail
      go_ret
      exact ⟨_, rfl, HV.out⟩
    · have e2 : (k == 2) = false := beq_eq_false_iff_ne.2 g2
      go_wp2_with fail
      go_region
      all_goals go_wp2_with fail
      refine (ldsee_any p2 H3.out.ld).mono ?_
      rintro e w2 ⟨rfl, hl, hk⟩
      have H4 := hid (H3.out.go hlbw hl hk)
      clear hl hk b0 b1 b2 b3 b4 b5 b6 b7 b8 c5 z5
      obtain ⟨b0, b1, b2, b3, b4, b5, b6, b7, b8⟩ := nine H4.out.fr
      have z4 := H4.out.ld.fz 4
      have c4 := H4.out.ld.cells.2.2.2.2.1
      have hlb2 : lb < w2.heap.size := row_ltJ H4.out.ld.row
      cases y with
      | false =>
        obtain rfl : R = ({ seeP { P with ans := bits .or .i64 P.ans (2 ^ m) } p2 with stt := 3 }, none) := by rw [← HR.out, HP.out]; unfold takenP; rw [if_neg (by exact g2), if_pos rfl]; rfl
        have HQ := hid (H4.out.go hlbw (H4.out.ld.setSt 3) ((Kept.refl _ _).set1 _ _))
        rw [stP3] at HQ
        go_wp2_with fail
        go_ret
        exact ⟨_, rfl, FrB.zero _ _, HQ.out.ld, HQ.out.kp⟩
      | true =>
        by_cases g4 : k = 4
        · subst g4
          obtain rfl : R = tellP zs (seeP { P with ans := bits .or .i64 P.ans (2 ^ m) } p2) m ⟨p1, p2, p3⟩ := by rw [← HR.out, HP.out]; unfold takenP; rw [if_neg (by simp), if_neg (by simp), if_pos rfl]; rfl
          go_wp2_with fail
          refine (ldtell_any A m ⟨p1, p2, p3⟩ hm7 HZ.out H4.out.er H4.out.ld).mono ?_
          rintro e w3 ⟨v, rfl, ho, hl, hk⟩
          have HV := hid (And.intro (ho.mono H4.out.kp.size) (And.intro hl (H4.out.kp.trans hk)))
          clear ho hl hk
          go_wp2_with fail
          go_ret
          exact ⟨_, rfl, HV.out⟩
        · have e4 : (k == 4) = false := beq_eq_false_iff_ne.2 g4
          obtain rfl : R = ackP zs (seeP { P with ans := bits .or .i64 P.ans (2 ^ m) } p2) := by rw [← HR.out, HP.out]; unfold takenP; rw [if_neg (by exact g2), if_neg (by simp), if_neg (by exact g4)]; rfl
          go_wp2_with fail
          refine (ldack_any A HZ.out H4.out.er H4.out.ld).mono ?_
          rintro e w3 ⟨v, rfl, ho, hl, hk⟩
          have HV := hid (And.intro (ho.mono H4.out.kp.size) (And.intro hl (H4.out.kp.trans hk)))
          clear ho hl hk
          go_wp2_with fail
          go_ret
          exact ⟨_, rfl, HV.out⟩
end
set_option maxRecDepth 100000 in
theorem sl_nil (b off n cap : Nat) (w : World) : (binOp .eql 22 (.slice (some ⟨b, off, none⟩) n cap) (.slice none 0 0)).run Tryz.prog w = .ok (.bool false) w := by
  rfl
set_option maxHeartbeats 1000000 in
set_option maxRecDepth 100000 in
theorem clone_any (v : Value) (zs : List Int) (w : World) (hv : IsSl w v zs) (h1 : 1 ≤ zs.length) (hl : zs.length ≤ 30) :
    Calls Tryz.prog 37 #[v] w fun e w' => ∃ v', e = .returned v' ∧ w'.ownsRow w.heap.size 3 1 v' zs.length (zs.map (Value.int .i64)) ∧ Below w.heap.size w w' := by
  obtain ⟨i0, hi, hz0, hz1, hz2⟩ := info_parts Tryz.infoInt
  obtain ⟨a, cap, rfl, hm, -, hc⟩ := hv
  have HM := hid hm
  obtain ⟨b, off, rfl, hcc⟩ := hc (by omega)
  have HC : Hid (∀ o : Obj, ∀ j u, (zs.map (Value.int .i64))[j]? = some u → (w.alloc o).cell? ((⟨b, off, none⟩ : Addr).add j) = some u) := by
    intro o j u hj
    rw [List.getElem?_map] at hj
    rcases Nat.lt_or_ge j zs.length with h | h
    · rw [List.getElem?_eq_getElem h] at hj
      simp at hj
      subst hj
      have := hcc j h
      rw [getD_lt zs j h] at this
      rw [addr_add]; exact cell_alloc _ this
    · rw [List.getElem?_eq_none h] at hj; cases hj
  clear hc hcc
  have HO : Hid (∀ u ∈ zs.map (Value.int .i64), u.oneCell' = true) := by
    intro u hu
    obtain ⟨n, -, rfl⟩ := List.mem_map.1 hu
    rfl
  have HOw : Hid ((w.alloc (.cells #[] 3)).ownsRow w.heap.size 3 1 (.slice (some ⟨w.heap.size, 0, none⟩) 0 0) 0 []) := World.ownsRow_lit w #[] 0 (Nat.le_refl _) (by unfold maxLen; omega) rfl
  have hnil := sl_nil b off zs.length cap
  go_enter Tryz.func37, Tryz.ntmps37
  go_wp2_with (at_builtin; refine wpList_append_own _ rfl _ _ 22 rfl w.heap.size 3 i0 (.int .i64 0) 1 8 Tryz.underlying22 hi hz0 hz1 hz2 rfl (by decide) _ 0 [] rfl HOw.out ⟨b, off, none⟩ zs.length cap (zs.map (Value.int .i64)) rfl (by simp) (HC.out _) HO.out (by have := HM.out; omega) (by omega) (by simp) ?_)
  intro v' w1 hown hgrow _
  have ho2 : w1.ownsRow w.heap.size 3 1 v' zs.length (zs.map (Value.int .i64)) := by simpa using hown
  clear hown
  have HB : Hid (Below w.heap.size w w1) := ((Below.refl _ _).alloc (Nat.le_refl _) (.cells #[] 3)).grown hgrow (by simp) (fun j hj => (HOw.out.lt j hj).1)
  clear hgrow
  go_wp2_with fail
  go_ret
  exact ⟨_, rfl, ho2, HB.out⟩
def P0 : PL := ⟨0, 0, [⟨0, 0, 0⟩, ⟨0, 0, 0⟩, ⟨0, 0, 0⟩, ⟨0, 0, 0⟩, ⟨0, 0, 0⟩, ⟨0, 0, 0⟩, ⟨0, 0, 0⟩], 0, 0, false⟩
theorem P0_w (n : Nat) : PW n P0 := ⟨rfl, Int.le_refl _, Int.pow_pos (by decide)⟩
theorem check_ok (A : Nat → Addr) (v : Value) (zs : List Int) (w : World) (hv : IsSl w v zs) (hE : Held3 w A) (he : errW zs = 0) :
    Calls Tryz.prog 36 #[v] w fun e w' => e = .returned .nilIface ∧ w' = w := by
  have := check_any A v zs w hv hE
  rw [he] at this
  exact this
set_option maxHeartbeats 1000000 in
set_option maxRecDepth 100000 in
theorem ldbegin_ok (A : Nat → Addr) (v : Value) (zs : List Int) (id : Nat) (deal att : Int) (w : World) (hv : IsSl w v zs) (hE : Held3 w A) (he : errW zs = 0) (hid' : id < zs.length) (h0 : 0 ≤ deal) (h1 : deal < 6) :
    Calls Tryz.prog 139 #[.int .i64 (id : Int), .int .i64 deal, v, .int .i64 att] w fun e w' => ∃ lb b cap, e = .returned (.tuple #[.pointer (some ⟨lb, 0, none⟩), .nilIface]) ∧ LD w' lb b cap id deal att zs P0 ∧ Below w.heap.size w w' ∧ w.heap.size ≤ b := by
  have HS := hid hv
  have HE := hid hE
  have HZ := hid he
  obtain ⟨q1, q2, -, -⟩ := errW_zero he
  have hlen : (id : Int) < (zs.length : Int) := by omega
  have g1 : ¬ (zs.length : Int) ≤ (id : Int) := by omega
  obtain ⟨a, cap0, rfl, -, -, -⟩ := hv
  clear hE he
  go_enter Tryz.func139, Tryz.ntmps139
  go_wp2_with (go_at_call 36; refine (check_ok A _ zs _ HS.out HE.out HZ.out).mono ?_; rintro e w1 ⟨rfl, rfl⟩)
  refine (clone_any _ zs _ HS.out q1 (by omega)).mono ?_
  rintro e w1 ⟨v', rfl, ho, hb⟩
  rcases ho.2 with ⟨-, hz⟩ | ⟨g, cap, cur, rfl, hg, hgg, hle, hcap, hsz, htk⟩
  · omega
  have HOw := hid ho
  have HB := hid hb
  clear ho hb hgg hle hcap hsz htk
  go_wp2_with fail
  go_ret2
  have hg2 : g < w1.heap.size := by
    rcases HOw.out.2 with ⟨hx, -⟩ | ⟨g', cap', cur', hx, -, hgg', -⟩
    · cases hx
    · cases hx
      exact row_ltJ hgg'
  refine ⟨w1.heap.size, g, cap, rfl, ⟨heap_alloc_new w1 _, fun i hi => cell_alloc _ ?_, hg2, P0_w _, fun j => Nat.lt_of_lt_of_le (gW_lt HE.out j) HB.out.size⟩, HB.out.alloc HB.out.size _, hg⟩
  have := HOw.out.cellAt i (by omega)
  rw [Nat.zero_add, this]
  simp [hi]
set_option maxRecDepth 100000 in
theorem ldBegin_ok (A : Nat → Addr) (v : Value) (zs : List Int) (id : Nat) (deal : Int) (w : World) (hv : IsSl w v zs) (hE : Held3 w A) (he : errW zs = 0) (hid' : id < zs.length) (h0 : 0 ≤ deal) (h1 : deal < 6) :
    Calls Tryz.prog 84 #[.int .i64 (id : Int), .int .i64 deal, v] w fun e w' => ∃ lb b cap, e = .returned (.tuple #[.pointer (some ⟨lb, 0, none⟩), .nilIface]) ∧ LD w' lb b cap id deal 0 zs P0 ∧ Below w.heap.size w w' ∧ w.heap.size ≤ b := by
  have HC := hid (ldbegin_ok A v zs id deal 0 w hv hE he hid' h0 h1)
  obtain ⟨a, cap0, rfl, -, -, -⟩ := hv
  clear hE he
  go_enter Tryz.func84, Tryz.ntmps84
  go_wp2_with fail
  refine HC.out.mono ?_
  rintro e w1 ⟨lb, b, cap, rfl, hl, hb, hg⟩
  have HL := hid (And.intro hl (And.intro hb hg))
  clear hl hb hg
  go_wp2_with fail
  go_ret2
  exact ⟨lb, b, cap, rfl, HL.out⟩
set_option maxRecDepth 100000 in
theorem ldTry_ok (A : Nat → Addr) (v : Value) (zs : List Int) (id : Nat) (deal att : Int) (w : World) (hv : IsSl w v zs) (hE : Held3 w A) (he : errW zs = 0) (hid' : id < zs.length) (h0 : 0 ≤ deal) (h1 : deal < 6) (a0 : 1 ≤ att) (a1 : att ≤ 1048576) :
    Calls Tryz.prog 155 #[.int .i64 (id : Int), .int .i64 deal, v, .int .i64 att] w fun e w' => ∃ lb b cap, e = .returned (.tuple #[.pointer (some ⟨lb, 0, none⟩), .nilIface]) ∧ LD w' lb b cap id deal att zs P0 ∧ Below w.heap.size w w' ∧ w.heap.size ≤ b := by
  have HC := hid (ldbegin_ok A v zs id deal att w hv hE he hid' h0 h1)
  obtain ⟨a, cap0, rfl, -, -, -⟩ := hv
  have g1 : ¬ att < 1 := by omega
  have g2 : ¬ 1048576 < att := by omega
  clear hE he
  go_enter Tryz.func155, Tryz.ntmps155
  go_wp2_with fail
  refine HC.out.mono ?_
  rintro e w1 ⟨lb, b, cap, rfl, hl, hb, hg⟩
  have HL := hid (And.intro hl (And.intro hb hg))
  clear hl hb hg
  go_wp2_with fail
  go_ret2
  exact ⟨lb, b, cap, rfl, HL.out⟩
theorem ldState_any {w : World} {lb b cap id : Nat} {deal att : Int} {zs : List Int} {P : PL} (h : LD w lb b cap id deal att zs P) :
    Calls Tryz.prog 87 #[.pointer (some ⟨lb, 0, none⟩)] w fun e w' => e = .returned (.string (stP P.stt)) ∧ w' = w := by
  have c4 := h.cells.2.2.2.2.1
  clear h
  go_enter Tryz.func87, Tryz.ntmps87
  go_wp2_with fail
  go_ret
  exact ⟨rfl, rfl⟩
theorem ldSeen_any {w : World} {lb b cap id : Nat} {deal att : Int} {zs : List Int} {P : PL} (h : LD w lb b cap id deal att zs P) :
    Calls Tryz.prog 187 #[.pointer (some ⟨lb, 0, none⟩)] w fun e w' => e = .returned (.int .i64 P.seen) ∧ w' = w := by
  have c28 := h.cells.2.2.2.2.2.2.2.1
  clear h
  go_enter Tryz.func187, Tryz.ntmps187
  go_wp2_with fail
  go_ret
  exact ⟨rfl, rfl⟩
structure E3 where
  s : Int
  d : Int
  p : Int
def e3L (x : E3) : List Value := [.int .i64 x.s, .int .i64 x.d, .int .i64 x.p]
def evCells (L : List E3) : List Value := L.flatMap e3L
def EL (w : World) (a : Option Addr) (L : List E3) : Prop :=
  ∀ i (h : i < L.length), ∃ b off, a = some ⟨b, off, none⟩ ∧ w.cell? ⟨b, off + i * 3, none⟩ = some (.int .i64 (L[i]'h).s) ∧ w.cell? ⟨b, off + i * 3 + 1, none⟩ = some (.int .i64 (L[i]'h).d) ∧ w.cell? ⟨b, off + i * 3 + 2, none⟩ = some (.int .i64 (L[i]'h).p)
theorem EL.later {w w' : World} {a : Option Addr} {L : List E3} (h : EL w a L) (hb : Below w.heap.size w w') : EL w' a L := fun i hi => by
  obtain ⟨b, off, ha, h0, h1, h2⟩ := h i hi
  exact ⟨b, off, ha, cell_later hb h0, cell_later hb h1, cell_later hb h2⟩
theorem EL.nil (w : World) (a : Option Addr) : EL w a [] := fun _ h => absurd h (Nat.not_lt_zero _)
theorem evCells_get : ∀ (L : List E3) (i j : Nat) (h : i < L.length), j < 3 → (evCells L)[i * 3 + j]? = (e3L (L[i]'h))[j]?
  | [], i, _, h, _ => absurd h (Nat.not_lt_zero _)
  | x :: L, 0, j, _, hj => by
    show (e3L x ++ evCells L)[0 * 3 + j]? = _
    rw [Nat.zero_mul, Nat.zero_add, List.getElem?_append_left (by show j < 3; exact hj)]
    rfl
  | x :: L, i + 1, j, h, hj => by
    show (e3L x ++ evCells L)[(i + 1) * 3 + j]? = _
    rw [List.getElem?_append_right (by show 3 ≤ (i + 1) * 3 + j; omega), show (i + 1) * 3 + j - (e3L x).length = i * 3 + j by show (i + 1) * 3 + j - 3 = i * 3 + j; omega]
    exact evCells_get L i j (by simpa using h) hj
theorem own_el {w : World} {base : Nat} {t : TypeId} {v : Value} {L : List E3} (h : w.ownsRow base t 3 v L.length (evCells L)) : ∃ ad cap, v = .slice ad L.length cap ∧ L.length ≤ cap ∧ cap ≤ maxLen ∧ EL w ad L := by
  have hc := h
  rcases h.2 with ⟨rfl, h0⟩ | ⟨g, cap, cur, rfl, hb, hg, hle, hcap, hsz, htk⟩
  · have e : L = [] := List.length_eq_zero_iff.1 h0
    subst e
    exact ⟨none, 0, rfl, Nat.le_refl _, Nat.zero_le _, EL.nil _ _⟩
  · refine ⟨_, cap, rfl, hle, hcap, fun i hi => ⟨g, 0, rfl, ?_, ?_, ?_⟩⟩
    · have := hc.cellAt (i * 3 + 0) (by omega)
      rw [evCells_get L i 0 hi (by decide)] at this
      rw [Nat.zero_add]; exact this
    · have := hc.cellAt (i * 3 + 1) (by omega)
      rw [evCells_get L i 1 hi (by decide)] at this
      rw [Nat.zero_add]; exact this
    · have := hc.cellAt (i * 3 + 2) (by omega)
      rw [evCells_get L i 2 hi (by decide)] at this
      rw [Nat.zero_add]; exact this
end Go.Proofs.YtbaamegnmeohoacGreatDoor
namespace Go.Proofs.YtbaamegnmeohoacGreatDoor
structure PN where
  R : Nat → Bool
  B : ByteArray
  l : Int
  over : Bool
  ld : Nat → Option (Int × PL)
structure PX where
  nd : Nat → PN
  br : Nat → Nat → Bool
  fly : List F9
  evs : List E3
def dlN (N : PN) : Nat → Nat × St := dealL N.B.data.toList
def stN (N : PN) (d : Nat) : St := (dlN N d).2
def upN (N : PN) : Bool := N.l != -2
def fallN (N : PN) : PN := { N with l := -2, ld := fun _ => none }
def setLd (N : PN) (d : Nat) (x : Int × PL) : PN := { N with ld := fun e => if e = d then some x else N.ld e }
def setNd (V : PX) (i : Nat) (N : PN) : PX := { V with nd := fun k => if k = i then N else V.nd k }
def sendX (V : PX) (L : List F9) : PX := { V with fly := V.fly ++ L }
def gHN (N : PN) (f : F9) : HOut := hearL (stN N f.d.toNat) (N.R f.d.toNat) f.k.toNat f.a.toNat f.ph.toNat
def oHN (N : PN) (f : F9) : POut := pOut (dlN N) N.over N.B N.l f.d.toNat (gHN N f).st.ph (gHN N f).st.pr (gHN N f).st.at_
def hearN (N : PN) (f : F9) : PN := if (oHN N f).c = 6 then fallN { N with B := (oHN N f).b, over := (oHN N f).over } else { N with B := (oHN N f).b, l := (oHN N f).l, over := (oHN N f).over }
def ansN (id : Nat) (N : PN) (f : F9) : List F9 := if (oHN N f).c = 0 ∧ (gHN N f).k ≠ 0 then [⟨id, f.f, f.d, (gHN N f).k, f.a, (gHN N f).yes, (gHN N f).st.ph, (gHN N f).st.pr, (gHN N f).st.at_⟩] else []
def noteE (E : List E3) (i d was is : Nat) : List E3 := if is ≠ was ∧ finB is = true ∧ E.length < 500 then E ++ [⟨i, d, is⟩] else E
def hearX (V : PX) (i : Nat) (f : F9) : PX := { setNd V i (hearN (V.nd i) f) with evs := noteE V.evs i f.d.toNat (stN (V.nd i) f.d.toNat).ph (stN (hearN (V.nd i) f) f.d.toNat).ph }
def leadX (zs : List Int) (V : PX) (i d : Nat) (f : F9) : PX := match (V.nd i).ld d with
  | none => V
  | some x => setNd V i (setLd (V.nd i) d (x.1, (phear zs i d x.1 x.2 f).1))
def leadO (zs : List Int) (V : PX) (i d : Nat) (f : F9) : List F9 := match (V.nd i).ld d with
  | none => []
  | some x => outL i d x.1 zs.length (phear zs i d x.1 x.2 f).2
def isAns (k : Int) : Bool := decide (k = 2 ∨ k = 4 ∨ k = 6)
def arriveX (zs : List Int) (V : PX) (f : F9) : PX := if isAns f.k = true then leadX zs V f.t.toNat f.d.toNat f else hearX V f.t.toNat f
def arriveO (zs : List Int) (V : PX) (f : F9) : List F9 := if isAns f.k = true then leadO zs V f.t.toNat f.d.toNat f else ansN f.t.toNat (V.nd f.t.toNat) f
def brX (V : PX) (a b : Nat) : Bool := V.br (min a b) (max a b)
def reachB (V : PX) (f : F9) : Bool := upN (V.nd f.t.toNat) && (f.f == f.t || !brX V f.f.toNat f.t.toNat)
def takeX (V : PX) (k : Nat) : PX := { V with fly := V.fly.eraseIdx k }
def deliverX (zs : List Int) (V : PX) (k : Nat) (f : F9) : PX := if reachB V f = true then sendX (arriveX zs (takeX V k) f) (arriveO zs (takeX V k) f) else takeX V k
def aboveN (N : PN) (d : Nat) : Int := match N.ld d with
  | none => (stN N d).pr
  | some x => max ((stN N d).pr : Int) x.2.seen
def attemptX (n s : Nat) (above : Int) : Int := above + 1 + ((s : Int) + n - (above + 1) % n) % n
def electF (s d : Nat) (a : Int) : F9 := ⟨s, s, d, 3, a, false, 0, 0, 0⟩
def electL (s d : Nat) (a : Int) (n : Nat) : List F9 := (toL s d 3 a 0 n).eraseIdx s
def hearsL (zs : List Int) (s d : Nat) (a : Int) : PL → List F9 → PL × List F9
  | P, [] => (P, [])
  | P, f :: r => ((hearsL zs s d a (phear zs s d a P f).1 r).1, outL s d a zs.length (phear zs s d a P f).2 ++ (hearsL zs s d a (phear zs s d a P f).1 r).2)
def tryX (zs : List Int) (V : PX) (s d : Nat) (a : Int) : PX :=
  if 1048576 < a then V
  else if upN (hearN (V.nd s) (electF s d a)) = false then hearX V s (electF s d a)
  else sendX (setNd (hearX V s (electF s d a)) s (setLd (hearN (V.nd s) (electF s d a)) d (a, (hearsL zs s d a P0 (ansN s (V.nd s) (electF s d a))).1)))
    (electL s d a zs.length ++ (hearsL zs s d a P0 (ansN s (V.nd s) (electF s d a))).2)
def tickD (zs : List Int) (V : PX) (s d : Nat) : PX :=
  @ite PX (stN (V.nd s) d = St.zero) (stEq _ _) V (if finB (stN (V.nd s) d).ph = true then sendX V (toL s d 7 (stN (V.nd s) d).pr (stN (V.nd s) d).ph zs.length)
  else tryX zs V s d (attemptX zs.length s (aboveN (V.nd s) d)))
def tickX (zs : List Int) (s : Nat) : Nat → Nat → PX → PX
  | 0, _, V => V
  | k + 1, d, V => if upN ((tickD zs V s d).nd s) = true then tickX zs s k (d + 1) (tickD zs V s d) else tickD zs V s d
def heldX (n : Nat) (V : PX) (d : Nat) : Bool := (List.range n).any fun i => ((V.nd i).ld d).isSome || !(decide ((stN (V.nd i) d).ph = 0 ∧ (stN (V.nd i) d).pr = 0 ∧ (stN (V.nd i) d).at_ = 0))
def beginX (zs : List Int) (V : PX) (s d : Nat) : PX := sendX (setNd V s (setLd (V.nd s) d (0, P0))) (toL s d 1 0 0 zs.length)
def refuseX (V : PX) (s d : Nat) : PX := setNd V s { V.nd s with R := updR (V.nd s).R d }
def twiceX (V : PX) (k : Nat) (f : F9) : PX := { V with fly := V.fly.take k ++ f :: V.fly.drop k }
def linkX (V : PX) (a b : Nat) (whole : Bool) : PX := { V with br := fun x y => if x = min a b ∧ y = max a b then !whole else V.br x y }
def cutX (V : PX) (s : Nat) (n : Int) : PX := setNd V s { V.nd s with l := cL (V.nd s).l n }
def downX (V : PX) (s : Nat) : PX := setNd V s (fallN (V.nd s))
def upX (V : PX) (s : Nat) : PX := setNd V s { V.nd s with l := -1, over := false, R := fun _ => false }
def newN (n : Nat) : PN := ⟨fun _ => false, zeroB n, -1, false, fun _ => none⟩
def newX : PX := ⟨fun _ => newN 512, fun _ _ => false, [], []⟩
structure NI (n : Nat) (N : PN) (m : Nat) : Prop where
  gd : ∀ d, d < 6 → (dlN N d).2.good
  nm : ∀ d, d < 6 → (dlN N d).1 ≤ m
  sz : N.B.size = 512
  up : N.l ≠ -2 → N.over = false
  l0 : -2 ≤ N.l
  l1 : N.l ≤ 9223372036854775807
  ld : ∀ d x, N.ld d = some x → N.l ≠ -2 ∧ (0 ≤ x.1 ∧ x.1 ≤ 1048576) ∧ x.2.stt < 4 ∧ (0 ≤ x.2.seen ∧ x.2.seen ≤ 1048576) ∧ PW n x.2
structure FI (n : Nat) (f : F9) : Prop where
  f0 : 0 ≤ f.f
  f1 : f.f < n
  t0 : 0 ≤ f.t
  t1 : f.t < n
  ok : frOk f.f f.t f.d f.k f.a f.ph f.pr f.pa
structure XI (zs : List Int) (V : PX) (m : Nat) : Prop where
  he : errW zs = 0
  nd : ∀ i, i < zs.length → NI zs.length (V.nd i) m
  fr : ∀ f, f ∈ V.fly → FI zs.length f
  fl : V.fly.length ≤ 1000 * m
  ev : V.evs.length ≤ 500
end Go.Proofs.YtbaamegnmeohoacGreatDoor
