/-
  THE PROGRAM's LEAD: hearTell.
-/
import Derived.Test.YtkopfpaldmapdaaDoorQ5
import Derived.BigRegion
import Derived.RegionTactic
namespace Go.Proofs.YtkopfpaldmapdaaDoor
open Go.RowKit

section
variable {w : World} {lb b cap id : Nat} {deal att : Int} {zs : List Int} {P : PL}
theorem LD.setTold (h : LD w lb b cap id deal att zs P) {i : Nat} (hi : i < 7) (s : S3) :
    LD (((w.setCell ⟨lb, 6 + i * 3, none⟩ (.int .i64 s.p)).setCell ⟨lb, 6 + i * 3 + 1, none⟩ (.int .i64 s.r)).setCell ⟨lb, 6 + i * 3 + 2, none⟩ (.int .i64 s.a)) lb b cap id deal att zs { P with told := toldS P.told i s } := by
  obtain ⟨t0, t1, t2, t3, t4, t5, t6, e⟩ := seven h.pw.len
  have hP : P = { P with told := [t0, t1, t2, t3, t4, t5, t6] } := by rw [← e]
  have hw : PW zs.length P := h.pw
  rw [hP] at h
  rw [e]
  have key : ∀ L : List S3, L.length = 7 → PW zs.length { P with told := L } := fun L hL => ⟨hL, hw.lo, hw.hi⟩
  match i, hi with
  | 0, _ => exact ((h.set (Q := { P with told := [⟨s.p, t0.r, t0.a⟩, t1, t2, t3, t4, t5, t6] }) (key _ rfl) rfl).set (Q := { P with told := [⟨s.p, s.r, t0.a⟩, t1, t2, t3, t4, t5, t6] }) (key _ rfl) rfl).set (key _ rfl) rfl
  | 1, _ => exact ((h.set (Q := { P with told := [t0, ⟨s.p, t1.r, t1.a⟩, t2, t3, t4, t5, t6] }) (key _ rfl) rfl).set (Q := { P with told := [t0, ⟨s.p, s.r, t1.a⟩, t2, t3, t4, t5, t6] }) (key _ rfl) rfl).set (key _ rfl) rfl
  | 2, _ => exact ((h.set (Q := { P with told := [t0, t1, ⟨s.p, t2.r, t2.a⟩, t3, t4, t5, t6] }) (key _ rfl) rfl).set (Q := { P with told := [t0, t1, ⟨s.p, s.r, t2.a⟩, t3, t4, t5, t6] }) (key _ rfl) rfl).set (key _ rfl) rfl
  | 3, _ => exact ((h.set (Q := { P with told := [t0, t1, t2, ⟨s.p, t3.r, t3.a⟩, t4, t5, t6] }) (key _ rfl) rfl).set (Q := { P with told := [t0, t1, t2, ⟨s.p, s.r, t3.a⟩, t4, t5, t6] }) (key _ rfl) rfl).set (key _ rfl) rfl
  | 4, _ => exact ((h.set (Q := { P with told := [t0, t1, t2, t3, ⟨s.p, t4.r, t4.a⟩, t5, t6] }) (key _ rfl) rfl).set (Q := { P with told := [t0, t1, t2, t3, ⟨s.p, s.r, t4.a⟩, t5, t6] }) (key _ rfl) rfl).set (key _ rfl) rfl
  | 5, _ => exact ((h.set (Q := { P with told := [t0, t1, t2, t3, t4, ⟨s.p, t5.r, t5.a⟩, t6] }) (key _ rfl) rfl).set (Q := { P with told := [t0, t1, t2, t3, t4, ⟨s.p, s.r, t5.a⟩, t6] }) (key _ rfl) rfl).set (key _ rfl) rfl
  | 6, _ => exact ((h.set (Q := { P with told := [t0, t1, t2, t3, t4, t5, ⟨s.p, t6.r, t6.a⟩] }) (key _ rfl) rfl).set (Q := { P with told := [t0, t1, t2, t3, t4, t5, ⟨s.p, s.r, t6.a⟩] }) (key _ rfl) rfl).set (key _ rfl) rfl
theorem LD.told (h : LD w lb b cap id deal att zs P) : SL w (some ⟨lb, 6, none⟩) P.told := by
  obtain ⟨t0, t1, t2, t3, t4, t5, t6, e⟩ := seven h.pw.len
  have hr := h.row
  unfold pC at hr
  rw [e] at hr ⊢
  intro i hi
  refine ⟨lb, 6, rfl, ?_⟩
  match i, (show i < 7 from hi) with
  | 0, _ => refine ⟨?_, ?_, ?_⟩ <;> rw [cell_of_row _ _ _ _ _ _ hr] <;> rfl
  | 1, _ => refine ⟨?_, ?_, ?_⟩ <;> rw [cell_of_row _ _ _ _ _ _ hr] <;> rfl
  | 2, _ => refine ⟨?_, ?_, ?_⟩ <;> rw [cell_of_row _ _ _ _ _ _ hr] <;> rfl
  | 3, _ => refine ⟨?_, ?_, ?_⟩ <;> rw [cell_of_row _ _ _ _ _ _ hr] <;> rfl
  | 4, _ => refine ⟨?_, ?_, ?_⟩ <;> rw [cell_of_row _ _ _ _ _ _ hr] <;> rfl
  | 5, _ => refine ⟨?_, ?_, ?_⟩ <;> rw [cell_of_row _ _ _ _ _ _ hr] <;> rfl
  | 6, _ => refine ⟨?_, ?_, ?_⟩ <;> rw [cell_of_row _ _ _ _ _ _ hr] <;> rfl
theorem LD.toldAt (h : LD w lb b cap id deal att zs P) {i : Nat} (hi : i < 7) : ∃ x y z, w.cell? ⟨lb, 6 + i * 3, none⟩ = some x ∧ w.cell? ⟨lb, 6 + i * 3 + 1, none⟩ = some y ∧ w.cell? ⟨lb, 6 + i * 3 + 2, none⟩ = some z := by
  obtain ⟨b', off, e, h0, h1, h2⟩ := h.told i (by rw [h.pw.len]; exact hi)
  cases e
  exact ⟨_, _, _, h0, h1, h2⟩
theorem choose_is (a : Option Addr) (cap' : Nat) (L : List S3) (m : Nat) (x : Int) (y : Bool) (hm : L.length = m) (hl : m ≤ 200) (hL : SL w a L) (hx : chooseL L = (x, y)) :
    Calls Tryd.prog 85 #[.slice a m cap'] w fun e w' => e = .returned (.tuple #[.int .i64 x, .bool y]) ∧ Below w.heap.size w w' := by
  subst hm
  have := choose_any a cap' L w hl hL
  rw [hx] at this
  exact this
set_option maxHeartbeats 2000000 in
set_option maxRecDepth 100000 in
theorem ldtell_any (A : Nat → Addr) (i : Nat) (s : S3) (hi : i < 7) (he : errW zs = 0) (hE : Held3 w A) (h : LD w lb b cap id deal att zs P) :
    Calls Tryd.prog 54 #[.pointer (some ⟨lb, 0, none⟩), .int .i64 (i : Int), .agg #[.int .i64 s.p, .int .i64 s.r, .int .i64 s.a]] w fun e w' => ∃ v, e = .returned v ∧ FrB w.heap.size w' v (outL id deal att zs.length (tellP zs P i s).2) ∧ LD w' lb b cap id deal att zs (tellP zs P i s).1 ∧ Kept (In1 lb) w w' := by
  obtain ⟨s1, s2, s3⟩ := s
  simp only
  obtain ⟨x, HX⟩ : ∃ x, Hid (enoughB zs P.ans = x) := ⟨_, rfl⟩
  obtain ⟨R, HR⟩ : ∃ R, Hid (tellP zs P i ⟨s1, s2, s3⟩ = R) := ⟨_, rfl⟩
  rw [HR.out]
  obtain ⟨W, HW⟩ : ∃ W, Hid (w.alloc (.cells #[.int .i64 s1, .int .i64 s2, .int .i64 s3] 34) = W) := ⟨_, rfl⟩
  have HB : Hid (Below w.heap.size w W) := by rw [← HW.out]; exact (Below.refl _ _).alloc (Nat.le_refl _) _
  have HRw : Hid (W.heap[w.heap.size]? = some (.cells #[.int .i64 s1, .int .i64 s2, .int .i64 s3] 34 (0, 0))) := by rw [← HW.out]; exact heap_alloc_new w _
  have b0 : W.cell? ⟨w.heap.size, 0, none⟩ = some (.int .i64 s1) := by rw [cell_of_row _ _ _ _ _ _ HRw.out]; rfl
  have b1 : W.cell? ⟨w.heap.size, 1, none⟩ = some (.int .i64 s2) := by rw [cell_of_row _ _ _ _ _ _ HRw.out]; rfl
  have b2 : W.cell? ⟨w.heap.size, 2, none⟩ = some (.int .i64 s3) := by rw [cell_of_row _ _ _ _ _ _ HRw.out]; rfl
  have HL := hid (h.later HB.out)
  have HE := hid (hE.later HB.out)
  have HZ := hid he
  have hn := (errW_zero he).2.1
  have hlb : lb < w.heap.size := row_ltJ h.row
  obtain ⟨u0, u1, u2, c0, c1, c2⟩ := HL.out.toldAt hi
  have z0 := HL.out.fz (6 + i * 3)
  have z1 := HL.out.fz (6 + i * 3 + 1)
  have z2 := HL.out.fz (6 + i * 3 + 2)
  have hW := HW.out
  have HL2 := hid ((HL.out.setTold hi ⟨s1, s2, s3⟩).later (Below.refl _ _).drew)
  have HK2 : Hid (Kept (In1 lb) W (((W.setCell ⟨lb, 6 + i * 3, none⟩ (.int .i64 s1)).setCell ⟨lb, 6 + i * 3 + 1, none⟩ (.int .i64 s2)).setCell ⟨lb, 6 + i * 3 + 2, none⟩ (.int .i64 s3)).drew) := ((((Kept.refl _ _).set1 _ _).set1 _ _).set1 _ _).drew
  have HE2 := hid (HE.out.kept HK2.out (fun k hk => by rw [show k = lb from hk]; exact h.glo))
  have HX2 : Hid (enoughB zs ({ P with told := toldS P.told i ⟨s1, s2, s3⟩ } : PL).ans = x) := HX.out
  clear h hE he
  have hi2 : (i : Int) < 7 := by omega
  go_enter Tryd.func54, Tryd.ntmps54
  go_wp2_with fail
  go_region
  all_goals go_wp2_with fail
  refine (ldenough_is A x HL2.out HZ.out HE2.out HX2.out).mono ?_
  rintro e w1 ⟨rfl, hb⟩
  have HL3 := hid (HL2.out.later hb)
  have HK3 := hid (((Kept.of_below (S := In1 lb) HB.out).trans HK2.out).trans (Kept.of_below hb))
  clear hb b0 b1 b2 c0 c1 c2 z0 z1 z2 u0 u1 u2
  cases x with
  | false =>
    obtain rfl : R = ({ P with told := toldS P.told i ⟨s1, s2, s3⟩ }, none) := by rw [← HR.out]; unfold tellP; rw [if_pos HX.out]
    go_wp2_with fail
    go_ret
    exact ⟨_, rfl, FrB.zero _ _, HL3.out, HK3.out⟩
  | true =>
    obtain ⟨⟨cx, cy⟩, HC⟩ : ∃ z, Hid (chooseL (toldS P.told i ⟨s1, s2, s3⟩) = z) := ⟨_, rfl⟩
    have HSL := hid HL3.out.told
    have hlb3 : lb < w1.heap.size := row_ltJ HL3.out.row
    go_wp2_with fail
    refine (choose_is (some ⟨lb, 6, none⟩) _ (toldS P.told i ⟨s1, s2, s3⟩) 7 cx cy HL3.out.pw.len (by decide) HSL.out HC.out).mono ?_
    rintro e w2 ⟨rfl, hb⟩
    have HL4 := hid (HL3.out.later hb)
    have HK4 := hid (HK3.out.trans (Kept.of_below hb))
    clear hb
    cases cy with
    | true =>
      obtain rfl : R = decP { P with told := toldS P.told i ⟨s1, s2, s3⟩ } cx := by rw [← HR.out]; unfold tellP; rw [if_neg (by rw [HX.out]; decide), HC.out, if_pos rfl]
      go_wp2_with fail
      refine (lddecide_any cx HL4.out hn).mono ?_
      rintro e w3 ⟨v, rfl, ho, hl, hk⟩
      have HV := hid (And.intro (ho.mono HK4.out.size) (And.intro hl (HK4.out.trans hk)))
      clear ho hl hk
      go_wp2_with fail
      go_ret
      exact ⟨_, rfl, HV.out⟩
    | false =>
      obtain rfl : R = preP { P with told := toldS P.told i ⟨s1, s2, s3⟩ } cx := by rw [← HR.out]; unfold tellP; rw [if_neg (by rw [HX.out]; decide), HC.out, if_neg (by simp)]
      go_wp2_with fail
      refine (ldprepare_any cx HL4.out hn).mono ?_
      rintro e w3 ⟨v, rfl, ho, hl, hk⟩
      have HV := hid (And.intro (ho.mono HK4.out.size) (And.intro hl (HK4.out.trans hk)))
      clear ho hl hk
      go_wp2_with fail
      go_ret
      exact ⟨_, rfl, HV.out⟩
end
end Go.Proofs.YtkopfpaldmapdaaDoor
