/-
  THE PROGRAM's LEAD: Hear.
-/
import Derived.Test.YtkopfpaldmapdaaDoorQ6
namespace Go.Proofs.YtkopfpaldmapdaaDoor
open Go.RowKit

section
variable {w : World} {lb b cap id : Nat} {deal att : Int} {zs : List Int} {P : PL}
theorem ldtakes_is (f t d k a : Int) (y : Bool) (p1 p2 p3 : Int) (x : Bool) (hn : zs.length ≤ 7) (hs : P.stt < 4) (h : LD w lb b cap id deal att zs P) (hx : takesB zs.length id deal att P ⟨f, t, d, k, a, y, p1, p2, p3⟩ = x) :
    Calls Tryd.prog 51 #[.pointer (some ⟨lb, 0, none⟩), frV f t d k a y p1 p2 p3] w fun e w' => e = .returned (.bool x) ∧ Below w.heap.size w w' := by
  subst hx; exact ldtakes_any f t d k a y p1 p2 p3 hn hs h
/-- Along Hear: the lead, the frame's row, what has turned, the errors. -/
structure HI (w W : World) (A : Nat → Addr) (lb b cap id : Nat) (deal att : Int) (zs : List Int) (P : PL) (f t d k a : Int) (y : Bool) (p1 p2 p3 : Int) : Prop where
  ld : LD W lb b cap id deal att zs P
  fr : W.heap[w.heap.size]? = some (.cells #[.int .i64 f, .int .i64 t, .int .i64 d, .int .i64 k, .int .i64 a, .bool y, .int .i64 p1, .int .i64 p2, .int .i64 p3] 36 (0, 0))
  kp : Kept (In1 lb) w W
  er : Held3 W A
theorem HI.go {W V : World} {A : Nat → Addr} {Q : PL} {f t d k a : Int} {y : Bool} {p1 p2 p3 : Int} (h : HI w W A lb b cap id deal att zs P f t d k a y p1 p2 p3) (hlb : lb < w.heap.size) (hl : LD V lb b cap id deal att zs Q) (hk : Kept (In1 lb) W V) : HI w V A lb b cap id deal att zs Q f t d k a y p1 p2 p3 :=
  ⟨hl, hk.row h.fr (fun e => by have : w.heap.size = lb := e; omega), h.kp.trans hk, h.er.kept hk (fun i hi => by rw [show i = lb from hi]; exact hl.glo)⟩
theorem HI.later {W V : World} {A : Nat → Addr} {f t d k a : Int} {y : Bool} {p1 p2 p3 : Int} (h : HI w W A lb b cap id deal att zs P f t d k a y p1 p2 p3) (hlb : lb < w.heap.size) (hb : Below W.heap.size W V) : HI w V A lb b cap id deal att zs P f t d k a y p1 p2 p3 :=
  h.go hlb (h.ld.later hb) (Kept.of_below hb)
set_option maxHeartbeats 4000000 in
set_option maxRecDepth 100000 in
theorem ldhear_any (A : Nat → Addr) (f t d k a : Int) (y : Bool) (p1 p2 p3 : Int) (he : errW zs = 0) (hs : P.stt < 4) (hE : Held3 w A) (h : LD w lb b cap id deal att zs P) :
    Calls Tryd.prog 35 #[.pointer (some ⟨lb, 0, none⟩), frV f t d k a y p1 p2 p3] w fun e w' => ∃ v, e = .returned v ∧ FrB w.heap.size w' v (outL id deal att zs.length (phear zs id deal att P ⟨f, t, d, k, a, y, p1, p2, p3⟩).2) ∧ LD w' lb b cap id deal att zs (phear zs id deal att P ⟨f, t, d, k, a, y, p1, p2, p3⟩).1 ∧ Kept (In1 lb) w w' := by
  obtain ⟨R, HR⟩ : ∃ R, Hid (phear zs id deal att P ⟨f, t, d, k, a, y, p1, p2, p3⟩ = R) := ⟨_, rfl⟩
  rw [HR.out]
  obtain ⟨x, HT⟩ : ∃ x, Hid (takesB zs.length id deal att P ⟨f, t, d, k, a, y, p1, p2, p3⟩ = x) := ⟨_, rfl⟩
  obtain ⟨W, HW⟩ : ∃ W, Hid (w.alloc (.cells #[.int .i64 f, .int .i64 t, .int .i64 d, .int .i64 k, .int .i64 a, .bool y, .int .i64 p1, .int .i64 p2, .int .i64 p3] 36) = W) := ⟨_, rfl⟩
  have HB : Hid (Below w.heap.size w W) := by rw [← HW.out]; exact (Below.refl _ _).alloc (Nat.le_refl _) _
  have hlbw : lb < w.heap.size := row_ltJ h.row
  have H1 : Hid (HI w W A lb b cap id deal att zs P f t d k a y p1 p2 p3) := ⟨h.later HB.out, by rw [← HW.out]; exact heap_alloc_new w _, Kept.of_below HB.out, hE.later HB.out⟩
  have HZ := hid he
  have HST := hid hs
  have hn := (errW_zero he).2.1
  obtain ⟨b0, b1, b2, b3, b4, b5, b6, b7, b8⟩ := nine H1.out.fr
  have hW := HW.out
  clear h hE he hs
  go_enter Tryd.func35, Tryd.ntmps35
  go_wp2_with fail
  refine (ldtakes_is f t d k a y p1 p2 p3 x hn HST.out H1.out.ld HT.out).mono ?_
  rintro e w1 ⟨rfl, hb⟩
  have H2 := hid (H1.out.later hlbw hb)
  clear hb b0 b1 b2 b3 b4 b5 b6 b7 b8 H1 HB HW hW
  cases x with
  | false =>
    obtain rfl : R = (P, none) := by rw [← HR.out]; unfold phear; rw [if_neg (by rw [HT.out]; decide)]
    go_wp2_with fail
    go_ret
    exact ⟨_, rfl, FrB.zero _ _, H2.out.ld, H2.out.kp⟩
  | true =>
    obtain ⟨-, -, ⟨q0, q1⟩, -⟩ := takesB_in HT.out
    simp only at q0 q1
    obtain ⟨m, rfl⟩ := Int.eq_ofNat_of_zero_le q0
    have hm : m < zs.length := by omega
    have hm7 : m < 7 := by omega
    obtain ⟨b0, b1, b2, b3, b4, b5, b6, b7, b8⟩ := nine H2.out.fr
    have c5 := H2.out.ld.cells.2.2.2.2.2.1
    have z5 := H2.out.ld.fz 5
    have hbd := ansS_bd hn H2.out.ld.pw.lo H2.out.ld.pw.hi hm
    have HLn := hid (H2.out.ld.setAns (ansS P.ans m) hbd.1 hbd.2)
    have hlb1 : lb < w1.heap.size := row_ltJ H2.out.ld.row
    have hp := (pow_le7 (n := m) (by omega)).1
    have hp2 := (pow_le7 (n := m) (by omega)).2
    unfold ansS at HLn
    have H3 := hid (H2.out.go hlbw (HLn.out.later (Below.refl _ _).drew) ((Kept.refl _ _).set1 _ _).drew)
    have HP : Hid (phear zs id deal att P ⟨(m : Int), t, d, k, a, y, p1, p2, p3⟩ = takenP zs P ⟨(m : Int), t, d, k, a, y, p1, p2, p3⟩) := by unfold Hid phear; rw [if_pos HT.out]
    have HN : Hid (noteP P ⟨(m : Int), t, d, k, a, y, p1, p2, p3⟩ = { P with ans := bits .or .i64 P.ans (2 ^ m) }) := rfl
    by_cases g2 : k = 2
    · subst g2
      obtain rfl : R = voteP zs.length { P with ans := bits .or .i64 P.ans (2 ^ m) } y := by rw [← HR.out, HP.out]; unfold takenP; rw [if_pos rfl]; rfl
      go_wp2_with fail
      go_region
      all_goals go_wp2_with fail
      refine (ldvote_any y hn H3.out.ld).mono ?_
      rintro e w2 ⟨v, rfl, ho, hl, hk⟩
      have HV := hid (And.intro (ho.mono H3.out.kp.size) (And.intro hl (H3.out.kp.trans hk)))
      clear ho hl hk
      go_wp2_with fail
      go_ret
      exact ⟨_, rfl, HV.out⟩
    · have e2 : (k == 2) = false := beq_eq_false_iff_ne.2 g2
      go_wp2_with fail
      go_region
      all_goals go_wp2_with fail
      refine (ldsee_any p2 H3.out.ld).mono ?_
      rintro e w2 ⟨rfl, hl, hk⟩
      have H4 := hid (H3.out.go hlbw hl hk)
      clear hl hk b0 b1 b2 b3 b4 b5 b6 b7 b8 c5 z5
      obtain ⟨b0, b1, b2, b3, b4, b5, b6, b7, b8⟩ := nine H4.out.fr
      have z4 := H4.out.ld.fz 4
      have c4 := H4.out.ld.cells.2.2.2.2.1
      have hlb2 : lb < w2.heap.size := row_ltJ H4.out.ld.row
      cases y with
      | false =>
        obtain rfl : R = ({ seeP { P with ans := bits .or .i64 P.ans (2 ^ m) } p2 with stt := 3 }, none) := by rw [← HR.out, HP.out]; unfold takenP; rw [if_neg (by exact g2), if_pos rfl]; rfl
        have HQ := hid (H4.out.go hlbw (H4.out.ld.setSt 3) ((Kept.refl _ _).set1 _ _))
        rw [stP3] at HQ
        go_wp2_with fail
        go_ret
        exact ⟨_, rfl, FrB.zero _ _, HQ.out.ld, HQ.out.kp⟩
      | true =>
        by_cases g4 : k = 4
        · subst g4
          obtain rfl : R = tellP zs (seeP { P with ans := bits .or .i64 P.ans (2 ^ m) } p2) m ⟨p1, p2, p3⟩ := by rw [← HR.out, HP.out]; unfold takenP; rw [if_neg (by simp), if_neg (by simp), if_pos rfl]; rfl
          go_wp2_with fail
          refine (ldtell_any A m ⟨p1, p2, p3⟩ hm7 HZ.out H4.out.er H4.out.ld).mono ?_
          rintro e w3 ⟨v, rfl, ho, hl, hk⟩
          have HV := hid (And.intro (ho.mono H4.out.kp.size) (And.intro hl (H4.out.kp.trans hk)))
          clear ho hl hk
          go_wp2_with fail
          go_ret
          exact ⟨_, rfl, HV.out⟩
        · have e4 : (k == 4) = false := beq_eq_false_iff_ne.2 g4
          obtain rfl : R = ackP zs (seeP { P with ans := bits .or .i64 P.ans (2 ^ m) } p2) := by rw [← HR.out, HP.out]; unfold takenP; rw [if_neg (by exact g2), if_neg (by simp), if_neg (by exact g4)]; rfl
          go_wp2_with fail
          refine (ldack_any A HZ.out H4.out.er H4.out.ld).mono ?_
          rintro e w3 ⟨v, rfl, ho, hl, hk⟩
          have HV := hid (And.intro (ho.mono H4.out.kp.size) (And.intro hl (H4.out.kp.trans hk)))
          clear ho hl hk
          go_wp2_with fail
          go_ret
          exact ⟨_, rfl, HV.out⟩
end
end Go.Proofs.YtkopfpaldmapdaaDoor
