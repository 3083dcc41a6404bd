/-
  THE WALK of the law WeightsMeet: whatever weights, whatever two sets: true; nothing that was there is written.
-/
import Derived.Test.YtkbbjkiinpimiaaDoorWH
import Derived.Test.YtkbbjkiinpimiaaDoorPlain2
namespace Go.Proofs.YtkbbjkiinpimiaaDoor
open Go.RowKit

/-- Enough answers a bool and an error, whatever it is asked. -/
theorem enough_some (A : Nat → Addr) (v : Value) (zs : List Int) (set : Int) (w : World) (hv : IsSl w v zs) (hE : Held3 w A) :
    Calls Tryd.prog 22 #[v, .int .i64 set] w fun e w' => ∃ x y, e = .returned (.tuple #[.bool x, y]) ∧ Below w.heap.size w w' := by
  by_cases h : errS zs set = 0
  · refine (enough_ok A v zs set w hv hE h).mono ?_
    rintro e w' ⟨rfl, hb⟩
    exact ⟨_, _, rfl, hb⟩
  · obtain ⟨c, hc⟩ : ∃ c, errS zs set = c + 1 := ⟨errS zs set - 1, by omega⟩
    refine (enough_bad A v zs set c w hv hE hc).mono ?_
    rintro e w' ⟨rfl, rfl⟩
    exact ⟨_, _, rfl, Below.refl _ _⟩

/-- The call Enough(OwnInts(w), set) as one: first the copy, then Enough on it. -/
def Cx (w0 : World) (A : Nat → Addr) (v : Value) (zs : List Int) (w : World) : Prop := Below w0.heap.size w0 w ∧ IsSl w v zs ∧ Held3 w A
theorem Cx.step {w0 w w' : World} {A : Nat → Addr} {v : Value} {zs : List Int} (h : Cx w0 A v zs w) (hb : Below w.heap.size w w') : Cx w0 A v zs w' :=
  ⟨below_trans h.1 hb, h.2.1.later hb, h.2.2.later hb⟩

/-- Enough, all well, its answer named. -/
theorem enough_is (A : Nat → Addr) (v : Value) (zs : List Int) (set : Int) (w : World) (x : Bool) (hv : IsSl w v zs) (hE : Held3 w A) (hc : errS zs set = 0) (hx : enoughB zs set = x) :
    Calls Tryd.prog 22 #[v, .int .i64 set] w fun e w' => e = .returned (.tuple #[.bool x, .nilIface]) ∧ Below w.heap.size w w' := by
  subst hx; exact enough_ok A v zs set w hv hE hc

set_option maxHeartbeats 4000000 in
theorem meet_f (A : Nat → Addr) (ad : Option Addr) (cap : Nat) (zs : List Int) (a b : Int) (w : World)
    (C0 : Cx w A (.slice ad zs.length cap) zs w) (hl : ¬ 30 < zs.length) (HA : Hid (errS zs a = 0)) (HB : Hid (errS zs b = 0)) (HX : Hid (enoughB zs a = false)) :
    Calls Tryd.prog 6 #[.slice ad zs.length cap, .int .i64 a, .int .i64 b] w fun e w' => e = .returned (.bool true) ∧ Below w.heap.size w w' := by
  have HCo := hid (errS_compl HA.out)
  have HOr := hid (errS_or HA.out HB.out)
  have HAl := hid (errS_all (errS_zero HA.out).1)
  have HV := hid (allEnough (errS_zero HA.out).1)
  have hp := pow_le7 (errW_zero (errS_zero HA.out).1).2.1
  have hra := (errS_zero HA.out).2
  have hrb := (errS_zero HB.out).2
  obtain ⟨y, HY⟩ : ∃ y, Hid (enoughB zs b = y) := ⟨_, rfl⟩
  obtain ⟨z, HZ⟩ : ∃ z, Hid (enoughB zs (2 ^ zs.length - 1 - a) = z) := ⟨_, rfl⟩
  obtain ⟨u, HU⟩ : ∃ u, Hid (enoughB zs (bits .or .i64 a b) = u) := ⟨_, rfl⟩
  go_enter Tryd.func6, Tryd.ntmps6
  go_wp2_with (go_at_call 19; refine (heavier_any A _ C0.2.2).mono ?_; rintro e w1 ⟨rfl, hb1⟩)
  refine (ownInts_any _ zs _ (C0.step hb1).2.1 (by omega)).mono ?_
  rintro e w2 ⟨v2, rfl, hs2, hb2⟩
  have C2 := (C0.step hb1).step hb2
  clear hb1 hb2
  go_wp2_with fail
  refine (enough_is A _ zs a _ false hs2 C2.2.2 HA.out HX.out).mono ?_
  rintro e w3 ⟨rfl, hb3⟩
  have C3 := C2.step hb3
  clear hs2 C2 hb3
  go_wp2_with fail
  refine (ownInts_any _ zs _ C3.2.1 (by omega)).mono ?_
  rintro e w4 ⟨v4, rfl, hs4, hb4⟩
  have C4 := C3.step hb4
  clear C3 hb4
  go_wp2_with fail
  refine (enough_is A _ zs b _ y hs4 C4.2.2 HB.out HY.out).mono ?_
  rintro e w5 ⟨rfl, hb5⟩
  have C5 := C4.step hb5
  clear hs4 C4 hb5
  go_wp2_with fail
  refine (two_any zs.length _ (by omega)).mono ?_
  rintro e w6 ⟨rfl, h6⟩
  subst h6
  go_wp2_with fail
  refine (ownInts_any _ zs _ C5.2.1 (by omega)).mono ?_
  rintro e w7 ⟨v7, rfl, hs7, hb7⟩
  have C7 := C5.step hb7
  clear C5 hb7
  go_wp2_with fail
  refine (enough_is A _ zs (2 ^ zs.length - 1 - a) _ z hs7 C7.2.2 HCo.out HZ.out).mono ?_
  rintro e w8 ⟨rfl, hb8⟩
  have C8 := C7.step hb8
  clear hs7 C7 hb8
  go_wp2_with fail
  refine (ownInts_any _ zs _ C8.2.1 (by omega)).mono ?_
  rintro e w9 ⟨v9, rfl, hs9, hb9⟩
  have C9 := C8.step hb9
  clear C8 hb9
  go_wp2_with fail
  refine (enough_is A _ zs (bits .or .i64 a b) _ u hs9 C9.2.2 HOr.out HU.out).mono ?_
  rintro e wa ⟨rfl, hba⟩
  have Ca := C9.step hba
  clear hs9 C9 hba
  go_wp2_with fail
  refine (ownInts_any _ zs _ Ca.2.1 (by omega)).mono ?_
  rintro e wb ⟨vb, rfl, hsb, hbb⟩
  have Cb := Ca.step hbb
  clear Ca hbb
  go_wp2_with fail
  refine (enough_is A _ zs (2 ^ zs.length - 1) _ true hsb Cb.2.2 HAl.out HV.out).mono ?_
  rintro e wc ⟨rfl, hbc⟩
  have Cc := Cb.step hbc
  go_wp2_with fail
  go_ret
  exact ⟨rfl, Cc.1⟩

set_option maxHeartbeats 4000000 in
theorem meet_tf (A : Nat → Addr) (ad : Option Addr) (cap : Nat) (zs : List Int) (a b : Int) (w : World)
    (C0 : Cx w A (.slice ad zs.length cap) zs w) (hl : ¬ 30 < zs.length) (HA : Hid (errS zs a = 0)) (HB : Hid (errS zs b = 0)) (HX : Hid (enoughB zs a = true)) (HY : Hid (enoughB zs b = false)) :
    Calls Tryd.prog 6 #[.slice ad zs.length cap, .int .i64 a, .int .i64 b] w fun e w' => e = .returned (.bool true) ∧ Below w.heap.size w w' := by
  have HCo := hid (errS_compl HA.out)
  have HOr := hid (errS_or HA.out HB.out)
  have HAl := hid (errS_all (errS_zero HA.out).1)
  have HV := hid (allEnough (errS_zero HA.out).1)
  have hp := pow_le7 (errW_zero (errS_zero HA.out).1).2.1
  have hra := (errS_zero HA.out).2
  have hrb := (errS_zero HB.out).2
  have HZ := hid (others HA.out HX.out)
  have HU := hid (more HA.out HB.out HX.out)
  go_enter Tryd.func6, Tryd.ntmps6
  go_wp2_with (go_at_call 19; refine (heavier_any A _ C0.2.2).mono ?_; rintro e w1 ⟨rfl, hb1⟩)
  refine (ownInts_any _ zs _ (C0.step hb1).2.1 (by omega)).mono ?_
  rintro e w2 ⟨v2, rfl, hs2, hb2⟩
  have C2 := (C0.step hb1).step hb2
  clear hb1 hb2
  go_wp2_with fail
  refine (enough_is A _ zs a _ true hs2 C2.2.2 HA.out HX.out).mono ?_
  rintro e w3 ⟨rfl, hb3⟩
  have C3 := C2.step hb3
  clear hs2 C2 hb3
  go_wp2_with fail
  refine (ownInts_any _ zs _ C3.2.1 (by omega)).mono ?_
  rintro e w4 ⟨v4, rfl, hs4, hb4⟩
  have C4 := C3.step hb4
  clear C3 hb4
  go_wp2_with fail
  refine (enough_is A _ zs b _ false hs4 C4.2.2 HB.out HY.out).mono ?_
  rintro e w5 ⟨rfl, hb5⟩
  have C5 := C4.step hb5
  clear hs4 C4 hb5
  go_wp2_with fail
  refine (two_any zs.length _ (by omega)).mono ?_
  rintro e w6 ⟨rfl, h6⟩
  subst h6
  go_wp2_with fail
  refine (ownInts_any _ zs _ C5.2.1 (by omega)).mono ?_
  rintro e w7 ⟨v7, rfl, hs7, hb7⟩
  have C7 := C5.step hb7
  clear C5 hb7
  go_wp2_with fail
  refine (enough_is A _ zs (2 ^ zs.length - 1 - a) _ false hs7 C7.2.2 HCo.out HZ.out).mono ?_
  rintro e w8 ⟨rfl, hb8⟩
  have C8 := C7.step hb8
  clear hs7 C7 hb8
  go_wp2_with fail
  refine (ownInts_any _ zs _ C8.2.1 (by omega)).mono ?_
  rintro e w9 ⟨v9, rfl, hs9, hb9⟩
  have C9 := C8.step hb9
  clear C8 hb9
  go_wp2_with fail
  refine (enough_is A _ zs (bits .or .i64 a b) _ true hs9 C9.2.2 HOr.out HU.out).mono ?_
  rintro e wa ⟨rfl, hba⟩
  have Ca := C9.step hba
  clear hs9 C9 hba
  go_wp2_with fail
  refine (ownInts_any _ zs _ Ca.2.1 (by omega)).mono ?_
  rintro e wb ⟨vb, rfl, hsb, hbb⟩
  have Cb := Ca.step hbb
  clear Ca hbb
  go_wp2_with fail
  refine (enough_is A _ zs (2 ^ zs.length - 1) _ true hsb Cb.2.2 HAl.out HV.out).mono ?_
  rintro e wc ⟨rfl, hbc⟩
  have Cc := Cb.step hbc
  go_wp2_with fail
  go_ret
  exact ⟨rfl, Cc.1⟩

set_option maxHeartbeats 4000000 in
theorem meet_tt (A : Nat → Addr) (ad : Option Addr) (cap : Nat) (zs : List Int) (a b : Int) (w : World)
    (C0 : Cx w A (.slice ad zs.length cap) zs w) (hl : ¬ 30 < zs.length) (HA : Hid (errS zs a = 0)) (HB : Hid (errS zs b = 0)) (HX : Hid (enoughB zs a = true)) (HY : Hid (enoughB zs b = true)) :
    Calls Tryd.prog 6 #[.slice ad zs.length cap, .int .i64 a, .int .i64 b] w fun e w' => e = .returned (.bool true) ∧ Below w.heap.size w w' := by
  have HCo := hid (errS_compl HA.out)
  have HOr := hid (errS_or HA.out HB.out)
  have HAl := hid (errS_all (errS_zero HA.out).1)
  have HV := hid (allEnough (errS_zero HA.out).1)
  have hp := pow_le7 (errW_zero (errS_zero HA.out).1).2.1
  have hra := (errS_zero HA.out).2
  have hrb := (errS_zero HB.out).2
  have HZ := hid (others HA.out HX.out)
  have HU := hid (more HA.out HB.out HX.out)
  have hand := meet HA.out HB.out HX.out HY.out
  go_enter Tryd.func6, Tryd.ntmps6
  go_wp2_with (go_at_call 19; refine (heavier_any A _ C0.2.2).mono ?_; rintro e w1 ⟨rfl, hb1⟩)
  refine (ownInts_any _ zs _ (C0.step hb1).2.1 (by omega)).mono ?_
  rintro e w2 ⟨v2, rfl, hs2, hb2⟩
  have C2 := (C0.step hb1).step hb2
  clear hb1 hb2
  go_wp2_with fail
  refine (enough_is A _ zs a _ true hs2 C2.2.2 HA.out HX.out).mono ?_
  rintro e w3 ⟨rfl, hb3⟩
  have C3 := C2.step hb3
  clear hs2 C2 hb3
  go_wp2_with fail
  refine (ownInts_any _ zs _ C3.2.1 (by omega)).mono ?_
  rintro e w4 ⟨v4, rfl, hs4, hb4⟩
  have C4 := C3.step hb4
  clear C3 hb4
  go_wp2_with fail
  refine (enough_is A _ zs b _ true hs4 C4.2.2 HB.out HY.out).mono ?_
  rintro e w5 ⟨rfl, hb5⟩
  have C5 := C4.step hb5
  clear hs4 C4 hb5
  go_wp2_with fail
  refine (two_any zs.length _ (by omega)).mono ?_
  rintro e w6 ⟨rfl, h6⟩
  subst h6
  go_wp2_with fail
  refine (ownInts_any _ zs _ C5.2.1 (by omega)).mono ?_
  rintro e w7 ⟨v7, rfl, hs7, hb7⟩
  have C7 := C5.step hb7
  clear C5 hb7
  go_wp2_with fail
  refine (enough_is A _ zs (2 ^ zs.length - 1 - a) _ false hs7 C7.2.2 HCo.out HZ.out).mono ?_
  rintro e w8 ⟨rfl, hb8⟩
  have C8 := C7.step hb8
  clear hs7 C7 hb8
  go_wp2_with fail
  refine (ownInts_any _ zs _ C8.2.1 (by omega)).mono ?_
  rintro e w9 ⟨v9, rfl, hs9, hb9⟩
  have C9 := C8.step hb9
  clear C8 hb9
  go_wp2_with fail
  refine (enough_is A _ zs (bits .or .i64 a b) _ true hs9 C9.2.2 HOr.out HU.out).mono ?_
  rintro e wa ⟨rfl, hba⟩
  have Ca := C9.step hba
  clear hs9 C9 hba
  go_wp2_with fail
  refine (ownInts_any _ zs _ Ca.2.1 (by omega)).mono ?_
  rintro e wb ⟨vb, rfl, hsb, hbb⟩
  have Cb := Ca.step hbb
  clear Ca hbb
  go_wp2_with fail
  refine (enough_is A _ zs (2 ^ zs.length - 1) _ true hsb Cb.2.2 HAl.out HV.out).mono ?_
  rintro e wc ⟨rfl, hbc⟩
  have Cc := Cb.step hbc
  go_wp2_with fail
  go_ret
  exact ⟨rfl, Cc.1⟩

set_option maxHeartbeats 2000000 in
theorem meet_any (A : Nat → Addr) (v : Value) (zs : List Int) (a b : Int) (w : World) (hv : IsSl w v zs) (hE : Held3 w A) :
    Calls Tryd.prog 6 #[v, .int .i64 a, .int .i64 b] w fun e w' => e = .returned (.bool true) ∧ Below w.heap.size w w' := by
  have C0 : Cx w A v zs w := ⟨Below.refl _ _, hv, hE⟩
  have hm : zs.length ≤ maxLen := by obtain ⟨_, _, _, h, _⟩ := hv; exact h
  unfold maxLen at hm
  obtain ⟨ad, cap, rfl, -, -, -⟩ := hv
  clear hE
  by_cases hl : 30 < zs.length
  · go_enter Tryd.func6, Tryd.ntmps6
    go_wp2_with (go_at_call 19; refine (heavier_any A _ C0.2.2).mono ?_; rintro e w1 ⟨rfl, hb1⟩)
    go_ret
    exact ⟨rfl, hb1⟩
  · by_cases ha : errS zs a = 0
    · by_cases hb : errS zs b = 0
      · cases hx : enoughB zs a with
        | false => exact meet_f A ad cap zs a b w C0 hl ha hb hx
        | true =>
          cases hy : enoughB zs b with
          | false => exact meet_tf A ad cap zs a b w C0 hl ha hb hx hy
          | true => exact meet_tt A ad cap zs a b w C0 hl ha hb hx hy
      · obtain ⟨c, hc⟩ : ∃ c, errS zs b = c + 1 := ⟨errS zs b - 1, by omega⟩
        have HA := hid ha
        have HB := hid hc
        clear ha hb hc
        go_enter Tryd.func6, Tryd.ntmps6
        go_wp2_with (go_at_call 19; refine (heavier_any A _ C0.2.2).mono ?_; rintro e w1 ⟨rfl, hb1⟩)
        refine (ownInts_any _ zs _ (C0.step hb1).2.1 (by omega)).mono ?_
        rintro e w2 ⟨v2, rfl, hs2, hb2⟩
        have C2 := (C0.step hb1).step hb2
        go_wp2_with fail
        refine (enough_ok A _ zs a _ hs2 C2.2.2 HA.out).mono ?_
        rintro e w3 ⟨rfl, hb3⟩
        have C3 := C2.step hb3
        clear hs2
        go_wp2_with fail
        refine (ownInts_any _ zs _ C3.2.1 (by omega)).mono ?_
        rintro e w4 ⟨v4, rfl, hs4, hb4⟩
        have C4 := C3.step hb4
        go_wp2_with fail
        refine (enough_bad A _ zs b _ _ hs4 C4.2.2 HB.out).mono ?_
        rintro e w5 ⟨rfl, rfl⟩
        go_wp2_with fail
        go_ret
        exact ⟨rfl, C4.1⟩
    · obtain ⟨c, hc⟩ : ∃ c, errS zs a = c + 1 := ⟨errS zs a - 1, by omega⟩
      have HA := hid hc
      clear ha hc
      go_enter Tryd.func6, Tryd.ntmps6
      go_wp2_with (go_at_call 19; refine (heavier_any A _ C0.2.2).mono ?_; rintro e w1 ⟨rfl, hb1⟩)
      refine (ownInts_any _ zs _ (C0.step hb1).2.1 (by omega)).mono ?_
      rintro e w2 ⟨v2, rfl, hs2, hb2⟩
      have C2 := (C0.step hb1).step hb2
      go_wp2_with fail
      refine (enough_bad A _ zs a _ _ hs2 C2.2.2 HA.out).mono ?_
      rintro e w3 ⟨rfl, rfl⟩
      clear hs2
      go_wp2_with fail
      refine (ownInts_any _ zs _ C2.2.1 (by omega)).mono ?_
      rintro e w4 ⟨v4, rfl, hs4, hb4⟩
      have C4 := C2.step hb4
      go_wp2_with fail
      refine (enough_some A _ zs b _ hs4 C4.2.2).mono ?_
      rintro e w5 ⟨x, y, rfl, hb5⟩
      go_wp2_with fail
      go_ret
      exact ⟨rfl, (C4.step hb5).1⟩
end Go.Proofs.YtkbbjkiinpimiaaDoor
