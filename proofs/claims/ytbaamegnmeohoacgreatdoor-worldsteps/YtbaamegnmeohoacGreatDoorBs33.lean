/-
  On the way to WStepsProof: VY XV.
-/
import Derived.Test.YtbaamegnmeohoacGreatDoorBs32
import Derived.Test.YtbaamegnmeohoacGreatDoorBs24
import Derived.Test.YtbaamegnmeohoacGreatDoorBs31
import Derived.Deep.CutBlock
namespace Go.Proofs.YtbaamegnmeohoacGreatDoor
open Go.RowKit
section
variable {w0 w w' : World} {C C' : Nat → Nat} {K : NB} {X : XB} {i m m' : Nat} {zs : List Int} {N : PN} {V V' : PX} {A : Nat → Addr}
theorem elect_ans {n s d : Nat} {a : Int} (hN : NI n N m) (hu : N.l ≠ -2) (hF : FI n (electF s d a)) (hm : m < 4000000000) :
    (upN (hearN N (electF s d a)) = false ∧ ansN s N (electF s d a) = []) ∨ (upN (hearN N (electF s d a)) = true ∧ ∃ f0, ansN s N (electF s d a) = [f0]) := by
  have hh := hearN_hf hN hu hF hm
  have hk : (gHN N (electF s d a)).k = 4 := by
    unfold gHN hearL
    rw [if_neg (by show ¬ ((3 : Int).toNat = 1); decide), if_pos (by show (3 : Int).toNat = 3; decide)]
    split <;> rfl
  rcases hh.c with hc | hc
  · right
    refine ⟨by rw [hh.up, hc]; rfl, ?_⟩
    unfold ansN
    rw [if_pos ⟨hc, by rw [hk]; decide⟩]
    exact ⟨_, rfl⟩
  · left
    refine ⟨by rw [hh.up, hc]; rfl, ?_⟩
    unfold ansN
    rw [if_neg (fun h => by rw [hc] at h; cases h.1)]
theorem WOut.mono (h : WOut w0 w w' C X zs V m) (hm : m ≤ m') : WOut w0 w w' C X zs V m' := by
  obtain ⟨C', X', x1, x2, x3, x4⟩ := h
  exact ⟨C', X', x1.mono hm, x2, x3, x4⟩
theorem try_any (s d p : Nat) (h : WD w0 w C X zs V m) (hE : Held9 w0 A) (hs : s < zs.length) (hd : d < 6) (hu : (V.nd s).l ≠ -2) (hm : m < 1000000) (hp : (stN (V.nd s) d).pr = p) :
    Calls Tryz.prog 101 #[.pointer (some ⟨X.xb, 0, none⟩), .int .i64 (s : Int), .int .i64 (d : Int), .int .i64 (p : Int)] w fun e w' => e = .returned (.tuple #[]) ∧ WOut w0 w w' C X zs (tryX zs V s d (attemptX zs.length s (aboveN (V.nd s) d))) (m + 7) := by
  have hbd := aboveN_bd (h.inv.nd s hs) hd
  have hat := attemptX_bd zs.length s (aboveN (V.nd s) d) (by omega)
  by_cases hf : 1048576 < attemptX zs.length s (aboveN (V.nd s) d)
  · refine (try_far s d p h hE hs hd hp hf).mono ?_
    rintro e w' ⟨h1, h2⟩
    refine ⟨h1, ?_⟩
    unfold tryX
    rw [if_pos hf]
    exact h.out h2 (by omega)
  · obtain ⟨an, ha⟩ := Int.eq_ofNat_of_zero_le (show 0 ≤ attemptX zs.length s (aboveN (V.nd s) d) by omega)
    have hF := electF_fi (a := (an : Int)) hs h.n7.2 hd (by omega)
    rcases elect_ans (h.inv.nd s hs) hu hF (by omega) with ⟨u, e⟩ | ⟨u, f0, e⟩
    · refine (try_down s d p an h hE hs hd hu hm hp ha (by omega) (by omega) u e).mono ?_
      rintro e w' ⟨h1, h2⟩
      refine ⟨h1, ?_⟩
      rw [ha]
      unfold tryX
      rw [if_neg (by omega), if_pos u]
      exact h2.mono (by omega)
    · have hf0 : FI zs.length f0 := ansN_fi (h.inv.nd s hs) hu hF (by omega) rfl f0 (by rw [e]; exact List.mem_singleton.2 rfl)
      refine (try_up s d p an f0 h hE hs hd hu hm hp ha (by omega) (by omega) u e hf0).mono ?_
      rintro e w' ⟨h1, h2⟩
      refine ⟨h1, ?_⟩
      rw [ha]
      exact h2.mono (by omega)
theorem tickX_step (s : Nat) {q : Nat} (hq : q < 6) : tickX zs s (6 - q) q V = if upN ((tickD zs V s q).nd s) = true then tickX zs s (6 - (q + 1)) (q + 1) (tickD zs V s q) else tickD zs V s q := by
  rw [show 6 - q = (6 - (q + 1)) + 1 by omega]
  rfl
theorem st_is0 (h1 h2 h3 : Nat) (b : Bool) (hb : decide (h1 = 0 ∧ h2 = 0 ∧ h3 = 0) = b) (w : World) : (binOp .eql 113 (.agg #[.int .i64 (h1 : Int), .int .i64 (h2 : Int), .int .i64 (h3 : Int)]) (.agg #[.int .i64 0, .int .i64 0, .int .i64 0])).run Tryz.prog w = .ok (.bool b) w :=
  st_eql _ _ _ _ _ _ b (by rw [← hb]; congr 1; exact propext (by omega)) w
set_option maxHeartbeats 2000000 in
set_option maxRecDepth 100000 in
theorem tick_ok (s : Nat) (h : WD w0 w C X zs V m) (hE : Held9 w0 A) (hs : s < zs.length) (hu : (V.nd s).l ≠ -2) (hm : m < 900000) :
    Calls Tryz.prog 45 #[.pointer (some ⟨X.xb, 0, none⟩), .int .i64 (s : Int)] w fun e w' => e = .returned .nilIface ∧ WOut w0 w w' C X zs (tickX zs s 6 0 V) (m + 42) := by
  have H := hid h
  have HE := hid hE
  have HE1 := hid (h.held hE)
  have HS := hid hs
  have HU : Hid (((V.nd s).l != -2) = true) := by show ((V.nd s).l != -2) = true; simpa using hu
  obtain ⟨T, HT⟩ : ∃ T, Hid (tickX zs s 6 0 V = T) := ⟨_, rfl⟩
  rw [HT.out]
  clear h hE hs hu
  go_enter Tryz.func45, Tryz.ntmps45
  go_wp2_with fail
  refine (find_ok s H.out HS.out).mono ?_
  rintro e w1 ⟨rfl, hx⟩
  subst w1
  go_wp2_with fail
  refine (powered_is true (H.out.nds s HS.out) HE1.out HU.out).mono ?_
  rintro e w1 ⟨rfl, hb⟩
  simp only [if_true]
  have HB1 := hid hb
  have H1 := hid (H.out.later hb)
  clear hb
  go_wp2_with fail
  go_loopw [21] (fun v wr => ∃ (q : Nat) (Vq : PX), q ≤ 6 ∧ v = .int .i64 (q : Int) ∧ Hid (tickX zs s (6 - q) q Vq = T) ∧ Hid ((Vq.nd s).l ≠ -2) ∧ WOut w0 w wr C X zs Vq (m + 7 * q)) (fun v _ => 6 - (intOf v).toNat)
  case atStart => exact ⟨0, V, Nat.zero_le _, rfl, HT.out, by have := HU.out; show (V.nd s).l ≠ -2; simpa using this, H.out.out HB1.out (by omega)⟩
  case round =>
    obtain ⟨q, Vq, hq, rfl, HTq, HUq, C1, X1, g1, g2, g3, g4⟩ := hrel
    have HG := hid (And.intro g1 (And.intro g2 (And.intro g3 g4)))
    have c0 := (g1.nds s HS.out).site
    rw [key_nd g2] at c0
    obtain ⟨⟨h1, h2, h3⟩, HST⟩ : ∃ x, Hid (stN (Vq.nd s) q = x) := ⟨_, rfl⟩
    clear g1 g2 g3 g4
    by_cases hlt : q < 6
    · have HKn := hid (known_ag q h1 h2 h3 (HG.out.1.nds s HS.out).sp.jp.jr (HG.out.1.nds s HS.out).sp.sr hlt HST.out)
      go_wp2_with fail
      refine HKn.out.mono ?_
      rintro e w2 ⟨rfl, hb2⟩
      obtain ⟨W3, HW3⟩ : ∃ W3, Hid (w2.alloc (.cells #[.int .i64 (h1 : Int), .int .i64 (h2 : Int), .int .i64 (h3 : Int)] 113) = W3) := ⟨_, rfl⟩
      have hW3 := HW3.out
      have HB3 : Hid (Below wr.heap.size wr W3) := by rw [← HW3.out]; exact hb2.alloc hb2.size _
      have HR3 : Hid (W3.heap[w2.heap.size]? = some (.cells #[.int .i64 (h1 : Int), .int .i64 (h2 : Int), .int .i64 (h3 : Int)] 113 (0, 0))) := by rw [← HW3.out]; exact heap_alloc_new w2 _
      have a0 : W3.cell? ⟨w2.heap.size, 0, none⟩ = some (.int .i64 (h1 : Int)) := by rw [cell_of_row _ _ _ _ _ _ HR3.out]; rfl
      have a1 : W3.cell? ⟨w2.heap.size, 1, none⟩ = some (.int .i64 (h2 : Int)) := by rw [cell_of_row _ _ _ _ _ _ HR3.out]; rfl
      have a2 : W3.cell? ⟨w2.heap.size, 2, none⟩ = some (.int .i64 (h3 : Int)) := by rw [cell_of_row _ _ _ _ _ _ HR3.out]; rfl
      have H3 := hid (HG.out.1.later HB3.out)
      have HO3 : Hid (WOut w0 w W3 C X zs Vq (m + 7 * q)) := ⟨C1, X1, H3.out, HG.out.2.1, HG.out.2.2.1.trans (Kept.of_below HB3.out), HG.out.2.2.2⟩
      have HGd : Hid (h1 ≤ 5 ∧ h2 ≤ 1048576) := by have := (HG.out.1.inv.nd s HS.out).gd q hlt; have h4 : (dlN (Vq.nd s) q).2 = ⟨h1, h2, h3⟩ := HST.out; rw [h4] at this; exact ⟨this.1, this.2.1⟩
      clear hb2
      by_cases hz : h1 = 0 ∧ h2 = 0 ∧ h3 = 0
      · obtain ⟨z1, z2, z3⟩ := hz
        have hcmp : ∀ w, (binOp .eql 113 (.agg #[.int .i64 (h1 : Int), .int .i64 (h2 : Int), .int .i64 (h3 : Int)]) (.agg #[.int .i64 0, .int .i64 0, .int .i64 0])).run Tryz.prog w = .ok (.bool true) w := st_is0 h1 h2 h3 true (decide_eq_true ⟨z1, z2, z3⟩)
        obtain ⟨V4, HV⟩ : ∃ V4, Hid (Vq = V4) := ⟨_, rfl⟩
        have HV4 : Hid (tickD zs Vq s q = V4) := by
          rw [← HV.out]
          unfold tickD
          exact if_pos (by rw [HST.out, z1, z2, z3]; rfl)
        have HUp4 : Hid (upN (V4.nd s) = true) := by rw [← HV.out]; have := HUq.out; show upN (Vq.nd s) = true; unfold upN; simpa using this
        have HO : Hid (WOut w0 w W3 C X zs V4 (m + 7 * q + 7)) := by rw [← HV.out]; exact HO3.out.mono (by omega)
        clear z1 z2 z3
        obtain ⟨C4, X4, y1, y2, y3, y4⟩ := HO.out
        obtain ⟨e0, e1, e2⟩ := (y1.nds s HS.out).way
        rw [key_nd y2] at e0
        have HP4 := hid (y1.nds s HS.out).sp.jp.pl
        have HT4 : Hid (tickX zs s (6 - (q + 1)) (q + 1) V4 = T) := by have := HTq.out; rw [tickX_step s hlt, HV4.out, if_pos HUp4.out] at this; exact this
        clear y1 y2 y3 y4
        go_wp2_with fail
        refine (power_b _ _ _ _ true W3 HP4.out HUp4.out).mono ?_
        rintro e w5 ⟨rfl, hx⟩
        subst w5
        go_wp2_with fail
        go_roundw
        case rel => exact ⟨q + 1, V4, by omega, by go_num, HT4.out, (by have := HUp4.out; show (V4.nd s).l ≠ -2; unfold upN at this; simpa using this), HO.out.mono (by omega)⟩
        case measure => simp [intOf]; omega
      · have hcmp : ∀ w, (binOp .eql 113 (.agg #[.int .i64 (h1 : Int), .int .i64 (h2 : Int), .int .i64 (h3 : Int)]) (.agg #[.int .i64 0, .int .i64 0, .int .i64 0])).run Tryz.prog w = .ok (.bool false) w := st_is0 h1 h2 h3 false (decide_eq_false hz)
        have HNz : Hid (¬ stN (Vq.nd s) q = St.zero) := fun e => hz (by rw [HST.out] at e; exact ⟨congrArg St.ph e, congrArg St.pr e, congrArg St.at_ e⟩)
        obtain ⟨fb, HF⟩ : ∃ fb, Hid (finB h1 = fb) := ⟨_, rfl⟩
        clear hz
        cases fb with
        | true =>
          obtain ⟨V4, HV⟩ : ∃ V4, Hid (sendX Vq (toL s q 7 h2 h1 zs.length) = V4) := ⟨_, rfl⟩
          have HV4 : Hid (tickD zs Vq s q = V4) := by
            rw [← HV.out]
            unfold tickD
            rw [if_neg HNz.out, HST.out, if_pos HF.out]
            exact rfl
          have HUp4 : Hid (upN (V4.nd s) = true) := by rw [← HV.out]; have := HUq.out; show upN (Vq.nd s) = true; unfold upN; simpa using this
          have HTe := hid (tellEnd_any s q h1 h2 h3 H3.out HS.out hlt HGd.out.1 HGd.out.2 (by omega))
          rw [key_xb HG.out.2.1, HV.out] at HTe
          go_wp2_with (go_at_call 99; refine (wisEnd_is h1 true _ HF.out).mono ?_; rintro e w9 ⟨rfl, hx⟩; subst w9)
          refine HTe.out.mono ?_
          rintro e w4 ⟨rfl, ho4⟩
          have HO : Hid (WOut w0 w w4 C X zs V4 (m + 7 * q + 7)) := WOut.step (C1 := C1) (X1 := X1) HG.out.2.1 (HG.out.2.2.1.trans (Kept.of_below HB3.out)) HG.out.2.2.2 ho4
          clear ho4
          obtain ⟨C4, X4, y1, y2, y3, y4⟩ := HO.out
          obtain ⟨e0, e1, e2⟩ := (y1.nds s HS.out).way
          rw [key_nd y2] at e0
          have HP4 := hid (y1.nds s HS.out).sp.jp.pl
          have HT4 : Hid (tickX zs s (6 - (q + 1)) (q + 1) V4 = T) := by have := HTq.out; rw [tickX_step s hlt, HV4.out, if_pos HUp4.out] at this; exact this
          clear y1 y2 y3 y4
          go_wp2_with fail
          refine (power_b _ _ _ _ true w4 HP4.out HUp4.out).mono ?_
          rintro e w5 ⟨rfl, hx⟩
          subst w5
          go_wp2_with fail
          go_roundw
          case rel => exact ⟨q + 1, V4, by omega, by go_num, HT4.out, (by have := HUp4.out; show (V4.nd s).l ≠ -2; unfold upN at this; simpa using this), HO.out.mono (by omega)⟩
          case measure => simp [intOf]; omega
        | false =>
          obtain ⟨V4, HV⟩ : ∃ V4, Hid (tryX zs Vq s q (attemptX zs.length s (aboveN (Vq.nd s) q)) = V4) := ⟨_, rfl⟩
          have HV4 : Hid (tickD zs Vq s q = V4) := by
            rw [← HV.out]
            unfold tickD
            rw [if_neg HNz.out, HST.out, if_neg (by rw [HF.out]; decide)]
            exact rfl
          have HTr := hid (try_any s q h2 H3.out HE.out HS.out hlt HUq.out (by omega) (by rw [HST.out]))
          rw [key_xb HG.out.2.1, HV.out] at HTr
          go_wp2_with (go_at_call 99; refine (wisEnd_is h1 false _ HF.out).mono ?_; rintro e w9 ⟨rfl, hx⟩; subst w9)
          refine HTr.out.mono ?_
          rintro e w4 ⟨rfl, ho4⟩
          have HO : Hid (WOut w0 w w4 C X zs V4 (m + 7 * q + 7)) := WOut.step (C1 := C1) (X1 := X1) HG.out.2.1 (HG.out.2.2.1.trans (Kept.of_below HB3.out)) HG.out.2.2.2 ho4
          clear ho4
          obtain ⟨u, HUp4⟩ : ∃ u, Hid (upN (V4.nd s) = u) := ⟨_, rfl⟩
          cases u with
          | true =>
            obtain ⟨C4, X4, y1, y2, y3, y4⟩ := HO.out
            obtain ⟨e0, e1, e2⟩ := (y1.nds s HS.out).way
            rw [key_nd y2] at e0
            have HP4 := hid (y1.nds s HS.out).sp.jp.pl
            have HT4 : Hid (tickX zs s (6 - (q + 1)) (q + 1) V4 = T) := by have := HTq.out; rw [tickX_step s hlt, HV4.out, if_pos HUp4.out] at this; exact this
            clear y1 y2 y3 y4
            go_wp2_with fail
            refine (power_b _ _ _ _ true w4 HP4.out HUp4.out).mono ?_
            rintro e w5 ⟨rfl, hx⟩
            subst w5
            go_wp2_with fail
            go_roundw
            case rel => exact ⟨q + 1, V4, by omega, by go_num, HT4.out, (by have := HUp4.out; show (V4.nd s).l ≠ -2; unfold upN at this; simpa using this), HO.out.mono (by omega)⟩
            case measure => simp [intOf]; omega
          | false =>
            obtain ⟨C4, X4, y1, y2, y3, y4⟩ := HO.out
            obtain ⟨e0, e1, e2⟩ := (y1.nds s HS.out).way
            rw [key_nd y2] at e0
            have HP4 := hid (y1.nds s HS.out).sp.jp.pl
            have HT4 : Hid (V4 = T) := by have := HTq.out; rw [tickX_step s hlt, HV4.out, if_neg (by rw [HUp4.out]; decide)] at this; exact this
            clear y1 y2 y3 y4
            go_wp2_with fail
            refine (power_b _ _ _ _ false w4 HP4.out HUp4.out).mono ?_
            rintro e w5 ⟨rfl, hx⟩
            subst w5
            go_wp2_with fail
            go_ret
            refine ⟨rfl, ?_⟩
            rw [← HT4.out]
            exact HO.out.mono (by omega)
    · obtain rfl : q = 6 := by omega
      go_wp2_with fail
      go_ret
      refine ⟨rfl, ?_⟩
      rw [← HTq.out]
      exact ⟨C1, X1, HG.out.1, HG.out.2.1, HG.out.2.2.1, HG.out.2.2.2⟩
set_option maxRecDepth 100000 in
theorem tick_any (s : Int) (c : Nat) (h : WD w0 w C X zs V m) (hE : Held9 w0 A) (hm : m < 900000) (hc : cUp zs.length V s = c) :
    Calls Tryz.prog 45 #[.pointer (some ⟨X.xb, 0, none⟩), .int .i64 s] w fun e w' => e = .returned (ev A c) ∧ WOut w0 w w' C X zs (if c = 0 then tickX zs s.toNat 6 0 V else V) (m + 42) := by
  have H := hid h
  have HE := hid hE
  have HE1 := hid (h.held hE)
  clear h hE
  subst hc
  by_cases hs : 0 ≤ s ∧ s < zs.length
  · obtain ⟨k, rfl⟩ := Int.eq_ofNat_of_zero_le hs.1
    have hk : k < zs.length := by omega
    have HK := hid hk
    obtain ⟨b, HB⟩ : ∃ b, Hid (((V.nd k).l != -2) = b) := ⟨_, rfl⟩
    have HU : Hid (upN (V.nd k) = b) := HB.out
    cases b with
    | true =>
      have e : cUp zs.length V k = 0 := by unfold cUp; rw [if_pos hs, Int.toNat_natCast, HU.out, if_pos rfl]
      rw [e, if_pos rfl, Int.toNat_natCast]
      exact tick_ok k H.out HE.out hk (by have := HB.out; simpa using this) hm
    | false =>
      have e : cUp zs.length V k = 6 := by unfold cUp; rw [if_pos hs, Int.toNat_natCast, HU.out, if_neg (by decide)]
      rw [e]
      clear e hs hk
      go_enter Tryz.func45, Tryz.ntmps45
      go_wp2_with fail
      refine (find_ok k H.out HK.out).mono ?_
      rintro e w1 ⟨rfl, hx⟩
      subst w1
      go_wp2_with fail
      refine (powered_is false (H.out.nds k HK.out) HE1.out HB.out).mono ?_
      rintro e w1 ⟨rfl, hb⟩
      rw [if_neg (by decide), if_neg (by decide)]
      have HB1 := hid hb
      clear hb
      go_wp2_with fail
      go_ret
      exact ⟨rfl, H.out.out HB1.out (by omega)⟩
  · have e : cUp zs.length V s = 2 := by unfold cUp; rw [if_neg hs]
    rw [e]
    have HS := hid hs
    clear e hs
    go_enter Tryz.func45, Tryz.ntmps45
    go_wp2_with fail
    refine (find_no s H.out HE.out HS.out).mono ?_
    rintro e w1 ⟨rfl, hb⟩
    have HB1 := hid hb
    clear hb
    go_wp2_with fail
    refine (powered_err _ _).mono ?_
    rintro e w2 ⟨rfl, hx⟩
    subst w2
    go_wp2_with fail
    go_ret
    exact ⟨rfl, H.out.out HB1.out (by omega)⟩
end
theorem sent_but (id : Nat) (deal kind att ph : Int) : ∀ k, sentL id deal kind att ph false k = if id < k then (toL id deal kind att ph k).eraseIdx id else toL id deal kind att ph k
  | 0 => by rw [if_neg (by omega)]; rfl
  | k + 1 => by
    have ih := sent_but id deal kind att ph k
    unfold sentL
    by_cases e : k = id
    · subst e
      rw [if_pos ⟨rfl, rfl⟩, ih, if_neg (by omega), if_pos (by omega)]
      have hl := toL_length k deal kind att ph k
      rw [toL, List.eraseIdx_append_of_length_le (by omega), hl, Nat.sub_self]
      simp
    · rw [if_neg (fun g => e g.1), ih]
      by_cases g : id < k
      · rw [if_pos g, if_pos (by omega), toL, List.eraseIdx_append_of_lt_length (by rw [toL_length]; exact g)]
      · rw [if_neg g, if_neg (by omega)]; rfl
theorem start_elects {id n : Nat} {deal att : Int} (hi : id < n) (ha : att ≠ 0) : startL id deal att n = electsL id deal att n := by
  unfold startL electsL
  rw [if_neg ha, sent_but, if_pos hi]
theorem start_asks {id n : Nat} {deal : Int} : startL id deal 0 n = toL id deal 1 0 0 n := by
  unfold startL
  rw [if_pos rfl, sent_to]
theorem Rel.new (n : Nat) (att : Int) : Rel n att P0 ⟨if att = 0 then 2 else 4, 0, [], 0, 0⟩ := by
  refine ⟨P0_w n, rfl, by decide, ?_, fun x hx => (by cases hx), fun _ => ?_, fun _ => ?_, fun _ => ?_, fun h => (by cases h), rfl, fun _ => rfl, Int.le_refl _⟩
  · show (if att = 0 then (2 : Int) else 4) = if (0 : Nat) = 0 then (if att = 0 then 2 else 4) else _
    rw [if_pos rfl]
  · exact (cntTo_nil n).symm
  · exact (setTo_nil n).symm
  · have : (if att = 0 then ([] : List F9) else []) = [] := by split <;> rfl
    show P0.told = (List.range 7).map (tl (if att = 0 then [] else []))
    rw [this]
    rfl
section
variable {w0 w w1 w' : World} {C C' : Nat → Nat} {K : RB} {Y : YB} {aw : Option Addr} {i n cap m m' d : Nat} {zs : List Int} {N : PN} {V V' : PX}
def updK (K : RB) (d lb : Nat) (vh : Value) : RB := { K with lb := fun e => if e = d then lb else K.lb e, vh := fun e => if e = d then vh else K.vh e }
theorem rldV_upd {lb : Nat} {vh : Value} {x : Int × PL} (e : Nat) : rldV (updK K d lb vh) (setLd N d x) e = if e = d then .pointer (some ⟨lb, 0, none⟩) else rldV K N e := by
  unfold rldV setLd updK
  simp only
  by_cases g : e = d
  · simp [g]
  · simp [g]
theorem RN.lead' {S : Nat → Prop} {lb : Nat} {vh : Value} {a : Int} {P : PL} {L : LSt} (h : RN w C K i n cap aw N) (hu : upN N = true) (hd : d < 6) (k : Kept S w w') (hS : ∀ x, S x → C x = 100 * i + 8 ∨ C x = 100 * i + 10 + d ∨ C x = 100 * i + 20 + d) (hC : ∀ x, x < w.heap.size → C' x = C x) (hr : w'.heap[K.ls]? = some (.cells #[rldV (updK K d lb vh) (setLd N d (a, P)) 0, rldV (updK K d lb vh) (setLd N d (a, P)) 1, rldV (updK K d lb vh) (setLd N d (a, P)) 2, rldV (updK K d lb vh) (setLd N d (a, P)) 3, rldV (updK K d lb vh) (setLd N d (a, P)) 4, rldV (updK K d lb vh) (setLd N d (a, P)) 5] 169 (0, 0)))
    (hRel : Rel n a P L) (hL : RLd w' lb i n cap (d : Int) a aw (stB L.stt) L.wait vh L.hs L.ph L.seen) (c1 : C' lb = 100 * i + 10 + d) (c2 : ∀ g, vh.ownBlock = some g → C' g = 100 * i + 20 + d) :
    RN w' C' (updK K d lb vh) i n cap aw (setLd N d (a, P)) := by
  have e1 := h.cn; have e2 := h.cr; have e3 := h.cl; have e4 := h.cd
  obtain ⟨q1, q2, q3, q4, q5⟩ := h.cu hu
  obtain ⟨u1, u2⟩ := h.up hu
  obtain ⟨t1, t2, t3, t4⟩ := u1.lts
  have no : ∀ x, (C x ≠ 100 * i + 8 ∧ C x ≠ 100 * i + 10 + d ∧ C x ≠ 100 * i + 20 + d) → ¬ S x := fun x q hs => by have := hS x hs; omega
  obtain ⟨off, l', cuts, p1, p2⟩ := h.pl
  refine ⟨k.row h.row (no K.nd (by omega)), ⟨off, l', cuts, p1.kept k (no K.r (by omega)), p2⟩, fun _ => ⟨u1.kept k (no K.m (by omega)) (no K.gn (by omega)) (no K.gs (by omega)) (no K.r (by omega)), u2.kept k (no K.t (by omega)) (no K.gb (by omega))⟩, hr, k.row h.drow (no K.dn (by omega)), fun e he x hx => ?_, (hC _ (row_ltJ h.row)).trans e1, (hC _ (row_ltJ p1)).trans e2, (hC _ (row_ltJ h.lrow)).trans e3, (hC _ (row_ltJ h.drow)).trans e4, fun _ => ⟨(hC _ (row_ltJ u2.row)).trans q1, (hC _ t1).trans q2, (hC _ t2).trans q3, (hC _ t3).trans q4, (hC _ (row_ltJ u2.refs)).trans q5⟩, fun e he x hx => ?_⟩
  · by_cases g : e = d
    · subst g
      have hx' : (a, P) = x := by simpa [setLd] using hx
      subst hx'
      refine ⟨L, hRel, ?_⟩
      simpa [updK] using hL
    · have hx' : N.ld e = some x := by simpa [setLd, g] using hx
      obtain ⟨L', r1, r2⟩ := h.lds e he x hx'
      obtain ⟨b1, b2⟩ := h.ce e he x hx'
      refine ⟨L', r1, ?_⟩
      have := r2.kept k (no _ (by omega)) (fun y hy => no y (by have := b2 y hy; omega))
      simpa [updK, g] using this
  · by_cases g : e = d
    · subst g
      simpa [updK] using And.intro c1 c2
    · have hx' : N.ld e = some x := by simpa [setLd, g] using hx
      obtain ⟨L', r1, r2⟩ := h.lds e he x hx'
      obtain ⟨b1, b2⟩ := h.ce e he x hx'
      have := And.intro ((hC _ (row_ltJ r2.row)).trans b1) (fun y (hy : (K.vh e).ownBlock = some y) => (hC _ ((r2.own.lt y hy).2)).trans (b2 y hy))
      simpa [updK, g] using this
theorem RW.leadOut {x : Int × PL} {P : PL} {L : LSt} {vh : Value} (h : RW w0 w C Y aw cap zs V m) (hi : i < zs.length) (hd : d < 6) (hl : (V.nd i).ld d = some x) (k : Kept (InH ((Y.K i).lb d) ((Y.K i).vh d)) w w') (hr : Rel zs.length x.1 P L) (hR : RLd w' ((Y.K i).lb d) i zs.length cap (d : Int) x.1 aw (stB L.stt) L.wait vh L.hs L.ph L.seen) (hg : ∀ g, vh.ownBlock = some g → ((Y.K i).vh d).ownBlock = some g ∨ w.heap.size ≤ g) (hm : m ≤ m') (hI : NI zs.length (setLd (V.nd i) d (x.1, P)) m') :
    ROut w0 w w' C Y aw cap zs (setNd V i (setLd (V.nd i) d (x.1, P))) m' := by
  have n7 := h.n7.2
  have hN := h.nds i hi
  have hu : upN (V.nd i) = true := by have := ((h.inv.nd i hi).ld d x hl).1; unfold upN; simpa using this
  have e1 := hN.cn; have e3 := hN.cl
  obtain ⟨b1, b2⟩ := hN.ce d hd x hl
  have hS : ∀ y, InH ((Y.K i).lb d) ((Y.K i).vh d) y → C y = 100 * i + 8 ∨ C y = 100 * i + 10 + d ∨ C y = 100 * i + 20 + d := fun y hy => by
    rcases hy with rfl | hy
    · exact .inr (.inl b1)
    · exact .inr (.inr (b2 y hy))
  have hlr := k.row hN.lrow (fun q => by
    rcases q with q | q
    · rw [q] at e3; omega
    · have := b2 _ q; omega)
  obtain ⟨C1, hC1, hl1, hc1⟩ : ∃ C1 : Nat → Nat, (∀ y, y < w.heap.size → C1 y = C y) ∧ (∀ y, w.heap.size ≤ y → C1 y < 2000 → y < w'.heap.size) ∧ ∀ g, vh.ownBlock = some g → C1 g = 100 * i + 20 + d := by
    cases ho : vh.ownBlock with
    | none => exact ⟨C, fun _ _ => rfl, fun y hy hc => by have := h.lt y hc; omega, fun g hgg => by cases hgg⟩
    | some g0 =>
      rcases hg g0 ho with q | q
      · exact ⟨C, fun _ _ => rfl, fun y hy hc => by have := h.lt y hc; omega, fun g hgg => by cases hgg; exact b2 _ q⟩
      · refine ⟨paint C g0 (100 * i + 20 + d), fun y hy => paint_ne (by omega), fun y hy hc => ?_, fun g hgg => by cases hgg; exact paint_at _ _ _⟩
        by_cases e : y = g0
        · rw [e]; exact (hR.own.lt g0 ho).2
        · rw [paint_ne e] at hc
          have := h.lt y hc; omega
  have hrow : w'.heap[(Y.K i).ls]? = some (.cells #[rldV (updK (Y.K i) d ((Y.K i).lb d) vh) (setLd (V.nd i) d (x.1, P)) 0, rldV (updK (Y.K i) d ((Y.K i).lb d) vh) (setLd (V.nd i) d (x.1, P)) 1, rldV (updK (Y.K i) d ((Y.K i).lb d) vh) (setLd (V.nd i) d (x.1, P)) 2, rldV (updK (Y.K i) d ((Y.K i).lb d) vh) (setLd (V.nd i) d (x.1, P)) 3, rldV (updK (Y.K i) d ((Y.K i).lb d) vh) (setLd (V.nd i) d (x.1, P)) 4, rldV (updK (Y.K i) d ((Y.K i).lb d) vh) (setLd (V.nd i) d (x.1, P)) 5] 169 (0, 0)) := by
    rw [hlr]
    have q : ∀ e, rldV (updK (Y.K i) d ((Y.K i).lb d) vh) (setLd (V.nd i) d (x.1, P)) e = rldV (Y.K i) (V.nd i) e := fun e => by
      rw [rldV_upd]
      by_cases g : e = d
      · rw [if_pos g, g, rldV_some hl]
      · rw [if_neg g]
    simp only [q]
  have hRN := hN.lead' (C' := C1) hu hd k hS hC1 hrow hr hR (by rw [hC1 _ (h.lt ((Y.K i).lb d) (by omega))]; exact b1) hc1
  exact ⟨C1, _, h.node k hi (fun y hy => by have := hS y hy; omega) hC1 hl1 hRN rfl hm (h.inv.node hI hm), rkey_K rfl, k.mono (fun y hy => by show C y < 2000; have := hS y hy; omega), hC1⟩
theorem RW.leadNew {lb : Nat} {a : Int} (h : RW w0 w C Y aw cap zs V m) (hi : i < zs.length) (hd : d < 6) (hu : upN (V.nd i) = true) (hb : Below w.heap.size w w1) (hR : RLd w1 lb i zs.length cap (d : Int) a aw (stB 0) (if a = 0 then 2 else 4) (.slice none 0 0) [] 0 0) (hlb : w.heap.size ≤ lb) (ha : 0 ≤ a ∧ a ≤ 1048576) (hm : m ≤ m') :
    ∃ C', RW w0 (w1.setCell ⟨(Y.K i).ls, d, none⟩ (.pointer (some ⟨lb, 0, none⟩))) C' { Y with K := fun e => if e = i then updK (Y.K i) d lb (.slice none 0 0) else Y.K e } aw cap zs (setNd V i (setLd (V.nd i) d (a, P0))) m' ∧ Kept (OwnX C) w (w1.setCell ⟨(Y.K i).ls, d, none⟩ (.pointer (some ⟨lb, 0, none⟩))) ∧ (∀ x, x < w.heap.size → C' x = C x) ∧ ∀ x, x ≠ lb → C' x = C x := by
  have n7 := h.n7.2
  have hN := h.nds i hi
  have e1 := hN.cn; have e3 := hN.cl
  have hlt := row_ltJ hR.row
  have hls := row_ltJ hN.lrow
  have hw := hb.size
  have k : Kept (In1 (Y.K i).ls) w (w1.setCell ⟨(Y.K i).ls, d, none⟩ (.pointer (some ⟨lb, 0, none⟩))) := (Kept.of_below hb).set1 d _
  have hS : ∀ y, In1 (Y.K i).ls y → C y = 100 * i + 8 ∨ C y = 100 * i + 10 + d ∨ C y = 100 * i + 20 + d := fun y hy => .inl (by rw [show y = _ from hy]; exact e3)
  have hl1 : w1.heap[(Y.K i).ls]? = _ := (hb.block _ hls).trans hN.lrow
  have hrow : (w1.setCell ⟨(Y.K i).ls, d, none⟩ (.pointer (some ⟨lb, 0, none⟩))).heap[(Y.K i).ls]? = some (.cells #[rldV (updK (Y.K i) d lb (.slice none 0 0)) (setLd (V.nd i) d (a, P0)) 0, rldV (updK (Y.K i) d lb (.slice none 0 0)) (setLd (V.nd i) d (a, P0)) 1, rldV (updK (Y.K i) d lb (.slice none 0 0)) (setLd (V.nd i) d (a, P0)) 2, rldV (updK (Y.K i) d lb (.slice none 0 0)) (setLd (V.nd i) d (a, P0)) 3, rldV (updK (Y.K i) d lb (.slice none 0 0)) (setLd (V.nd i) d (a, P0)) 4, rldV (updK (Y.K i) d lb (.slice none 0 0)) (setLd (V.nd i) d (a, P0)) 5] 169 (0, 0)) := by
    rw [heap_setCell_same w1 (Y.K i).ls d _ _ _ hl1]
    simp only [rldV_upd]
    rcases six hd with rfl | rfl | rfl | rfl | rfl | rfl <;> rfl
  have hC : ∀ x, x < w.heap.size → paint C lb (100 * i + 10 + d) x = C x := fun x hx => paint_ne (by omega)
  have hRL : RLd (w1.setCell ⟨(Y.K i).ls, d, none⟩ (.pointer (some ⟨lb, 0, none⟩))) lb i zs.length cap (d : Int) a aw (stB 0) (if a = 0 then 2 else 4) (.slice none 0 0) [] 0 0 := hR.kept ((Kept.refl (In1 (Y.K i).ls) w1).set1 d _) (fun q => by have : lb = _ := q; omega) (fun g hg => by cases hg)
  have hRN := hN.lead' (C' := paint C lb (100 * i + 10 + d)) hu hd k hS hC hrow (Rel.new zs.length a) hRL (paint_at _ _ _) (fun g hg => by cases hg)
  have hl2 : (V.nd i).l ≠ -2 := by unfold upN at hu; simpa using hu
  have hI := (h.inv.nd i hi).putLead (d := d) (a := a) (P := P0) hl2 ha (by decide) ⟨Int.le_refl _, by decide⟩ (P0_w _)
  refine ⟨paint C lb (100 * i + 10 + d), h.node k hi (fun y hy => by have := hS y hy; omega) hC (fun y hy hc => ?_) hRN rfl hm (h.inv.node (hI.mono hm) hm), k.mono (fun y hy => by show C y < 2000; have := hS y hy; omega), hC, fun x hx => paint_ne hx⟩
  by_cases e : y = lb
  · rw [e]; simpa using hlt
  · rw [paint_ne e] at hc
    have := h.lt y hc
    omega
end
end Go.Proofs.YtbaamegnmeohoacGreatDoor
