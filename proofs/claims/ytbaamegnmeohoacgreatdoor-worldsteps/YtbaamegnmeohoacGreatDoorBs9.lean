/-
  On the way to WStepsProof: JL JM JN JO.
-/
import Derived.Test.YtbaamegnmeohoacGreatDoorBs8
import Derived.Laws.StructEq
namespace Go.Proofs.YtbaamegnmeohoacGreatDoor
open Go.RowKit
theorem read17 (A : Nat → Addr) (w0 w : World) (j p q : Nat) (E : Nat → Nat × St) (over : Bool) (B : ByteArray) (l : Int) (k : Nat) (z : Int) (x : UInt8) (h : JP w0 w j p q E over B l) (hE : HeldE w0 A) (hk : k < 12) (hl : ¬ l = -2) (hz : z = ((18 * k + 17 : Nat) : Int)) (hx : B.data.toList[18 * k + 17]? = some x) :
    Calls Tryz.prog 142 #[.pointer (some ⟨p, 0, none⟩), .int .i64 z, .int .i64 1] w fun e w' => e = .returned (.tuple #[.string (bA [x]), .nilIface]) ∧ w' = w := by
  subst hz
  have e : B.extract (18 * k + 17) (18 * k + 17 + 1) = bA [x] := by
    apply ba_ext
    rw [ext_list, bA_list]
    obtain ⟨h1, h2⟩ := List.getElem?_eq_some_iff.1 hx
    rw [List.drop_eq_getElem_cons h1, h2]
    simp
  have := pread_ok A p q B l (18 * k + 17) 1 w h.pl (h.held hE) h.sz hl (by have := h.s6; omega)
  rw [e] at this
  exact this
theorem read17_off (A : Nat → Addr) (w0 w : World) (j p q : Nat) (E : Nat → Nat × St) (over : Bool) (B : ByteArray) (k : Nat) (z : Int) (h : JP w0 w j p q E over B (-2)) (hE : HeldE w0 A) (hk : k < 12) (hz : z = ((18 * k + 17 : Nat) : Int)) :
    Calls Tryz.prog 142 #[.pointer (some ⟨p, 0, none⟩), .int .i64 z, .int .i64 1] w fun e w' => e = .returned (.tuple #[.string ⟨#[]⟩, .iface 342 (.pointer (some (A 5)))]) ∧ w' = w := by
  subst hz
  exact pread_off A p q B _ 1 w h.pl (h.held hE) h.sz (by have := h.s6; omega)
theorem write_ok (A : Nat → Addr) (w0 w : World) (j p q : Nat) (E : Nat → Nat × St) (over : Bool) (B s : ByteArray) (l a : Int) (h : JP w0 w j p q E over B l) (hE : HeldE w0 A) (hs : s.size ≤ 1000) (hc : wC B s l a = 0) :
    Calls Tryz.prog 255 #[.pointer (some ⟨p, 0, none⟩), .int .i64 a, .string s] w fun e w' => e = .returned .nilIface ∧ JP w0 w' j p q E over (wB B s l a) (wL B s l a) ∧ Kept (In2 p q) w w' := write_jp A w0 w j p q E over B s l a h hE hs 0 hc
theorem write_no (A : Nat → Addr) (w0 w : World) (j p q : Nat) (E : Nat → Nat × St) (over : Bool) (B s : ByteArray) (l a : Int) (h : JP w0 w j p q E over B l) (hE : HeldE w0 A) (hs : s.size ≤ 1000) (c : Nat) (hc : wC B s l a = c + 1) :
    Calls Tryz.prog 255 #[.pointer (some ⟨p, 0, none⟩), .int .i64 a, .string s] w fun e w' => e = .returned (.iface 342 (.pointer (some (A c)))) ∧ JP w0 w' j p q E over (wB B s l a) (wL B s l a) ∧ Kept (In2 p q) w w' := write_jp A w0 w j p q E over B s l a h hE hs (c + 1) hc
theorem ext17 (n : Nat) (s : St) : (bA (bodyL n s ++ [165])).extract 0 17 = bA (bodyL n s) := by
  apply ba_ext
  rw [ext_list, bA_list, bA_list, List.drop_zero, Nat.sub_zero]
  exact take_app (bodyL_length n s)
theorem ext18 (n : Nat) (s : St) : (bA (bodyL n s ++ [165])).extract 17 (bA (bodyL n s ++ [165])).size = bA [165] := by
  apply ba_ext
  rw [ext_list, bA_list, bA_list, drop_app (bodyL_length n s), bA_size, List.length_append, bodyL_length]
  rfl
set_option maxHeartbeats 2000000 in
set_option maxRecDepth 100000 in
theorem fill_any (A : Nat → Addr) (w0 w : World) (j p q : Nat) (E : Nat → Nat × St) (over : Bool) (B : ByteArray) (l : Int) (k n : Nat) (s : St) (h : JP w0 w j p q E over B l) (hE : HeldE w0 A) (hk : k < 12) :
    Calls Tryz.prog 250 #[.pointer (some ⟨j, 0, none⟩), .int .i64 ((18 * k : Nat) : Int), .string (bA (bodyL n s ++ [165]))] w fun e w' => e = .returned (ev A (fill3 B l k n s).c) ∧ JP w0 w' j p q E over (fill3 B l k n s).b (fill3 B l k n s).l ∧ Kept (In2 p q) w w' := by
  have H := hid h
  have HE := hid hE
  have cj := h.jr.plate
  obtain ⟨a, Ha⟩ : ∃ a, Hid (18 * k = a) := ⟨_, rfl⟩
  have ha : a ≤ 216 := by rw [← Ha.out]; omega
  have hwr : IntKind.i64.wrap ((a : Int) + 17) = (a : Int) + 17 := by rw [IntKind.wrap_i64]; omega
  have hz : Hid ((a : Int) + 17 = ((18 * k + 17 : Nat) : Int)) := by unfold Hid; rw [← Ha.out]; omega
  have hs1 := slice_high (bA (bodyL n s ++ [165])) 17 17 rfl (by rw [bA_size, List.length_append, bodyL_length]; decide)
  have hs2 := slice_low (bA (bodyL n s ++ [165])) 17 17 rfl (by rw [bA_size, List.length_append, bodyL_length]; decide)
  rw [ext17] at hs1
  rw [ext18] at hs2
  have Z1 : Hid ((bA (bodyL n s)).size ≤ 1000) := by unfold Hid; rw [bA_size, bodyL_length]; decide
  rw [Ha.out]
  by_cases hl : l = -2
  · subst hl
    have F : Hid (fill3 B (-2) k n s = ⟨6, B, -2⟩) := by unfold Hid fill3 fill2 fill1; simp
    rw [F.out]
    clear h hE
    go_enter Tryz.func250, Tryz.ntmps250
    go_wp2_with (go_at_call 142; refine (read17_off A w0 _ j p q E over B k _ H.out HE.out hk hz.out).mono ?_; rintro e wx ⟨rfl, hx⟩; subst wx)
    go_ret
    exact ⟨rfl, H.out, Kept.refl _ _⟩
  · have hlen : 18 * k + 17 < B.data.toList.length := by rw [← size_list]; have := h.s6; omega
    obtain ⟨x, hx⟩ : ∃ x, B.data.toList[18 * k + 17]? = some x := ⟨_, List.getElem?_eq_getElem hlen⟩
    have HL := hid hl
    have HX := hid hx
    have ix := idx_str (bA [x]) 0 0 (by rw [bA_size]; exact Nat.one_pos) rfl
    have ix0 : ((bA [x])[0]'(by rw [bA_size]; exact Nat.one_pos)).toNat = x.toNat := rfl
    rw [ix0] at ix
    clear ix0 h hE hl hx hlen
    obtain ⟨⟨c1, B1, l1⟩, HF1⟩ : ∃ o, Hid (fill1 B l k = o) := ⟨_, rfl⟩
    obtain ⟨c2, HC2⟩ : ∃ c, Hid (wC B1 (bA (bodyL n s)) l1 a = c) := ⟨_, rfl⟩
    obtain ⟨c3, HC3⟩ : ∃ c, Hid (wC (wB B1 (bA (bodyL n s)) l1 a) (bA [165]) (wL B1 (bA (bodyL n s)) l1 a) ((a : Int) + 17) = c) := ⟨_, rfl⟩
    have f1 : ∀ c, c1 = c + 1 → Hid (fill3 B l k n s = ⟨c1, B1, l1⟩) := fun c e => by
      unfold Hid fill3 fill2
      rw [HF1.out]
      simp [e]
    have f2 : ∀ c, c1 = 0 → c2 = c + 1 → Hid (fill3 B l k n s = ⟨c2, wB B1 (bA (bodyL n s)) l1 a, wL B1 (bA (bodyL n s)) l1 a⟩) := fun c e e2 => by
      unfold Hid fill3 fill2
      rw [HF1.out, if_pos e]
      unfold wOut
      rw [Ha.out, HC2.out, if_neg (by simp [e2])]
    have f3 : c1 = 0 → c2 = 0 → Hid (fill3 B l k n s = ⟨c3, wB (wB B1 (bA (bodyL n s)) l1 a) (bA [165]) (wL B1 (bA (bodyL n s)) l1 a) ((a : Int) + 17), wL (wB B1 (bA (bodyL n s)) l1 a) (bA [165]) (wL B1 (bA (bodyL n s)) l1 a) ((a : Int) + 17)⟩) := fun e e2 => by
      unfold Hid fill3 fill2
      rw [HF1.out, if_pos e]
      unfold wOut
      rw [Ha.out, HC2.out, if_pos e2, show ((a + 17 : Nat) : Int) = (a : Int) + 17 by omega, HC3.out]
    obtain ⟨O, HO⟩ : ∃ o, Hid (fill3 B l k n s = o) := ⟨_, rfl⟩
    rw [HO.out]
    rw [HO.out] at f1 f2 f3
    have Z2 : Hid ((bA [165]).size ≤ 1000) := by unfold Hid; rw [bA_size]; decide
    have Z0 : Hid ((bA [0]).size ≤ 1000) := by unfold Hid; rw [bA_size]; decide
    go_enter Tryz.func250, Tryz.ntmps250
    go_upto_if 26 with (go_at_call 142; refine (read17 A w0 _ j p q E over B l k _ x H.out HE.out hk HL.out hz.out HX.out).mono ?_; rintro e wx ⟨rfl, hx⟩; subst wx)
    go_cut [] from 7 (fun wx => c1 = 0 ∧ JP w0 wx j p q E over B1 l1 ∧ Kept (In2 p q) w wx)
    case first =>
      by_cases hx0 : x = 0
      · subst hx0
        have e1 : fill1 B l k = ⟨0, B, l⟩ := by unfold fill1; rw [if_neg HL.out, if_pos HX.out]
        rw [HF1.out] at e1
        injection e1 with e1 e2 e3
        subst e1 e2 e3
        go_wp2_with fail
        go_meet
        exact ⟨by first | trivial | rfl, H.out, Kept.refl _ _⟩
      · have hx1 : ¬ x.toNat = 0 := fun g => hx0 (UInt8.toNat_inj.1 g)
        have e1 : fill1 B l k = wOut B (bA [0]) l (18 * k + 17) := by unfold fill1; rw [if_neg HL.out, if_neg (fun g => hx0 (by rw [HX.out] at g; exact Option.some.inj g))]
        rw [HF1.out] at e1
        unfold wOut at e1
        rw [Ha.out] at e1
        injection e1 with e1 e2 e3
        have E1 := hid e1.symm
        subst e2 e3
        clear e1 f2 f3 HC2 HC3 HF1
        rcases c1 with _ | c
        · go_wp2_with (go_at_call 255; refine (write_ok A w0 _ j p q E over B (bA [0]) l _ H.out HE.out Z0.out E1.out).mono ?_; rintro e w2 ⟨rfl, h2, k2⟩; have K2 := hid k2; clear k2; have H2 := hid h2; clear h2)
          go_meet
          exact ⟨by first | trivial | rfl, H2.out, K2.out⟩
        · have F := f1 c rfl
          go_wp2_with (go_at_call 255; refine (write_no A w0 _ j p q E over B (bA [0]) l _ H.out HE.out Z0.out c E1.out).mono ?_; rintro e w2 ⟨rfl, h2, k2⟩; have K2 := hid k2; clear k2; have H2 := hid h2; clear h2)
          go_ret
          exact ⟨by rw [F.out]; rfl, by rw [F.out]; exact H2.out, K2.out⟩
    case rest =>
      obtain ⟨hc1, hj, hk0⟩ := hcut
      have HK := hid hk0
      have HJ := hid hj
      have HC1 := hid hc1
      have cjc := hj.jr.plate
      clear hc1 hj hk0 cj H
      rcases c2 with _ | c
      · have F := f3 HC1.out rfl
        clear f1 f2 f3
        go_wp2_with fail
        go_region_held3 (fun w' => w'.cell? ⟨j, 0, none⟩ = some (.pointer (some ⟨p, 0, none⟩))) (go_keep) (first | (go_at_call 255; (with_reducible refine (write_ok A w0 _ j p q E over B1 (bA (bodyL n s)) l1 a HJ.out.drew HE.out Z1.out HC2.out).mono ?_); rintro e w2 ⟨rfl, h2, k2⟩; have K2 := hid k2; clear k2; have cj2 := h2.jr.plate; have H2 := hid h2; clear h2))
        all_goals go_wp2_with fail
        go_region_held3 (fun w' => w'.cell? ⟨j, 0, none⟩ = some (.pointer (some ⟨p, 0, none⟩))) (go_keep) (first | (go_at_call 255; (with_reducible refine (write_jp A w0 _ j p q E over _ (bA [165]) _ _ H2.out.drew HE.out Z2.out c3 HC3.out).mono ?_); rintro e w3 ⟨rfl, h3, k3⟩; have K3 := hid k3; clear k3; have cj3 := h3.jr.plate; have H3 := hid h3; clear h3))
        all_goals go_wp2_with fail
        go_ret
        exact ⟨by rw [F.out]; rfl, by rw [F.out]; exact H3.out, (HK.out.drew.trans K2.out).drew.trans K3.out⟩
      · have F := f2 c HC1.out rfl
        clear f1 f2 f3
        go_wp2_with fail
        go_region_held3 (fun w' => w'.cell? ⟨j, 0, none⟩ = some (.pointer (some ⟨p, 0, none⟩))) (go_keep) (first | (go_at_call 255; (with_reducible refine (write_no A w0 _ j p q E over B1 (bA (bodyL n s)) l1 a HJ.out.drew HE.out Z1.out c HC2.out).mono ?_); rintro e w2 ⟨rfl, h2, k2⟩; have K2 := hid k2; clear k2; have cj2 := h2.jr.plate; have H2 := hid h2; clear h2))
        all_goals go_wp2_with fail
        go_ret
        exact ⟨by rw [F.out]; rfl, by rw [F.out]; exact H2.out, HK.out.drew.trans K2.out⟩
structure POut where
  c : Nat
  e : Nat → Nat × St
  over : Bool
  b : ByteArray
  l : Int
def putIn (E : Nat → Nat × St) (B : ByteArray) (l : Int) (d : Nat) (s : St) : POut :=
  @ite POut ((E d).2 = s) (stEq (E d).2 s) ⟨0, E, false, B, l⟩ <| if (E d).1 = 4294967295 then ⟨5, E, false, B, l⟩
  else if (fill3 B l (nextK d (E d).1) ((E d).1 + 1) s).c = 0 then ⟨0, updE E d ((E d).1 + 1, s), false, (fill3 B l (nextK d (E d).1) ((E d).1 + 1) s).b, (fill3 B l (nextK d (E d).1) ((E d).1 + 1) s).l⟩
  else ⟨(fill3 B l (nextK d (E d).1) ((E d).1 + 1) s).c, E, true, (fill3 B l (nextK d (E d).1) ((E d).1 + 1) s).b, (fill3 B l (nextK d (E d).1) ((E d).1 + 1) s).l⟩
def In3 (j p q k : Nat) : Prop := k = j ∨ k = p ∨ k = q
theorem place_z (d n r : Nat) (z : Int) (w : World) (hz : z = (n : Int)) (hd : d ≤ 100) (hn : n < 4294967296) (hr : 18 * (2 * d + n % 2) = r) :
    Calls Tryz.prog 143 #[.int .i64 (d : Int), .int .u32 z] w fun e w' => e = .returned (.int .i64 (r : Int)) ∧ w' = w := by
  subst hz; exact place_is d n r w hd hn hr
theorem slot_z (n ph p a : Nat) (z : Int) (w : World) (hz : z = (n : Int)) (hn : n < 4294967296) (h1 : ph < 256) (h2 : p < 4294967296) (h3 : a < 4294967296) :
    Calls Tryz.prog 227 #[.agg #[.int .i64 (ph : Int), .int .i64 (p : Int), .int .i64 (a : Int), .int .u32 z]] w fun e w' => e = .returned (.string (bA (bodyL n ⟨ph, p, a⟩ ++ [165]))) ∧ Below w.heap.size w w' := by
  subst hz; exact slot_ag n ph p a w hn h1 h2 h3
section
variable (A : Nat → Addr) (w0 w : World) (j p q : Nat) (E : Nat → Nat × St) (B : ByteArray) (l : Int)
theorem fill_ok (over : Bool) (k n r : Nat) (s : St) (h : JP w0 w j p q E over B l) (hE : HeldE w0 A) (hk : k < 12) (hr : 18 * k = r) (hc : (fill3 B l k n s).c = 0) :
    Calls Tryz.prog 250 #[.pointer (some ⟨j, 0, none⟩), .int .i64 (r : Int), .string (bA (bodyL n s ++ [165]))] w fun e w' => e = .returned .nilIface ∧ JP w0 w' j p q E over (fill3 B l k n s).b (fill3 B l k n s).l ∧ Kept (In2 p q) w w' := by
  have := fill_any A w0 w j p q E over B l k n s h hE hk
  rw [hc, hr] at this
  exact this
theorem fill_no (over : Bool) (k n r : Nat) (s : St) (c : Nat) (h : JP w0 w j p q E over B l) (hE : HeldE w0 A) (hk : k < 12) (hr : 18 * k = r) (hc : (fill3 B l k n s).c = c + 1) :
    Calls Tryz.prog 250 #[.pointer (some ⟨j, 0, none⟩), .int .i64 (r : Int), .string (bA (bodyL n s ++ [165]))] w fun e w' => e = .returned (.iface 342 (.pointer (some (A c)))) ∧ JP w0 w' j p q E over (fill3 B l k n s).b (fill3 B l k n s).l ∧ Kept (In2 p q) w w' := by
  have := fill_any A w0 w j p q E over B l k n s h hE hk
  rw [hc, hr] at this
  exact this
theorem put_over (d ph pr a : Int) (h : JP w0 w j p q E true B l) (hE : HeldE w0 A) :
    Calls Tryz.prog 229 #[.pointer (some ⟨j, 0, none⟩), .int .i64 d, .agg #[.int .i64 ph, .int .i64 pr, .int .i64 a]] w fun e w' => e = .returned (.iface 342 (.pointer (some (A 5)))) ∧ JP w0 w' j p q E true B l ∧ Kept (In3 j p q) w w' := by
  have c := h.jr.over
  have hj := h.jr.lt
  have g5 := (h.held hE).g5
  have g5b := cell_allocJ (o := .cells #[.int .i64 ph, .int .i64 pr, .int .i64 a] 113) g5
  have HJ := hid (h.later ((Below.refl _ _).alloc (Nat.le_refl _) (.cells #[.int .i64 ph, .int .i64 pr, .int .i64 a] 113)))
  clear h hE
  go_enter Tryz.func229, Tryz.ntmps229
  go_wp2_with fail
  go_ret
  exact ⟨rfl, HJ.out, kept_alloc _ _ _⟩
theorem put_bound (d ph pr a : Int) (h : JP w0 w j p q E false B l) (hE : HeldE w0 A) (hb : ¬ ((0 ≤ d ∧ d < 6) ∧ fitsB ph pr a = true)) :
    Calls Tryz.prog 229 #[.pointer (some ⟨j, 0, none⟩), .int .i64 d, .agg #[.int .i64 ph, .int .i64 pr, .int .i64 a]] w fun e w' => e = .returned (.iface 342 (.pointer (some (A 1)))) ∧ JP w0 w' j p q E false B l ∧ Kept (In3 j p q) w w' := by
  have c := h.jr.over
  have hj := h.jr.lt
  have g1 := (h.held hE).g1
  have g1b := cell_allocJ (o := .cells #[.int .i64 ph, .int .i64 pr, .int .i64 a] 113) g1
  have HJ := hid (h.later ((Below.refl _ _).alloc (Nat.le_refl _) (.cells #[.int .i64 ph, .int .i64 pr, .int .i64 a] 113)))
  have HE := hid hE
  clear h hE
  by_cases hd : 0 ≤ d ∧ d < 6
  · have hf : fitsB ph pr a = false := by
      cases hx : fitsB ph pr a
      · rfl
      · exact absurd ⟨hd, hx⟩ hb
    have HK := hid (decide_eq_true hd)
    have HF := hid hf
    clear hb hf hd
    go_enter Tryz.func229, Tryz.ntmps229
    go_wp2_with (first | (go_at_call 186; refine (known_any d _).mono ?_; rw [HK.out]; rintro e wx ⟨rfl, hx⟩; subst wx) | (go_at_call 249; refine (fits_any ph pr a _).mono ?_; rw [HF.out]; rintro e w1 ⟨rfl, hb1⟩; have HJ1 := hid (HJ.out.later hb1); have K1 := hid ((kept_alloc (In3 j p q) w _).trans (Kept.of_below hb1)); have g1c := (HJ1.out.held HE.out).g1; clear hb1))
    go_ret
    exact ⟨rfl, HJ1.out, K1.out⟩
  · have HK := hid (decide_eq_false hd)
    clear hb hd
    go_enter Tryz.func229, Tryz.ntmps229
    go_wp2_with (go_at_call 186; refine (known_any d _).mono ?_; rw [HK.out]; rintro e wx ⟨rfl, hx⟩; subst wx)
    go_ret
    exact ⟨rfl, HJ.out, kept_alloc _ _ _⟩
set_option maxHeartbeats 4000000 in
set_option maxRecDepth 100000 in
theorem put_in (d : Nat) (s : St) (h : JP w0 w j p q E false B l) (hE : HeldE w0 A) (hd : d < 6) (hf : fitsB s.ph s.pr s.at_ = true) (hn : (E d).1 < 4294967296) :
    Calls Tryz.prog 229 #[.pointer (some ⟨j, 0, none⟩), .int .i64 (d : Int), .agg #[.int .i64 (s.ph : Int), .int .i64 (s.pr : Int), .int .i64 (s.at_ : Int)]] w fun e w' => e = .returned (ev A (putIn E B l d s).c) ∧ JP w0 w' j p q (putIn E B l d s).e (putIn E B l d s).over (putIn E B l d s).b (putIn E B l d s).l ∧ Kept (In3 j p q) w w' := by
  have HK : Hid (decide (0 ≤ (d : Int) ∧ (d : Int) < 6) = true) := decide_eq_true ⟨by omega, by omega⟩
  have HF := hid hf
  have HE := hid hE
  obtain ⟨O, HO⟩ : ∃ o, Hid (putIn E B l d s = o) := ⟨_, rfl⟩
  rw [HO.out]
  obtain ⟨ph, pr, a⟩ := s
  obtain ⟨W, HW⟩ : ∃ W, Hid (w.alloc (.cells #[.int .i64 (ph : Int), .int .i64 (pr : Int), .int .i64 (a : Int)] 113) = W) := ⟨_, rfl⟩
  have hW := HW.out
  have HJ : Hid (JP w0 W j p q E false B l) := by rw [← HW.out]; exact h.later ((Below.refl _ _).alloc (Nat.le_refl _) _)
  have RW : Hid (W.heap[w.heap.size]? = some (.cells #[.int .i64 (ph : Int), .int .i64 (pr : Int), .int .i64 (a : Int)] 113 (0, 0))) := by rw [← HW.out]; exact heap_alloc_new w _
  have cW := HJ.out.jr.over
  have b0 : W.cell? ⟨w.heap.size, 0, none⟩ = some (.int .i64 (ph : Int)) := by rw [cell_of_row _ _ _ _ _ _ RW.out]; rfl
  have b1 : W.cell? ⟨w.heap.size, 1, none⟩ = some (.int .i64 (pr : Int)) := by rw [cell_of_row _ _ _ _ _ _ RW.out]; rfl
  have b2 : W.cell? ⟨w.heap.size, 2, none⟩ = some (.int .i64 (a : Int)) := by rw [cell_of_row _ _ _ _ _ _ RW.out]; rfl
  have hsW : w.heap.size < W.heap.size := row_ltJ RW.out
  clear h hE hf
  go_enter Tryz.func229, Tryz.ntmps229
  go_wp2_with (go_at_call 186; refine (known_any d _).mono ?_; rw [HK.out]; rintro e wx ⟨rfl, hx⟩; subst wx)
  refine (fits_any ph pr a _).mono ?_
  rw [HF.out]
  rintro e w1 ⟨rfl, hb1⟩
  have HJ1 := hid (HJ.out.later hb1)
  have K1 : Hid (Kept (In3 j p q) w w1) := by
    have k0 : Kept (In3 j p q) w W := by rw [← HW.out]; exact kept_alloc _ _ _
    exact k0.trans (Kept.of_below hb1)
  have R1 := hid ((hb1.block _ hsW).trans RW.out)
  have hs1 : w.heap.size < w1.heap.size := row_ltJ R1.out
  clear hb1
  obtain ⟨⟨n, ph', pr', a'⟩, HEd⟩ : ∃ x, Hid (E d = x) := ⟨_, rfl⟩
  have hj1 := HJ1.out.jr.lt
  obtain ⟨c0, c1, c2, c3⟩ := HJ1.out.jr.ent hd
  rw [HEd.out] at c0 c1 c2 c3 hn
  obtain ⟨X1, HX1⟩ : ∃ X, Hid (w1.alloc (.cells #[.int .i64 (ph' : Int), .int .i64 (pr' : Int), .int .i64 (a' : Int), .int .u32 (n : Int)] 177) = X) := ⟨_, rfl⟩
  have hX1 := HX1.out
  have HJX : Hid (JP w0 X1 j p q E false B l) := by rw [← HX1.out]; exact HJ1.out.later ((Below.refl _ _).alloc (Nat.le_refl _) _)
  have KX : Hid (Kept (In3 j p q) w X1) := by rw [← HX1.out]; exact K1.out.trans (kept_alloc _ _ _)
  have RX : Hid (X1.heap[w1.heap.size]? = some (.cells #[.int .i64 (ph' : Int), .int .i64 (pr' : Int), .int .i64 (a' : Int), .int .u32 (n : Int)] 177 (0, 0))) := by rw [← HX1.out]; exact heap_alloc_new w1 _
  have RB : Hid (X1.heap[w.heap.size]? = some (.cells #[.int .i64 (ph : Int), .int .i64 (pr : Int), .int .i64 (a : Int)] 113 (0, 0))) := by rw [← HX1.out]; exact (Below.heap_alloc w1 _ _ hs1).trans R1.out
  have d0 : X1.cell? ⟨w.heap.size, 0, none⟩ = some (.int .i64 (ph : Int)) := by rw [cell_of_row _ _ _ _ _ _ RB.out]; rfl
  have d1 : X1.cell? ⟨w.heap.size, 1, none⟩ = some (.int .i64 (pr : Int)) := by rw [cell_of_row _ _ _ _ _ _ RB.out]; rfl
  have d2 : X1.cell? ⟨w.heap.size, 2, none⟩ = some (.int .i64 (a : Int)) := by rw [cell_of_row _ _ _ _ _ _ RB.out]; rfl
  have o0 : X1.cell? ⟨w1.heap.size, 0, none⟩ = some (.int .i64 (ph' : Int)) := by rw [cell_of_row _ _ _ _ _ _ RX.out]; rfl
  have o1 : X1.cell? ⟨w1.heap.size, 1, none⟩ = some (.int .i64 (pr' : Int)) := by rw [cell_of_row _ _ _ _ _ _ RX.out]; rfl
  have o2 : X1.cell? ⟨w1.heap.size, 2, none⟩ = some (.int .i64 (a' : Int)) := by rw [cell_of_row _ _ _ _ _ _ RX.out]; rfl
  have o3 : X1.cell? ⟨w1.heap.size, 3, none⟩ = some (.int .u32 (n : Int)) := by rw [cell_of_row _ _ _ _ _ _ RX.out]; rfl
  obtain ⟨eqb, HQ⟩ : ∃ b : Bool, Hid (stSame ⟨ph', pr', a'⟩ ⟨ph, pr, a⟩ = b) := ⟨_, hid (Eq.refl _)⟩
  go_upto_region 6 with fail
  go_cut [33] from 10 (fun s33 wx => s33 = .bool eqb ∧ X1 = wx)
  case first =>
    go_wp2_with fail
    all_goals go_meet
    all_goals refine ⟨congrArg Value.bool ?_, rfl⟩
    all_goals rw [← HQ.out]
    all_goals show _ = decide (ph' = ph ∧ pr' = pr ∧ a' = a)
    all_goals first | (refine (decide_eq_true ?_).symm; omega) | (refine (decide_eq_false ?_).symm; omega)
  case rest =>
    obtain ⟨rfl, rfl⟩ := hcut
    cases eqb with
    | true =>
      have e : (⟨ph', pr', a'⟩ : St) = ⟨ph, pr, a⟩ := stSame_true HQ.out
      have F : Hid (O = ⟨0, E, false, B, l⟩) := by rw [← HO.out]; unfold Hid putIn; rw [HEd.out, if_pos e]
      go_wp2_with fail
      go_ret
      exact ⟨by rw [F.out]; rfl, by rw [F.out]; exact HJX.out, KX.out⟩
    | false =>
      have ne : ¬ (⟨ph', pr', a'⟩ : St) = ⟨ph, pr, a⟩ := stSame_false HQ.out
      have hjc := HJX.out.jr.lt
      by_cases hmax : n = 4294967295
      · have F : Hid (O = ⟨5, E, false, B, l⟩) := by rw [← HO.out]; unfold Hid putIn; rw [HEd.out, if_neg ne, if_pos hmax]
        have g4 := (HJX.out.held HE.out).g4
        subst hmax
        go_wp2_with fail
        go_ret
        exact ⟨by rw [F.out]; rfl, by rw [F.out]; exact HJX.out, KX.out⟩
      · obtain ⟨kk, HKK⟩ : ∃ k, Hid (nextK d n = k) := ⟨_, rfl⟩
        obtain ⟨r, HR⟩ : ∃ r, Hid (18 * kk = r) := ⟨_, rfl⟩
        have HRp : Hid (18 * (2 * d + (n + 1) % 2) = r) := by rw [← HR.out, ← HKK.out]; rfl
        have hk12 : Hid (kk < 12) := by rw [← HKK.out]; unfold Hid nextK; omega
        have hf := of_decide_eq_true HF.out
        have L1 : Hid (ph < 256) := by unfold Hid; omega
        have L2 : Hid (pr < 4294967296) := by unfold Hid; omega
        have L3 : Hid (a < 4294967296) := by unfold Hid; omega
        have hn1 : n + 1 < 4294967296 := by omega
        have HN1 : Hid (((n : Int) + 1) = ((n + 1 : Nat) : Int)) := by unfold Hid; omega
        clear hf
        obtain ⟨Y, HY⟩ : ∃ Y, Hid (X1.alloc (.cells #[.int .i64 (ph : Int), .int .i64 (pr : Int), .int .i64 (a : Int), .int .u32 ((n : Int) + 1)] 177) = Y) := ⟨_, rfl⟩
        have hY := HY.out
        have HJY : Hid (JP w0 Y j p q E false B l) := by rw [← HY.out]; exact HJX.out.later ((Below.refl _ _).alloc (Nat.le_refl _) _)
        have KY : Hid (Kept (In3 j p q) w Y) := by rw [← HY.out]; exact KX.out.trans (kept_alloc _ _ _)
        have RY : Hid (Y.heap[X1.heap.size]? = some (.cells #[.int .i64 (ph : Int), .int .i64 (pr : Int), .int .i64 (a : Int), .int .u32 ((n : Int) + 1)] 177 (0, 0))) := by rw [← HY.out]; exact heap_alloc_new X1 _
        have hep : Hid (X1.heap.size ≠ p ∧ X1.heap.size ≠ q ∧ X1.heap.size ≠ j) := ⟨by have := row_lt HJX.out.pl.head; omega, by have := row_lt HJX.out.pl.row; omega, by omega⟩
        have y0 : Y.cell? ⟨X1.heap.size, 0, none⟩ = some (.int .i64 (ph : Int)) := by rw [cell_of_row _ _ _ _ _ _ RY.out]; rfl
        have y1 : Y.cell? ⟨X1.heap.size, 1, none⟩ = some (.int .i64 (pr : Int)) := by rw [cell_of_row _ _ _ _ _ _ RY.out]; rfl
        have y2 : Y.cell? ⟨X1.heap.size, 2, none⟩ = some (.int .i64 (a : Int)) := by rw [cell_of_row _ _ _ _ _ _ RY.out]; rfl
        have y3 : Y.cell? ⟨X1.heap.size, 3, none⟩ = some (.int .u32 ((n : Int) + 1)) := by rw [cell_of_row _ _ _ _ _ _ RY.out]; rfl
        have hsY : X1.heap.size < Y.heap.size := row_ltJ RY.out
        rcases hc : (fill3 B l kk (n + 1) ⟨ph, pr, a⟩).c with _ | c
        · have HC := hid hc
          have F : Hid (O = ⟨0, updE E d (n + 1, ⟨ph, pr, a⟩), false, (fill3 B l kk (n + 1) ⟨ph, pr, a⟩).b, (fill3 B l kk (n + 1) ⟨ph, pr, a⟩).l⟩) := by
            rw [← HO.out]; unfold Hid putIn; rw [HEd.out, if_neg ne, if_neg hmax]; simp only []; rw [HKK.out, if_pos hc]
          clear hc
          go_upto_region 11 with fail
          go_cut [9] from 10 (fun s9 wx => s9 = .nilIface ∧ JP w0 wx j p q E false (fill3 B l kk (n + 1) ⟨ph, pr, a⟩).b (fill3 B l kk (n + 1) ⟨ph, pr, a⟩).l ∧ wx.heap[X1.heap.size]? = some (.cells #[.int .i64 (ph : Int), .int .i64 (pr : Int), .int .i64 (a : Int), .int .u32 ((n : Int) + 1)] 177 (0, 0)) ∧ Kept (In3 j p q) w wx)
          case first =>
            go_region_held3 (fun w' => w'.cell? ⟨X1.heap.size, 0, none⟩ = some (.int .i64 (ph : Int)) ∧ w'.cell? ⟨X1.heap.size, 1, none⟩ = some (.int .i64 (pr : Int)) ∧ w'.cell? ⟨X1.heap.size, 2, none⟩ = some (.int .i64 (a : Int)) ∧ w'.cell? ⟨X1.heap.size, 3, none⟩ = some (.int .u32 ((n : Int) + 1))) (go_keep) (first | (go_at_call 143; (with_reducible refine (place_z d (n + 1) r _ _ HN1.out (by omega) hn1 HRp.out).mono ?_); rintro e wx ⟨rfl, hx⟩; subst wx) | (go_at_call 227; (with_reducible refine (slot_z (n + 1) ph pr a _ _ HN1.out hn1 L1.out L2.out L3.out).mono ?_); rintro e w2 ⟨rfl, hb2⟩; have HJ2 := hid (HJY.out.drew.later hb2); have K2 := hid (KY.out.drew.trans (Kept.of_below hb2)); have R2 := hid ((hb2.block _ hsY).trans RY.out); have z0 := (hb2.cell (p := ⟨X1.heap.size, 0, none⟩) hsY).trans y0; have z1 := (hb2.cell (p := ⟨X1.heap.size, 1, none⟩) hsY).trans y1; have z2 := (hb2.cell (p := ⟨X1.heap.size, 2, none⟩) hsY).trans y2; have z3 := (hb2.cell (p := ⟨X1.heap.size, 3, none⟩) hsY).trans y3; clear hb2) | (go_at_call 250; (with_reducible refine (fill_ok A w0 _ j p q E B l false kk (n + 1) r ⟨ph, pr, a⟩ HJ2.out HE.out hk12.out HR.out HC.out).mono ?_); rintro e w3 ⟨rfl, h3, k3⟩; have HJ3 := hid h3; have K3 := hid (K2.out.trans (k3.mono (fun k g => Or.inr g))); have R3 := hid (k3.row R2.out (fun g => g.elim hep.out.1 hep.out.2.1)); have t0 : w3.cell? ⟨X1.heap.size, 0, none⟩ = some (.int .i64 (ph : Int)) := (cell_of_row _ _ _ _ _ _ R3.out).trans rfl; have t1 : w3.cell? ⟨X1.heap.size, 1, none⟩ = some (.int .i64 (pr : Int)) := (cell_of_row _ _ _ _ _ _ R3.out).trans rfl; have t2 : w3.cell? ⟨X1.heap.size, 2, none⟩ = some (.int .i64 (a : Int)) := (cell_of_row _ _ _ _ _ _ R3.out).trans rfl; have t3 : w3.cell? ⟨X1.heap.size, 3, none⟩ = some (.int .u32 ((n : Int) + 1)) := (cell_of_row _ _ _ _ _ _ R3.out).trans rfl; clear h3 k3))
            all_goals go_step
            all_goals go_step
            all_goals go_meet
            all_goals exact ⟨rfl, HJ3.out, R3.out, K3.out⟩
          case rest =>
            obtain ⟨rfl, h3, r3, k3⟩ := hcut
            have K3 := hid k3
            have HJ3 := hid h3
            have R3 := hid r3
            obtain ⟨c0, c1, c2, c3⟩ := h3.jr.ent hd
            have f0 := h3.jr.fz (1 + d * 4)
            have f1 := h3.jr.fz (1 + d * 4 + 1)
            have f2 := h3.jr.fz (1 + d * 4 + 2)
            have f3 := h3.jr.fz (1 + d * 4 + 3)
            have t0 : wc.cell? ⟨X1.heap.size, 0, none⟩ = some (.int .i64 (ph : Int)) := by rw [cell_of_row _ _ _ _ _ _ R3.out]; rfl
            have t1 : wc.cell? ⟨X1.heap.size, 1, none⟩ = some (.int .i64 (pr : Int)) := by rw [cell_of_row _ _ _ _ _ _ R3.out]; rfl
            have t2 : wc.cell? ⟨X1.heap.size, 2, none⟩ = some (.int .i64 (a : Int)) := by rw [cell_of_row _ _ _ _ _ _ R3.out]; rfl
            have t3 : wc.cell? ⟨X1.heap.size, 3, none⟩ = some (.int .u32 ((n : Int) + 1)) := by rw [cell_of_row _ _ _ _ _ _ R3.out]; rfl
            have hne := hep.out.2.2
            clear h3 r3 k3
            go_wp2_with fail
            go_region
            all_goals go_wp2_with fail
            go_ret
            exact ⟨by rw [F.out]; rfl, by rw [F.out]; exact (HJ3.out.own (((((Kept.refl _ wc).set1 _ _).set1 _ _).set1 _ _).set1 _ _) (HJ3.out.jr.set hd (n + 1, ⟨ph, pr, a⟩))).drew, ((((K3.out.setCell (.inl rfl) _).setCell (.inl rfl) _).setCell (.inl rfl) _).setCell (.inl rfl) _).drew⟩
        · have HC := hid hc
          have F : Hid (O = ⟨c + 1, E, true, (fill3 B l kk (n + 1) ⟨ph, pr, a⟩).b, (fill3 B l kk (n + 1) ⟨ph, pr, a⟩).l⟩) := by
            rw [← HO.out]; unfold Hid putIn; rw [HEd.out, if_neg ne, if_neg hmax]; simp only []; rw [HKK.out, if_neg (by omega), hc]
          clear hc
          go_upto_region 11 with fail
          go_cut [9] from 10 (fun s9 wx => s9 = .iface 342 (.pointer (some (A c))) ∧ JP w0 wx j p q E false (fill3 B l kk (n + 1) ⟨ph, pr, a⟩).b (fill3 B l kk (n + 1) ⟨ph, pr, a⟩).l ∧ wx.heap[X1.heap.size]? = some (.cells #[.int .i64 (ph : Int), .int .i64 (pr : Int), .int .i64 (a : Int), .int .u32 ((n : Int) + 1)] 177 (0, 0)) ∧ Kept (In3 j p q) w wx)
          case first =>
            go_region_held3 (fun w' => w'.cell? ⟨X1.heap.size, 0, none⟩ = some (.int .i64 (ph : Int)) ∧ w'.cell? ⟨X1.heap.size, 1, none⟩ = some (.int .i64 (pr : Int)) ∧ w'.cell? ⟨X1.heap.size, 2, none⟩ = some (.int .i64 (a : Int)) ∧ w'.cell? ⟨X1.heap.size, 3, none⟩ = some (.int .u32 ((n : Int) + 1))) (go_keep) (first | (go_at_call 143; (with_reducible refine (place_z d (n + 1) r _ _ HN1.out (by omega) hn1 HRp.out).mono ?_); rintro e wx ⟨rfl, hx⟩; subst wx) | (go_at_call 227; (with_reducible refine (slot_z (n + 1) ph pr a _ _ HN1.out hn1 L1.out L2.out L3.out).mono ?_); rintro e w2 ⟨rfl, hb2⟩; have HJ2 := hid (HJY.out.drew.later hb2); have K2 := hid (KY.out.drew.trans (Kept.of_below hb2)); have R2 := hid ((hb2.block _ hsY).trans RY.out); have z0 := (hb2.cell (p := ⟨X1.heap.size, 0, none⟩) hsY).trans y0; have z1 := (hb2.cell (p := ⟨X1.heap.size, 1, none⟩) hsY).trans y1; have z2 := (hb2.cell (p := ⟨X1.heap.size, 2, none⟩) hsY).trans y2; have z3 := (hb2.cell (p := ⟨X1.heap.size, 3, none⟩) hsY).trans y3; clear hb2) | (go_at_call 250; (with_reducible refine (fill_no A w0 _ j p q E B l false kk (n + 1) r ⟨ph, pr, a⟩ c HJ2.out HE.out hk12.out HR.out HC.out).mono ?_); rintro e w3 ⟨rfl, h3, k3⟩; have HJ3 := hid h3; have K3 := hid (K2.out.trans (k3.mono (fun k g => Or.inr g))); have R3 := hid (k3.row R2.out (fun g => g.elim hep.out.1 hep.out.2.1)); have t0 : w3.cell? ⟨X1.heap.size, 0, none⟩ = some (.int .i64 (ph : Int)) := (cell_of_row _ _ _ _ _ _ R3.out).trans rfl; have t1 : w3.cell? ⟨X1.heap.size, 1, none⟩ = some (.int .i64 (pr : Int)) := (cell_of_row _ _ _ _ _ _ R3.out).trans rfl; have t2 : w3.cell? ⟨X1.heap.size, 2, none⟩ = some (.int .i64 (a : Int)) := (cell_of_row _ _ _ _ _ _ R3.out).trans rfl; have t3 : w3.cell? ⟨X1.heap.size, 3, none⟩ = some (.int .u32 ((n : Int) + 1)) := (cell_of_row _ _ _ _ _ _ R3.out).trans rfl; clear h3 k3))
            all_goals go_step
            all_goals go_step
            all_goals go_meet
            all_goals exact ⟨rfl, HJ3.out, R3.out, K3.out⟩
          case rest =>
            obtain ⟨rfl, h3, r3, k3⟩ := hcut
            have K3 := hid k3
            have HJ3 := hid h3
            have c25 := h3.jr.over
            have f25 := h3.jr.fz 25
            clear h3 r3 k3
            go_wp2_with fail
            go_ret
            exact ⟨by rw [F.out]; rfl, by rw [F.out]; exact HJ3.out.own ((Kept.refl _ wc).set1 _ _) (HJ3.out.jr.setOver true), K3.out.setCell (.inl rfl) _⟩
end
end Go.Proofs.YtbaamegnmeohoacGreatDoor
namespace Go.Proofs.YtbaamegnmeohoacGreatDoor
theorem wL_on (B s : ByteArray) (l a : Int) (h : wC B s l a = 0) : wL B s l a ≠ -2 := by
  unfold wC at h
  unfold wL
  split at h
  · cases h
  · rename_i hb
    rw [if_neg hb]
    split at h
    · cases h
    · rename_i hl
      rw [if_neg hl]
      split at h
      · cases h
      · rename_i hn
        rw [if_neg hn]
        split <;> omega
section
variable {B : ByteArray} {l : Int} {k n : Nat} {s : St}
theorem fill1_out (hB : 18 * (k + 1) ≤ B.size) : ((fill1 B l k).c = 0 ∧ Zeroed B.data.toList k (fill1 B l k).b.data.toList ∧ (fill1 B l k).l ≠ -2) ∨ ((fill1 B l k).c = 6 ∧ Torn B.data.toList k (fill1 B l k).b.data.toList ∧ (fill1 B l k).l = -2) := by
  unfold fill1
  by_cases hl : l = -2
  · rw [if_pos hl]
    exact .inr ⟨rfl, ⟨Only.refl _ _, .inl rfl⟩, hl⟩
  · rw [if_neg hl]
    by_cases hz : B.data.toList[18 * k + 17]? = some 0
    · rw [if_pos hz]
      exact .inl ⟨rfl, zero_skip hz, hl⟩
    · rw [if_neg hz]
      have hw := wr_of B (bA [0]) l (18 * k + 17) (by rw [bA_size]; simp; omega) (by rw [bA_size]; exact Nat.one_pos)
      rw [bA_list] at hw
      rcases zero_wr (by rw [← size_list]; exact hB) hw with ⟨c, z⟩ | ⟨c, t⟩
      · exact .inl ⟨c, z, wL_on _ _ _ _ c⟩
      · exact .inr ⟨c, t, wL_off _ _ _ _ c⟩
theorem fill1_size : (fill1 B l k).b.size = B.size := by
  unfold fill1
  repeat' split
  · rfl
  · rfl
  · exact wB_size _ _ _ _
theorem fill2_size : (fill2 B l k n s).b.size = B.size := by
  unfold fill2
  split
  · exact (wB_size _ _ _ _).trans fill1_size
  · exact fill1_size
theorem fill3_size : (fill3 B l k n s).b.size = B.size := by
  unfold fill3
  split
  · exact (wB_size _ _ _ _).trans fill2_size
  · exact fill2_size
theorem fill2_out (hB : 18 * (k + 1) ≤ B.size) : ((fill2 B l k n s).c = 0 ∧ Bodied B.data.toList k n s (fill2 B l k n s).b.data.toList ∧ (fill2 B l k n s).l ≠ -2) ∨ ((fill2 B l k n s).c = 6 ∧ Torn B.data.toList k (fill2 B l k n s).b.data.toList ∧ (fill2 B l k n s).l = -2) := by
  have hs := fill1_size (B := B) (l := l) (k := k)
  unfold fill2
  rcases fill1_out (l := l) hB with ⟨c, z, ho⟩ | ⟨c, t, ho⟩
  · rw [if_pos c]
    have hw := wr_of (fill1 B l k).b (bA (bodyL n s)) (fill1 B l k).l (18 * k) (by rw [bA_size, bodyL_length, hs]; omega) (by rw [bA_size, bodyL_length]; decide)
    rw [bA_list] at hw
    rcases body_wr (by rw [← size_list]; exact hB) z hw with ⟨c2, z2⟩ | ⟨c2, t2⟩
    · exact .inl ⟨c2, z2, wL_on _ _ _ _ c2⟩
    · exact .inr ⟨c2, t2, wL_off _ _ _ _ c2⟩
  · rw [if_neg (by omega)]
    exact .inr ⟨c, t, ho⟩
theorem fill3_out (hB : 18 * (k + 1) ≤ B.size) : ((fill3 B l k n s).c = 0 ∧ Done B.data.toList k n s (fill3 B l k n s).b.data.toList ∧ (fill3 B l k n s).l ≠ -2) ∨ ((fill3 B l k n s).c = 6 ∧ Torn B.data.toList k (fill3 B l k n s).b.data.toList ∧ (fill3 B l k n s).l = -2) := by
  have hs := fill2_size (B := B) (l := l) (k := k) (n := n) (s := s)
  unfold fill3
  rcases fill2_out (l := l) (n := n) (s := s) hB with ⟨c, z, ho⟩ | ⟨c, t, ho⟩
  · rw [if_pos c]
    have hw := wr_of (fill2 B l k n s).b (bA [165]) (fill2 B l k n s).l (18 * k + 17) (by rw [bA_size, hs]; simp; omega) (by rw [bA_size]; exact Nat.one_pos)
    rw [bA_list] at hw
    rcases last_wr (by rw [← size_list]; exact hB) z hw with ⟨c2, z2⟩ | ⟨c2, t2⟩
    · exact .inl ⟨c2, z2, wL_on _ _ _ _ c2⟩
    · exact .inr ⟨c2, t2, wL_off _ _ _ _ c2⟩
  · rw [if_neg (by omega)]
    exact .inr ⟨c, t, ho⟩
end
end Go.Proofs.YtbaamegnmeohoacGreatDoor
namespace Go.Proofs.YtbaamegnmeohoacGreatDoor
open Go.RowKit
theorem fits_of {s : St} (h : fitsB s.ph s.pr s.at_ = true) : s.fits := by
  have := of_decide_eq_true h
  refine ⟨by omega, by omega, by omega⟩
section
variable {B : ByteArray} {l : Int} {d : Nat} {s : St}
theorem nextK_le (hd : d < 6) (m : Nat) : nextK d m < 12 := by unfold nextK; omega
theorem putIn_size (E : Nat → Nat × St) : (putIn E B l d s).b.size = B.size := by
  unfold putIn
  repeat' split
  · rfl
  · rfl
  · exact fill3_size
  · exact fill3_size
theorem put_out (hB : 216 ≤ B.size) (hd : d < 6) (hs : s.fits) (hn : (dealL B.data.toList d).1 + 1 < 4294967295) (hl : l ≠ -2) :
    ((putIn (dealL B.data.toList) B l d s).c = 0 ∧ (putIn (dealL B.data.toList) B l d s).over = false ∧ (putIn (dealL B.data.toList) B l d s).e = dealL (putIn (dealL B.data.toList) B l d s).b.data.toList ∧ (putIn (dealL B.data.toList) B l d s).l ≠ -2 ∧
      (dealL (putIn (dealL B.data.toList) B l d s).b.data.toList d).2 = s ∧ (∀ e, e ≠ d → dealL (putIn (dealL B.data.toList) B l d s).b.data.toList e = dealL B.data.toList e) ∧ (dealL (putIn (dealL B.data.toList) B l d s).b.data.toList d).1 ≤ (dealL B.data.toList d).1 + 1) ∨
    ((putIn (dealL B.data.toList) B l d s).c = 6 ∧ (putIn (dealL B.data.toList) B l d s).over = true ∧ (putIn (dealL B.data.toList) B l d s).l = -2 ∧ dealL (putIn (dealL B.data.toList) B l d s).b.data.toList = dealL B.data.toList) := by
  have hk := nextK_le hd (dealL B.data.toList d).1
  have ho := fill3_out (B := B) (l := l) (k := nextK d (dealL B.data.toList d).1) (n := (dealL B.data.toList d).1 + 1) (s := s) (by omega)
  unfold putIn
  by_cases h1 : (dealL B.data.toList d).2 = s
  · rw [if_pos h1]
    exact .inl ⟨rfl, rfl, rfl, hl, h1, fun _ _ => rfl, by show (dealL B.data.toList d).1 ≤ _; omega⟩
  · rw [if_neg h1, if_neg (by omega)]
    rcases ho with ⟨c, z, o⟩ | ⟨c, t, o⟩
    · rw [if_pos c]
      have e1 := deal_done (by omega) hs z
      have e2 : ∀ e, e ≠ d → dealL (fill3 B l (nextK d (dealL B.data.toList d).1) ((dealL B.data.toList d).1 + 1) s).b.data.toList e = dealL B.data.toList e := fun e he => deal_other z.1 he
      refine .inl ⟨rfl, rfl, ?_, o, ?_, e2, ?_⟩
      · funext e
        show updE _ d _ e = _
        unfold updE
        by_cases he : e = d
        · subst he; rw [if_pos rfl]; exact e1.symm
        · rw [if_neg he]; exact (e2 e he).symm
      · show (dealL _ d).2 = s; rw [e1]
      · show (dealL _ d).1 ≤ _; rw [e1]; exact Nat.le_refl _
    · rw [if_neg (by omega)]
      refine .inr ⟨c, rfl, o, ?_⟩
      funext e
      by_cases he : e = d
      · subst he; exact deal_torn (by rw [← size_list]; omega) t
      · exact deal_other t.1 he
end
theorem slot_zero (n k : Nat) (h : 18 * (k + 1) ≤ n) : (slotL (zeroB n).data.toList k)[17]? = some 0 := by
  have e : (zeroB n).data.toList = List.replicate n 0 := by simp [zeroB]
  rw [slotL_get, if_pos (by decide), e, List.getElem?_replicate, if_pos (by omega)]
theorem deal_zero (n d : Nat) (h : 36 * (d + 1) ≤ n) : dealL (zeroB n).data.toList d = (0, St.zero) := by
  have hz : ∀ k, 18 * (k + 1) ≤ n → heldL k (slotL (zeroB n).data.toList k) = (0, St.zero) := fun k hk => heldL_torn k _ 0 (last_of_17 (slotL_length (by rw [← size_list, zeroB_size]; exact hk)) (slot_zero n k hk)) (by decide)
  unfold dealL
  rw [hz _ (by omega), hz _ (by omega), if_neg (Nat.lt_irrefl _)]
end Go.Proofs.YtbaamegnmeohoacGreatDoor
