/-
  On the way to WCommitsProof, WAgreesProof, WEndsProof, WWaitsProof: YG YH YI.
-/
import Derived.Test.YtadhpkopkkjmfaaGreatDoorBz55
import Derived.Test.YtadhpkopkkjmfaaGreatDoorBz18
import Derived.Test.YtadhpkopkkjmfaaGreatDoorBz9
import Derived.Test.YtadhpkopkkjmfaaGreatDoorBz10
import Derived.Test.YtadhpkopkkjmfaaGreatDoorBz30
import Derived.Test.YtadhpkopkkjmfaaGreatDoorBz56
set_option maxHeartbeats 8000000
set_option maxRecDepth 100000
namespace Go.Proofs.YtadhpkopkkjmfaaGreatDoor
open Go.RowKit
theorem four_cells {w : World} {b : Nat} {a c e g : Value} {t : TypeId} {f : Nat × Nat} (h : w.heap[b]? = some (.cells #[a, c, e, g] t f)) : w.cell? ⟨b, 0, none⟩ = some a ∧ w.cell? ⟨b, 1, none⟩ = some c ∧ w.cell? ⟨b, 2, none⟩ = some e ∧ w.cell? ⟨b, 3, none⟩ = some g :=
  ⟨by rw [cell_of_row _ _ _ _ _ _ h]; rfl, by rw [cell_of_row _ _ _ _ _ _ h]; rfl, by rw [cell_of_row _ _ _ _ _ _ h]; rfl, by rw [cell_of_row _ _ _ _ _ _ h]; rfl⟩
section
variable {w0 w : World} {C : Nat → Nat} {X : XB} {m : Nat} {zs : List Int} {V : PX} {A : Nat → Addr}
theorem act_any (xk : ByteArray) (xs xd xn : Int) (h : WD w0 w C X zs V m) (hE : Held9 w0 A) (hm : m < 800000) (hn : xn ≤ 9223372036854775807) :
    Calls Tryz.prog 25 #[.pointer (some ⟨X.xb, 0, none⟩), .agg #[.string xk, .int .i64 xs, .int .i64 xd, .int .i64 xn]] w fun e w' => e = .returned (.tuple #[]) ∧ StpOut w0 w w' C X zs V m := by
  obtain ⟨W, HW⟩ : ∃ W, Hid (w.alloc (.cells #[.string xk, .int .i64 xs, .int .i64 xd, .int .i64 xn] 51) = W) := ⟨_, rfl⟩
  have hW := HW.out
  have HB : Hid (Below w.heap.size w W) := by rw [← HW.out]; exact (Below.refl _ _).alloc (Nat.le_refl _) _
  have HR := hid (heap_alloc_new w (.cells #[.string xk, .int .i64 xs, .int .i64 xd, .int .i64 xn] 51))
  rw [HW.out] at HR
  obtain ⟨b0, b1, b2, b3⟩ := four_cells HR.out
  have H := hid (h.later HB.out)
  have HE := hid hE
  have HN := hid hn
  clear h hE hn
  rcases kbegin : (xk.toList == [98, 101, 103, 105, 110]) with _ | _
  rotate_left
  · go_enter Tryz.func25, Tryz.ntmps25
    go_wp2_with fail
    refine (s_begin xs xd H.out HE.out (by omega)).mono ?_
    rintro e w1 ⟨⟨v, rfl⟩, ho⟩
    have HO := hid (ho.back HB.out)
    clear ho
    go_wp2_with fail
    go_end0
    exact ⟨rfl, HO.out⟩
  rcases krefuse : (xk.toList == [114, 101, 102, 117, 115, 101]) with _ | _
  rotate_left
  · go_enter Tryz.func25, Tryz.ntmps25
    go_wp2_with fail
    refine (s_refuse xs xd H.out HE.out (by omega)).mono ?_
    rintro e w1 ⟨⟨v, rfl⟩, ho⟩
    have HO := hid (ho.back HB.out)
    clear ho
    go_wp2_with fail
    go_end0
    exact ⟨rfl, HO.out⟩
  rcases ktick : (xk.toList == [116, 105, 99, 107]) with _ | _
  rotate_left
  · go_enter Tryz.func25, Tryz.ntmps25
    go_wp2_with fail
    refine (s_tick xs H.out HE.out (by omega)).mono ?_
    rintro e w1 ⟨⟨v, rfl⟩, ho⟩
    have HO := hid (ho.back HB.out)
    clear ho
    go_wp2_with fail
    go_end0
    exact ⟨rfl, HO.out⟩
  rcases kdown : (xk.toList == [100, 111, 119, 110]) with _ | _
  rotate_left
  · go_enter Tryz.func25, Tryz.ntmps25
    go_wp2_with fail
    refine (s_down xs H.out HE.out ).mono ?_
    rintro e w1 ⟨⟨v, rfl⟩, ho⟩
    have HO := hid (ho.back HB.out)
    clear ho
    go_wp2_with fail
    go_end0
    exact ⟨rfl, HO.out⟩
  rcases kup : (xk.toList == [117, 112]) with _ | _
  rotate_left
  · go_enter Tryz.func25, Tryz.ntmps25
    go_wp2_with fail
    refine (s_wake xs H.out HE.out ).mono ?_
    rintro e w1 ⟨⟨v, rfl⟩, ho⟩
    have HO := hid (ho.back HB.out)
    clear ho
    go_wp2_with fail
    go_end0
    exact ⟨rfl, HO.out⟩
  rcases kdrop : (xk.toList == [100, 114, 111, 112]) with _ | _
  rotate_left
  · go_enter Tryz.func25, Tryz.ntmps25
    go_wp2_with fail
    refine (s_drop xn H.out HE.out (by omega)).mono ?_
    rintro e w1 ⟨⟨v, rfl⟩, ho⟩
    have HO := hid (ho.back HB.out)
    clear ho
    go_wp2_with fail
    go_end0
    exact ⟨rfl, HO.out⟩
  rcases ktwice : (xk.toList == [116, 119, 105, 99, 101]) with _ | _
  rotate_left
  · go_enter Tryz.func25, Tryz.ntmps25
    go_wp2_with fail
    refine (s_twice xn H.out HE.out (by omega)).mono ?_
    rintro e w1 ⟨⟨v, rfl⟩, ho⟩
    have HO := hid (ho.back HB.out)
    clear ho
    go_wp2_with fail
    go_end0
    exact ⟨rfl, HO.out⟩
  rcases klink : (xk.toList == [108, 105, 110, 107]) with _ | _
  rotate_left
  · go_enter Tryz.func25, Tryz.ntmps25
    go_wp2_with fail
    refine (s_link xs xd true H.out HE.out (by omega)).mono ?_
    rintro e w1 ⟨⟨v, rfl⟩, ho⟩
    have HO := hid (ho.back HB.out)
    clear ho
    go_wp2_with fail
    go_end0
    exact ⟨rfl, HO.out⟩
  rcases kbreak : (xk.toList == [98, 114, 101, 97, 107]) with _ | _
  rotate_left
  · go_enter Tryz.func25, Tryz.ntmps25
    go_wp2_with fail
    refine (s_link xs xd false H.out HE.out (by omega)).mono ?_
    rintro e w1 ⟨⟨v, rfl⟩, ho⟩
    have HO := hid (ho.back HB.out)
    clear ho
    go_wp2_with fail
    go_end0
    exact ⟨rfl, HO.out⟩
  rcases kcut : (xk.toList == [99, 117, 116]) with _ | _
  rotate_left
  · go_enter Tryz.func25, Tryz.ntmps25
    go_wp2_with fail
    refine (s_cut xs xn H.out HE.out HN.out).mono ?_
    rintro e w1 ⟨⟨v, rfl⟩, ho⟩
    have HO := hid (ho.back HB.out)
    clear ho
    go_wp2_with fail
    go_end0
    exact ⟨rfl, HO.out⟩
  go_enter Tryz.func25, Tryz.ntmps25
  go_wp2_with fail
  refine (s_deliver xn H.out HE.out (by omega)).mono ?_
  rintro e w1 ⟨⟨v, rfl⟩, ho⟩
  have HO := hid (ho.back HB.out)
  clear ho
  go_wp2_with fail
  go_end0
  exact ⟨rfl, HO.out⟩
end
def stsL (V : PX) (d k : Nat) : List S3 := (List.range k).map fun i => ⟨(stN (V.nd i) d).ph, (stN (V.nd i) d).pr, (stN (V.nd i) d).at_⟩
theorem stsL_length (V : PX) (d k : Nat) : (stsL V d k).length = k := by simp [stsL]
theorem stsL_succ (V : PX) (d k : Nat) : stsL V d (k + 1) = stsL V d k ++ [⟨(stN (V.nd k) d).ph, (stN (V.nd k) d).pr, (stN (V.nd k) d).at_⟩] := by simp [stsL, List.range_succ]
theorem stsL_get (V : PX) (d k i : Nat) (h : i < (stsL V d k).length) : (stsL V d k)[i]'h = ⟨(stN (V.nd i) d).ph, (stN (V.nd i) d).pr, (stN (V.nd i) d).at_⟩ := by simp [stsL]
theorem own_low {w : World} {base : Nat} {e : TypeId} {size n cap : Nat} {ad : Option Addr} {ys : List Value} (h : w.ownsRow base e size (.slice ad n cap) n ys) : ∀ p, ad = some p → base ≤ p.block := by
  intro p hp
  subst hp
  rcases h.2 with ⟨hx, -⟩ | ⟨g, c, cur, hx, hb, -⟩
  · cases hx
  · cases hx
    exact hb
theorem SL.kept {S : Nat → Prop} {w w' : World} {a : Option Addr} {L : List S3} (h : SL w a L) (k : Kept S w w') (hs : ∀ p, a = some p → ¬ S p.block) : SL w' a L := fun i hi => by
  obtain ⟨b, off, ha, h0, h1, h2⟩ := h i hi
  have hb := hs _ ha
  exact ⟨b, off, ha, cell_kept h0 k hb, cell_kept h1 k hb, cell_kept h2 k hb⟩
section
variable {w0 w : World} {C : Nat → Nat} {X : XB} {m : Nat} {zs : List Int} {V : PX} {A : Nat → Addr}
theorem states_any (d n : Nat) (h : WD w0 w C X zs V m) (hE : Held9 w0 A) (hd : d < 6) (hn : zs.length = n) :
    Calls Tryz.prog 21 #[.pointer (some ⟨X.xb, 0, none⟩), .int .i64 (n : Int), .int .i64 (d : Int)] w fun e w' => ∃ ad cap, e = .returned (.tuple #[.slice ad n cap, .bool true]) ∧ SL w' ad (stsL V d n) ∧ Below w.heap.size w w' ∧ ∀ p, ad = some p → w.heap.size ≤ p.block := by
  have H := hid h
  have HE := hid hE
  have HN := hid hn
  have n7 := h.n7
  rw [hn] at n7
  clear h hE hn
  go_enter Tryz.func21, Tryz.ntmps21
  go_wp2_with fail
  go_loopw [8, 9] (fun v i wr => ∃ k : Nat, k ≤ n ∧ i = .int .i64 (k : Int) ∧ wr.ownsRow w.heap.size 43 3 v (stsL V d k).length (stCells (stsL V d k)) ∧ Below w.heap.size w wr) (fun _ i _ => n - (intOf i).toNat)
  case atStart => exact ⟨0, Nat.zero_le _, rfl, World.ownsRow_nil _ _ _ _, Below.refl _ _⟩
  case round =>
    obtain ⟨k, hk, rfl, hown, hb⟩ := hrel
    have HB := hid hb
    have HO := hid hown
    by_cases hlt : k < n
    · obtain ⟨⟨h1, h2, h3⟩, HST⟩ : ∃ x, Hid (stN (V.nd k) d = x) := ⟨_, rfl⟩
      have HS := hid (wstate_ok k d h1 h2 h3 (H.out.later hb) HE.out (by rw [HN.out]; exact hlt) hd HST.out)
      unfold agS at HS
      have HSu := hid (stsL_succ V d k)
      rw [HST.out] at HSu
      clear hb hown
      go_wp2_with fail
      refine HS.out.mono ?_
      rintro e w1 ⟨rfl, hb1⟩
      have HB1 := hid (below_trans HB.out hb1)
      have HO1 := hid (own_later HO.out hb1 (Nat.le_refl _))
      obtain ⟨W2, HW2⟩ : ∃ W2, Hid ((w1.alloc (.cells #[.int .i64 (h1 : Int), .int .i64 (h2 : Int), .int .i64 (h3 : Int)] 43)).alloc (.cells #[.int .i64 (h1 : Int), .int .i64 (h2 : Int), .int .i64 (h3 : Int)] 43) = W2) := ⟨_, rfl⟩
      have HB2 : Hid (Below w1.heap.size w1 W2) := by rw [← HW2.out]; exact ((Below.refl _ _).alloc (Nat.le_refl _) _).alloc (by simp) _
      have HR2 : Hid (W2.heap[w1.heap.size + 1]? = some (.cells #[.int .i64 (h1 : Int), .int .i64 (h2 : Int), .int .i64 (h3 : Int)] 43 (0, 0))) := by
        rw [← HW2.out]
        have := heap_alloc_new (w1.alloc (.cells #[.int .i64 (h1 : Int), .int .i64 (h2 : Int), .int .i64 (h3 : Int)] 43)) (.cells #[.int .i64 (h1 : Int), .int .i64 (h2 : Int), .int .i64 (h3 : Int)] 43)
        rw [World.size_alloc] at this
        exact this
      have HSL : Hid (SL W2 (some ⟨w1.heap.size + 1, 0, none⟩) [⟨h1, h2, h3⟩]) := fun i hi => by
        obtain rfl : i = 0 := by simp at hi; omega
        obtain ⟨q0, q1, q2⟩ := threeE HR2.out
        exact ⟨_, _, rfl, q0, q1, q2⟩
      have HO2 := hid (own_later HO1.out HB2.out (Nat.le_refl _))
      have HB3 := hid (below_trans HB1.out HB2.out)
      have hbs := HB3.out.size
      have hW2 := HW2.out
      clear hb1
      go_wp2_with (at_builtin; refine wp_append_states rfl _ _ rfl w.heap.size _ (stsL V d k) rfl HO2.out (some ⟨w1.heap.size + 1, 0, none⟩) 1 1 [⟨h1, h2, h3⟩] rfl rfl (fun x => by cases x) HSL.out (by rw [stsL_length]; omega) (by simp) hbs ?_)
      intro v' w3 hown hb3
      have HO3 : Hid (w3.ownsRow w.heap.size 43 3 v' (stsL V d (k + 1)).length (stCells (stsL V d (k + 1)))) := by rw [HSu.out, List.length_append]; exact hown
      have HB4 := hid (HB3.out.trans hb3)
      clear hown hb3
      go_wp2_with fail
      go_roundw
      case rel => exact ⟨k + 1, by omega, by go_num, HO3.out, HB4.out⟩
      case measure => simp [intOf]; omega
    · obtain rfl : k = n := by omega
      obtain ⟨ad, cap, rfl, -, hs⟩ := SL.owned hown
      have HS := hid hs
      have HLow := hid (own_low hown)
      have hk2 : ¬ ((k : Int) < (k : Int)) := by omega
      have HLn := hid (stsL_length V d k)
      clear hown hs hb HO
      rw [HLn.out]
      go_wp2_with fail
      go_ret2
      exact ⟨ad, ⟨cap, rfl⟩, HS.out, HB.out, HLow.out⟩
end
def wasC (n : Nat) (F : Nat → Nat) : List Value := (List.range (6 * n)).map fun j => .int .i64 (F j : Int)
def setF (F : Nat → Nat) (q p : Nat) : Nat → Nat := fun j => if j = q then p else F j
theorem wasC_get (n : Nat) (F : Nat → Nat) {q : Nat} (h : q < 6 * n) : (wasC n F)[q]? = some (.int .i64 (F q : Int)) := by
  unfold wasC
  rw [List.getElem?_map, List.getElem?_range h]
  rfl
theorem wasC_set (n : Nat) (F : Nat → Nat) {q p : Nat} : (wasC n F).set q (.int .i64 (p : Int)) = wasC n (setF F q p) := by
  refine List.ext_getElem? fun j => ?_
  rw [List.getElem?_set]
  by_cases e : q = j
  · subst e
    rw [if_pos rfl]
    by_cases hq : q < 6 * n
    · rw [if_pos (by unfold wasC; simpa using hq), wasC_get n _ hq]
      unfold setF
      rw [if_pos rfl]
    · rw [if_neg (by unfold wasC; simpa using hq)]
      exact (List.getElem?_eq_none (by unfold wasC; simpa using hq)).symm
  · rw [if_neg e]
    unfold wasC setF
    rw [List.getElem?_map, List.getElem?_map]
    by_cases hj : j < 6 * n
    · rw [List.getElem?_range hj]
      show some (Value.int .i64 (F j : Int)) = some (.int .i64 ((if j = q then p else F j : Nat) : Int))
      rw [if_neg (fun x : j = q => e x.symm)]
    · rw [List.getElem?_eq_none (by simpa using hj)]
      rfl
section
variable {w0 w w' : World} {C C' : Nat → Nat} {X : XB} {m m' : Nat} {zs : List Int} {V V' : PX} {A : Nat → Addr}
structure AgI (w0 w : World) (zs : List Int) (xb wb : Nat) (V : PX) (m : Nat) (F : Nat → Nat) (C : Nat → Nat) (X : XB) : Prop where
  ax : AX zs V
  wd : WD w0 w C X zs V m
  xb : X.xb = xb
  col : 2000 ≤ C wb
  row : w.heap[wb]? = some (.cells (wasC zs.length F).toArray 3 (0, 0))
  low : w0.heap.size ≤ wb
  may : ∀ s d, s < zs.length → d < 6 → mayN (F (d * zs.length + s)) (stN (V.nd s) d).ph
variable {xb wb : Nat} {F : Nat → Nat}
theorem AgI.later (h : AgI w0 w zs xb wb V m F C X) (hb : Below w.heap.size w w') : AgI w0 w' zs xb wb V m F C X :=
  ⟨h.ax, h.wd.later hb, h.xb, h.col, row_later hb h.row, h.low, h.may⟩
theorem AgI.act (h : AgI w0 w zs xb wb V m F C X) (hm : m < 800000) (ho : StpOut w0 w w' C X zs V m) : ∃ V' C' X', AgI w0 w' zs xb wb V' (m + 42) F C' X' ∧ Kept (OwnX C) w w' ∧ ∀ x, x < w.heap.size → C' x = C x := by
  obtain ⟨V', hs, C', X', g1, g2, g3, g4⟩ := ho
  obtain ⟨a1, a2⟩ := hs.ax h.ax h.wd.inv (by omega)
  have hlt := row_ltJ h.row
  have hcol := h.col
  exact ⟨V', C', X', ⟨a1, g1, (key_xb g2).trans h.xb, by rw [g4 _ hlt]; exact hcol, g3.row h.row (fun e => by have e2 : C wb < 2000 := e; omega), h.low, fun s d hs hd => mayN_trans (h.may s d hs hd) (a2 s d hs hd)⟩, g3, g4⟩
theorem idx_ne {n d s e t : Nat} (hs : s < n) (ht : t < n) (h : d * n + s = e * n + t) : d = e ∧ s = t := by
  have h1 : (d * n + s) / n = d := by rw [Nat.mul_comm, Nat.mul_add_div (by omega), Nat.div_eq_of_lt hs]; omega
  have h2 : (e * n + t) / n = e := by rw [Nat.mul_comm, Nat.mul_add_div (by omega), Nat.div_eq_of_lt ht]; omega
  have h3 : d = e := by rw [← h1, ← h2, h]
  subst h3
  exact ⟨rfl, by omega⟩
theorem AgI.store (h : AgI w0 w zs xb wb V m F C X) {s d q p : Nat} (hs : s < zs.length) (hd : d < 6) (hq : d * zs.length + s = q) (hp : (stN (V.nd s) d).ph = p) :
    AgI w0 (w.setCell ⟨wb, q, none⟩ (.int .i64 (p : Int))) zs xb wb V m (setF F q p) C X ∧ Kept (In1 wb) w (w.setCell ⟨wb, q, none⟩ (.int .i64 (p : Int))) := by
  have k : Kept (In1 wb) w (w.setCell ⟨wb, q, none⟩ (.int .i64 (p : Int))) := (Kept.refl _ _).set1 q _
  have hcol := h.col
  have hlow := h.low
  refine ⟨⟨h.ax, h.wd.far k (fun x hx => by have e : x = wb := hx; rw [e]; exact hcol) (fun x hx => by have e : x = wb := hx; rw [e]; exact hlow), h.xb, h.col, ?_, h.low, fun t e ht he => ?_⟩, k⟩
  · rw [heap_setCell_same w wb q _ _ _ h.row, List.setIfInBounds_toArray, wasC_set]
  · unfold setF
    split
    · rename_i hc
      obtain ⟨h1, h2⟩ := idx_ne ht hs (hc.trans hq.symm)
      subst h1
      subst h2
      rw [hp]
      have h5 := ((h.wd.inv.nd t hs).gd e hd).1
      have h6 : (stN (V.nd t) e).ph ≤ 5 := h5
      rw [hp] at h6
      exact ⟨h6, h6, .inl rfl⟩
    · exact h.may t e ht he
end
theorem ax_agree {zs : List Int} {V : PX} (hA : AX zs V) {d : Nat} (hd : d < 6) : AgF (stsL V d zs.length) 0 zs.length := by
  obtain ⟨g, hg⟩ := hA.gx d hd
  refine ⟨fun j hj _ => ?_, .inl ⟨rfl, (stsL_length V d zs.length).symm⟩⟩
  have hjn : j < zs.length := by rw [stsL_length] at hj; exact hj
  unfold disB
  rw [stsL_get]
  cases hf : finS ⟨((stN (V.nd j) d).ph : Int), (stN (V.nd j) d).pr, (stN (V.nd j) d).at_⟩ with
  | false => rfl
  | true =>
    rw [Bool.true_and, List.any_eq_false]
    intro q hq
    rw [Bool.and_eq_true, decide_eq_true_eq]
    rintro ⟨h1, h2⟩
    obtain ⟨i, hi, rfl⟩ := List.getElem_of_mem (List.mem_of_mem_take hq)
    rw [stsL_get] at h1 h2
    have hin : i < zs.length := by rw [stsL_length] at hi; exact hi
    have e1 := of_decide_eq_true hf
    have e2 := of_decide_eq_true h1
    simp only at e1 e2 h2
    have s2 := hg.co.s2
    have s3 := hg.co.s3
    rcases e1 with e1 | e1 <;> rcases e2 with e2 | e2
    · omega
    · exact hg.co.split (s2 j hjn (by show (stN (V.nd j) d).ph = 2; omega)) (s3 i hin (by show (stN (V.nd i) d).ph = 3; omega))
    · exact hg.co.split (s2 i hin (by show (stN (V.nd i) d).ph = 2; omega)) (s3 j hjn (by show (stN (V.nd j) d).ph = 3; omega))
    · omega
theorem ax_all {zs : List Int} {V : PX} (hA : AX zs V) {d i k : Nat} (hd : d < 6) (hi : i < zs.length) (hk : k < zs.length) (h : (stN (V.nd i) d).ph = 2 ∨ (stN (V.nd i) d).ph = 4) : (stN (V.nd k) d).ph ≠ 0 := by
  obtain ⟨g, hg⟩ := hA.gx d hd
  rcases h with h | h
  · obtain ⟨a, ha, -⟩ := hg.co.s2 i hi h
    exact hg.co.al a ha k hk
  · have h1 := (hg.co.s4 i hi (.inl h)).1
    have h2 : g.val (stN (V.nd i) d).at_ = (stN (V.nd i) d).ph := h1
    exact hg.co.al _ (h2.trans h) k hk
end Go.Proofs.YtadhpkopkkjmfaaGreatDoor
