/-
  On the way to WStepsProof: SA Q0 Q1 TO.
-/
import Derived.Test.YtbaamegnmeohoacGreatDoorBs11
import Derived.Test.YtbaamegnmeohoacGreatDoorBs2
import Derived.Test.YtbaamegnmeohoacGreatDoorBs1
import Derived.Test.YtbaamegnmeohoacGreatDoorBs3
import Derived.Deep.CutRange
namespace Go.Proofs.YtbaamegnmeohoacGreatDoor
open Go.RowKit
theorem keptCell {S : Nat → Prop} {w w' : World} {a : Addr} {v : Value} (h : Kept S w w') (hc : w.cell? a = some v) (hs : ¬ S a.block) : w'.cell? a = some v := by
  rw [World.cell?_of_block (w := w) (h.block a.block (cell_lt hc) hs)]; exact hc
theorem cell3_other {w : World} {g : Nat} {a b c : Value} {ad : Addr} {v : Value} (h : w.cell? ad = some v) (hne : ad.block ≠ g) : (((w.setCell ⟨g, 0, none⟩ a).setCell ⟨g, 1, none⟩ b).setCell ⟨g, 2, none⟩ c).cell? ad = some v := by
  rw [World.cell?_of_block (w := w) (by rw [heap_setCell_other _ _ _ _ hne, heap_setCell_other _ _ _ _ hne, heap_setCell_other _ _ _ _ hne])]
  exact h
structure FrSt (w wx : World) (b g : Nat) (f t d k a : Int) (y : Bool) (ph pr pa : Int) (x0 x1 x2 : Nat) : Prop where
  bel : Below w.heap.size w wx
  fr : wx.heap[b]? = some (.cells #[.int .i64 f, .int .i64 t, .int .i64 d, .int .i64 k, .int .i64 a, .bool y, .int .i64 ph, .int .i64 pr, .int .i64 pa] 130 (0, 0))
  st : wx.heap[g]? = some (.cells #[.int .i64 (x0 : Int), .int .i64 (x1 : Int), .int .i64 (x2 : Int)] 113 (0, 0))
  lb : w.heap.size ≤ b
  lg : b < g
section
variable {w wx : World} {b g : Nat} {f t d k a : Int} {y : Bool} {ph pr pa : Int} {x0 x1 x2 : Nat}
theorem FrSt.later {wy : World} (h : FrSt w wx b g f t d k a y ph pr pa x0 x1 x2) (hb : Below wx.heap.size wx wy) : FrSt w wy b g f t d k a y ph pr pa x0 x1 x2 :=
  ⟨h.bel.trans (hb.mono h.bel.size), (hb.block _ (row_ltJ h.fr)).trans h.fr, (hb.block _ (row_ltJ h.st)).trans h.st, h.lb, h.lg⟩
theorem FrSt.cells (h : FrSt w wx b g f t d k a y ph pr pa x0 x1 x2) : wx.cell? ⟨g, 0, none⟩ = some (.int .i64 (x0 : Int)) ∧ wx.cell? ⟨g, 1, none⟩ = some (.int .i64 (x1 : Int)) ∧ wx.cell? ⟨g, 2, none⟩ = some (.int .i64 (x2 : Int)) := by
  refine ⟨?_, ?_, ?_⟩ <;> rw [cell_of_row _ _ _ _ _ _ h.st] <;> rfl
end
set_option maxHeartbeats 4000000 in
set_option maxRecDepth 100000 in
theorem shear_inB (A : Nat → Addr) (w0 w : World) (s j mb p q n : Nat) (id f d k a ph pr pa : Nat) (y : Bool) (R : Nat → Bool) (E : Nat → Nat × St) (over : Bool) (B : ByteArray) (l : Int) (g : HOut) (o : POut)
    (h : SP w0 w s j mb p q id R n E over B l) (hE : HeldE w0 A) (hn : ∀ d, d < 6 → (E d).1 < 4294967296) (hf : frOk f id d k a ph pr pa) (hg : hearL (E d).2 (R d) k a ph = g) (ho : pOut E over B l d g.st.ph g.st.pr g.st.at_ = o) :
    Calls Tryz.prog 188 #[.pointer (some ⟨s, 0, none⟩), frV f id d k a y ph pr pa] w fun e w' => ∃ v, e = .returned (.tuple #[v, ev A o.c]) ∧ AnsV w' v o.c id f d a g ∧ SP w0 w' s j mb p q id R n o.e o.over o.b o.l ∧ Kept (In3 j p q) w w' ∧ ∀ a c, v = .slice (some a) 1 c → w.heap.size ≤ a.block := by
  obtain ⟨W, HW⟩ : ∃ W, Hid (w.alloc (.cells #[.int .i64 f, .int .i64 id, .int .i64 d, .int .i64 k, .int .i64 a, .bool y, .int .i64 ph, .int .i64 pr, .int .i64 pa] 130) = W) := ⟨_, rfl⟩
  have HB : Hid (Below w.heap.size w W) := by rw [← HW.out]; exact (Below.refl _ _).alloc (Nat.le_refl _) _
  have HR : Hid (W.heap[w.heap.size]? = some (.cells #[.int .i64 f, .int .i64 id, .int .i64 d, .int .i64 k, .int .i64 a, .bool y, .int .i64 ph, .int .i64 pr, .int .i64 pa] 130 (0, 0))) := by rw [← HW.out]; exact heap_alloc_new w _
  obtain ⟨c0, c1, c2, c3, c4, c5, c6, c7, c8⟩ := nine HR.out
  have hW := HW.out
  have HF : Hid ((if frOk f id d k a ph pr pa then 0 else 2) = 0) := if_pos hf
  have hd : d < 6 := by have := hf.2.2.1; omega
  have hk17 : 1 ≤ k ∧ k ≤ 7 := by have := hf.2.2.2.1; omega
  have HS := hid h
  have HE := hid hE
  have HN := hid hn
  obtain ⟨⟨sh, sp, sa⟩, HEd⟩ : ∃ x, Hid ((E d).2 = x) := ⟨_, rfl⟩
  rw [HEd.out] at hg
  have HG := hid hg
  have HO := hid ho
  have HEW := hid ((hE.later h.jp.bel).later HB.out)
  clear h hf hn hg ho hE
  go_enter Tryz.func188, Tryz.ntmps188
  go_wp2_with (go_at_call 175; (with_reducible refine (wcheck_e A f id d k a y ph pr pa 0 _ HEW.out HF.out).mono ?_); rintro e w1 ⟨rfl, hb1⟩; unfold ev; have HB1 := hid (HB.out.trans (hb1.mono HB.out.size)); obtain ⟨x0, x1, x2⟩ := (HS.out.sr.later HB1.out).cells; have HR1 := hid ((hb1.block _ (row_ltJ HR.out)).trans HR.out); obtain ⟨c0, c1, c2, c3, c4, c5, c6, c7, c8⟩ := nine HR1.out; clear hb1)
  go_region
  all_goals go_upto_region 13 with fail
  have HS1 := hid (HS.out.later HB1.out)
  have hbs := row_ltJ HR1.out
  obtain ⟨V, HV⟩ : ∃ V, Hid (w1.alloc (.cells #[.int .i64 0, .int .i64 0, .int .i64 0] 113) = V) := ⟨_, rfl⟩
  have HBV : Hid (Below w1.heap.size w1 V) := by rw [← HV.out]; exact (Below.refl _ _).alloc (Nat.le_refl _) _
  have HRV : Hid (V.heap[w1.heap.size]? = some (.cells #[.int .i64 0, .int .i64 0, .int .i64 0] 113 (0, 0))) := by rw [← HV.out]; exact heap_alloc_new w1 _
  have HFV : Hid (V.heap[w.heap.size]? = some (.cells #[.int .i64 f, .int .i64 id, .int .i64 d, .int .i64 k, .int .i64 a, .bool y, .int .i64 ph, .int .i64 pr, .int .i64 pa] 130 (0, 0))) := (HBV.out.block _ hbs).trans HR1.out
  have HSV := hid (HS1.out.later HBV.out)
  have hV := HV.out
  have vx := HSV.out.sr.cells.1
  have vc : V.cell? ⟨w.heap.size, 2, none⟩ = some (.int .i64 (d : Int)) := (nine HFV.out).2.2.1
  have hsl := HS1.out.sr.lts.1
  have ns1 : s ≠ w1.heap.size := Nat.ne_of_lt hsl
  have nf1 : w.heap.size ≠ w1.heap.size := Nat.ne_of_lt hbs
  go_cut [7, 8] from 13 (fun s7 s8 wx => s8 = .nilIface ∧ ∃ g1, s7 = .pointer (some ⟨g1, 0, none⟩) ∧ FrSt w wx w.heap.size g1 f id d k a y ph pr pa sh sp sa)
  case first =>
    go_region_held3 (fun W => W.cell? ⟨s, 0, none⟩ = some (.pointer (some ⟨j, 0, none⟩)) ∧ W.cell? ⟨w.heap.size, 2, none⟩ = some (.int .i64 (d : Int))) (first | go_keep | exact ⟨cell3_other (by assumption) ns1, cell3_other (by assumption) nf1⟩) (first | (go_at_call 151; (with_reducible refine (get_is j p d E over sh sp sa _ HS1.out.jp.jr.drew.drew hd HEd.out).mono ?_); rintro e w3 ⟨rfl, hb3⟩; have q1 := cell_later hb3 x0; have q2 := cell_later hb3 c2; have HFrS := hid (And.intro (HB1.out.drew.drew.trans (hb3.mono HB1.out.size)) ((hb3.block _ hbs).trans HR1.out)); have hsz := hb3.size; have hb3s := row_ltJ HFrS.out.2; clear hb3) | (go_at_call 151; (with_reducible refine (get_is j p d E over sh sp sa _ HSV.out.jp.jr.drew.drew hd HEd.out).mono ?_); rintro e w3 ⟨rfl, hb3⟩; have q1 := cell_later hb3 vx; have q2 := cell_later hb3 vc; have HR3 := hid ((hb3.block _ (row_ltJ HRV.out)).trans HRV.out); have HFrS := hid (And.intro ((HB1.out.trans (HBV.out.mono HB1.out.size)).drew.drew.trans (hb3.mono (Nat.le_trans HB1.out.size HBV.out.size))) ((hb3.block _ (row_ltJ HFV.out)).trans HFV.out)); have c30 : w3.cell? ⟨w1.heap.size, 0, none⟩ = some (.int .i64 0) := cell_of_row _ _ 0 _ _ _ HR3.out; have c31 : w3.cell? ⟨w1.heap.size, 1, none⟩ = some (.int .i64 0) := cell_of_row _ _ 1 _ _ _ HR3.out; have c32 : w3.cell? ⟨w1.heap.size, 2, none⟩ = some (.int .i64 0) := cell_of_row _ _ 2 _ _ _ HR3.out; have z30 := frozen_of_row _ _ 0 _ _ HR3.out; have z31 := frozen_of_row _ _ 1 _ _ HR3.out; have z32 := frozen_of_row _ _ 2 _ _ HR3.out; clear hb3))
    all_goals go_wp2_with fail
    all_goals go_meet
    · exact ⟨rfl, _, rfl, ⟨HFrS.out.1.alloc HFrS.out.1.size _, (Below.heap_alloc w3 _ _ hb3s).trans HFrS.out.2, heap_alloc_new w3 _, Nat.le_refl _, hb3s⟩⟩
    · exact ⟨rfl, _, rfl, ⟨((HFrS.out.1.setCell (Nat.le_of_lt hbs) _).setCell (Nat.le_of_lt hbs) _).setCell (Nat.le_of_lt hbs) _, by rw [heap_setCell_other _ _ _ _ nf1, heap_setCell_other _ _ _ _ nf1, heap_setCell_other _ _ _ _ nf1]; exact HFrS.out.2, set3 HR3.out _ _ _, Nat.le_refl _, hbs⟩⟩
  obtain ⟨rfl, g1, rfl, hfs⟩ := hcut
  clear HBV HRV HFV HSV hV HV vx vc hsl ns1 nf1 hbs HS1 HR1 HB1 x0 x1 x2 c0 c1 c2 c3 c4 c5 c6 c7 c8 HR HB hW HW HEW HF
  rename_i wc
  have HFrS := hid hfs
  clear hfs
  generalize wc = w2 at *
  obtain ⟨c0, c1, c2, c3, c4, c5, c6, c7, c8⟩ := nine HFrS.out.fr
  obtain ⟨s0, s1, s2⟩ := HFrS.out.cells
  have HSR := hid (HS.out.sr.later HFrS.out.bel)
  obtain ⟨⟨th, tp, ta⟩, gk, gy⟩ := g
  simp only at HO
  go_wp2_with (go_at_call 228; (with_reducible refine (step_is s j mb n d a ph sh sp sa (id : Int) (f : Int) (id : Int) (pr : Int) (pa : Int) y R _ k ⟨⟨th, tp, ta⟩, gk, gy⟩ HSR.out hd hk17 HG.out).mono ?_); rintro e w3 ⟨rfl, hb3⟩; simp only)
  have HF3 := hid (HFrS.out.later hb3)
  clear hb3
  obtain ⟨X, HX⟩ : ∃ X, Hid (w3.alloc (.cells #[.int .i64 (th : Int), .int .i64 (tp : Int), .int .i64 (ta : Int)] 113) = X) := ⟨_, rfl⟩
  obtain ⟨g2, Hg2⟩ : ∃ n, Hid (w3.heap.size = n) := ⟨_, rfl⟩
  have HFX : Hid (FrSt w X w.heap.size g2 f id d k a y ph pr pa th tp ta) := by
    rw [← HX.out, ← Hg2.out]
    exact ⟨HF3.out.bel.alloc HF3.out.bel.size _, (Below.heap_alloc w3 _ _ (row_ltJ HF3.out.fr)).trans HF3.out.fr, heap_alloc_new w3 _, Nat.le_refl _, row_ltJ HF3.out.fr⟩
  rw [HX.out, Hg2.out]
  clear HF3 HFrS HX Hg2 c0 c1 c2 c3 c4 c5 c6 c7 c8 s0 s1 s2 HSR
  have HSX := hid (HS.out.later HFX.out.bel)
  obtain ⟨x0, x1, x2⟩ := HSX.out.sr.cells
  have c2 := (nine HFX.out.fr).2.2.1
  obtain ⟨s0, s1, s2⟩ := HFX.out.cells
  have HNF : Hid (∀ x, w.heap.size ≤ x → ¬ In3 j p q x) := fun x hx e => by
    obtain ⟨_, _, e1, e2, e3⟩ := HS.out.lts
    unfold In3 at e; omega
  have HNG : Hid (¬ In3 j p q g2) := HNF.out _ (Nat.le_of_lt HFX.out.lg)
  go_cut [12] from 13 (fun s12 wx => s12 = ev A o.c ∧ wx.heap[w.heap.size]? = some (.cells #[.int .i64 f, .int .i64 id, .int .i64 d, .int .i64 k, .int .i64 a, .bool y, .int .i64 ph, .int .i64 pr, .int .i64 pa] 130 (0, 0)) ∧
    wx.heap[g2]? = some (.cells #[.int .i64 (th : Int), .int .i64 (tp : Int), .int .i64 (ta : Int)] 113 (0, 0)) ∧ SP w0 wx s j mb p q id R n o.e o.over o.b o.l ∧ Kept (In3 j p q) w wx)
  case first =>
    go_region_held3 (fun W => W.cell? ⟨s, 0, none⟩ = some (.pointer (some ⟨j, 0, none⟩)) ∧ W.cell? ⟨w.heap.size, 2, none⟩ = some (.int .i64 (d : Int)) ∧ W.cell? ⟨g2, 0, none⟩ = some (.int .i64 (th : Int)) ∧ W.cell? ⟨g2, 1, none⟩ = some (.int .i64 (tp : Int)) ∧ W.cell? ⟨g2, 2, none⟩ = some (.int .i64 (ta : Int))) (go_keep) (first | (go_at_call 229; (with_reducible refine (jput_any (d : Int) (th : Int) (tp : Int) (ta : Int) o HO.out HSX.out.jp.drew HE.out HN.out).mono ?_); rintro e w5 ⟨rfl, hj5, hk5⟩; have q1 := keptCell hk5 x0 HSX.out.ns; have q2 := keptCell hk5 c2 (HNF.out _ (Nat.le_refl _)); have q3 := keptCell hk5 s0 HNG.out; have q4 := keptCell hk5 s1 HNG.out; have q5 := keptCell hk5 s2 HNG.out; have HJ5 := hid hj5; have HK5 := hid hk5; clear hj5 hk5))
    all_goals go_wp2_with fail
    all_goals go_meet
    all_goals exact ⟨rfl, HK5.out.row HFX.out.fr (HNF.out _ (Nat.le_refl _)), HK5.out.row HFX.out.st HNG.out, HSX.out.drew.turn HJ5.out HK5.out, (Kept.of_below HFX.out.bel).trans ((Kept.of_below (Below.refl _ _).drew).trans HK5.out)⟩
  obtain ⟨rfl, hr1, hr2, hs6, hk6⟩ := hcut
  clear HSX x0 x1 x2 c2 s0 s1 s2 HFX HNG HO HG
  rename_i wc
  have HR6 := hid hr1
  have HT6 := hid hr2
  have HS6 := hid hs6
  have HK6 := hid hk6
  clear hr1 hr2 hs6 hk6
  generalize wc = w6 at *
  obtain ⟨oc, oe, oo, ob, ol⟩ := o
  simp only at HS6 HK6 ⊢
  cases oc with
  | succ c =>
    unfold ev
    go_wp2_with fail
    go_ret2
    exact ⟨.slice none 0 0, rfl, by unfold AnsV; rw [if_neg (fun h => by cases h.1)], HS6.out, HK6.out, fun a c hv => by cases hv⟩
  | zero =>
    unfold ev
    by_cases hgk : gk = 0
    · subst hgk
      go_wp2_with fail
      go_ret2
      exact ⟨.slice none 0 0, rfl, by unfold AnsV; rw [if_neg (fun h => h.2 rfl)], HS6.out, HK6.out, fun a c hv => by cases hv⟩
    · have hgi : ¬ (gk : Int) = 0 := by omega
      obtain ⟨x0, x1, x2⟩ := HS6.out.sr.cells
      obtain ⟨c0, c1, c2, c3, c4, c5, c6, c7, c8⟩ := nine HR6.out
      have s0 : w6.cell? ⟨g2, 0, none⟩ = some (.int .i64 (th : Int)) := by rw [cell_of_row _ _ _ _ _ _ HT6.out]; rfl
      have s1 : w6.cell? ⟨g2, 1, none⟩ = some (.int .i64 (tp : Int)) := by rw [cell_of_row _ _ _ _ _ _ HT6.out]; rfl
      have s2 : w6.cell? ⟨g2, 2, none⟩ = some (.int .i64 (ta : Int)) := by rw [cell_of_row _ _ _ _ _ _ HT6.out]; rfl
      go_wp2_with fail
      go_region
      all_goals go_wp2_with fail
      all_goals go_ret2
      all_goals refine ⟨_, rfl, ?_, HS6.out.later ((Below.refl _ _).alloc (Nat.le_refl _) _).drew, HK6.out.trans (Kept.of_below ((Below.refl _ _).alloc (Nat.le_refl _) _).drew), fun a c hv => by cases hv; exact HK6.out.size⟩
      all_goals unfold AnsV
      all_goals rw [if_pos ⟨rfl, hgk⟩]
      all_goals exact ⟨_, _, rfl, heap_alloc_new w6 _⟩
structure PL where
  stt : Nat
  ans : Int
  told : List S3
  prep : Int
  seen : Int
  has : Bool
def stP (k : Nat) : ByteArray := if k = 0 then ⟨#[97, 115, 107, 105, 110, 103]⟩ else if k = 1 then ⟨#[112, 114, 101, 112, 97, 114, 105, 110, 103]⟩ else if k = 2 then ⟨#[100, 111, 110, 101]⟩ else ⟨#[114, 101, 102, 117, 115, 101, 100]⟩
theorem stP0 : stP 0 = ⟨#[97, 115, 107, 105, 110, 103]⟩ := rfl
theorem stP1 : stP 1 = ⟨#[112, 114, 101, 112, 97, 114, 105, 110, 103]⟩ := rfl
theorem stP2 : stP 2 = ⟨#[100, 111, 110, 101]⟩ := rfl
theorem stP3 : stP 3 = ⟨#[114, 101, 102, 117, 115, 101, 100]⟩ := rfl
def waitsB (P : PL) (att k : Int) : Bool := (k == 2 && P.stt == 0 && decide (att = 0)) || (k == 4 && P.stt == 0 && decide (0 < att)) || (k == 6 && P.stt == 1)
def takesB (n id : Nat) (deal att : Int) (P : PL) (f : F9) : Bool := decide (f.t = id ∧ f.d = deal ∧ f.a = att) && waitsB P att f.k && decide (0 ≤ f.f ∧ f.f < n) && !bit P.ans f.f.toNat
def ansS (a : Int) (i : Nat) : Int := bits .or .i64 a (2 ^ i)
def toldS (L : List S3) (i : Nat) (s : S3) : List S3 := L.set i s
def noteP (P : PL) (f : F9) : PL := { P with ans := ansS P.ans f.f.toNat }
def seeP (P : PL) (p : Int) : PL := if P.has = false ∨ P.seen < p then { P with seen := p, has := true } else P
def decP (P : PL) (p : Int) : PL × Option (Int × Int) := ({ P with stt := 2 }, some (7, p))
def preP (P : PL) (p : Int) : PL × Option (Int × Int) := ({ P with stt := 1, prep := p, ans := 0 }, some (5, p))
def voteP (n : Nat) (P : PL) (y : Bool) : PL × Option (Int × Int) := if y = false then decP P 3 else if P.ans = 2 ^ n - 1 then preP P 4 else (P, none)
def tellP (zs : List Int) (P : PL) (i : Nat) (s : S3) : PL × Option (Int × Int) :=
  if enoughB zs P.ans = false then ({ P with told := toldS P.told i s }, none)
  else if (chooseL (toldS P.told i s)).2 = true then decP { P with told := toldS P.told i s } (chooseL (toldS P.told i s)).1 else preP { P with told := toldS P.told i s } (chooseL (toldS P.told i s)).1
def ackP (zs : List Int) (P : PL) : PL × Option (Int × Int) := if enoughB zs P.ans = false then (P, none) else decP P (afterI P.prep)
def takenP (zs : List Int) (P : PL) (f : F9) : PL × Option (Int × Int) :=
  if f.k = 2 then voteP zs.length (noteP P f) f.y
  else if f.y = false then ({ seeP (noteP P f) f.pr with stt := 3 }, none)
  else if f.k = 4 then tellP zs (seeP (noteP P f) f.pr) f.f.toNat ⟨f.ph, f.pr, f.pa⟩
  else ackP zs (seeP (noteP P f) f.pr)
def phear (zs : List Int) (id : Nat) (deal att : Int) (P : PL) (f : F9) : PL × Option (Int × Int) :=
  if takesB zs.length id deal att P f = true then takenP zs P f else (P, none)
def toL (id : Nat) (deal kind att ph : Int) : Nat → List F9
  | 0 => []
  | k + 1 => toL id deal kind att ph k ++ [⟨id, k, deal, kind, att, false, ph, 0, 0⟩]
theorem toL_length (id : Nat) (deal kind att ph : Int) : ∀ k, (toL id deal kind att ph k).length = k
  | 0 => rfl
  | k + 1 => by rw [toL, List.length_append, toL_length]; rfl
def outL (id : Nat) (deal att : Int) (n : Nat) : Option (Int × Int) → List F9
  | none => []
  | some x => toL id deal x.1 att x.2 n
theorem outL_le (id : Nat) (deal att : Int) (n : Nat) (x : Option (Int × Int)) : (outL id deal att n x).length ≤ n := by
  cases x with
  | none => exact Nat.zero_le _
  | some y => exact Nat.le_of_eq (toL_length _ _ _ _ _ _)
structure PW (n : Nat) (P : PL) : Prop where
  len : P.told.length = 7
  lo : 0 ≤ P.ans
  hi : P.ans < 2 ^ n
theorem ansS_bd {n : Nat} {a : Int} {i : Nat} (hn : n ≤ 7) (h0 : 0 ≤ a) (h1 : a < 2 ^ n) (hi : i < n) : 0 ≤ ansS a i ∧ ansS a i < 2 ^ n := by
  have h2 : (2 : Int) ^ i < 2 ^ n := Int.pow_lt_pow_of_lt (by decide) hi
  have h3 : (0 : Int) < 2 ^ i := Int.pow_pos (by decide)
  exact or_lt hn h0 h1 (by omega) h2
theorem seeP_of (P : PL) (p : Int) : (seeP P p).stt = P.stt ∧ (seeP P p).ans = P.ans ∧ (seeP P p).told = P.told ∧ (seeP P p).prep = P.prep := by
  unfold seeP; split <;> exact ⟨rfl, rfl, rfl, rfl⟩
theorem PW.note {n : Nat} {P : PL} {f : F9} (h : PW n P) (hn : n ≤ 7) (h0 : 0 ≤ f.f) (h1 : f.f < n) : PW n (noteP P f) :=
  ⟨h.len, (ansS_bd hn h.lo h.hi (by omega)).1, (ansS_bd hn h.lo h.hi (by omega)).2⟩
theorem PW.see {n : Nat} {P : PL} (h : PW n P) (p : Int) : PW n (seeP P p) := by
  obtain ⟨-, h2, h3, -⟩ := seeP_of P p
  exact ⟨by rw [h3]; exact h.len, by rw [h2]; exact h.lo, by rw [h2]; exact h.hi⟩
theorem PW.dec {n : Nat} {P : PL} (h : PW n P) (p : Int) : PW n (decP P p).1 := ⟨h.len, h.lo, h.hi⟩
theorem PW.pre {n : Nat} {P : PL} (h : PW n P) (p : Int) : PW n (preP P p).1 := ⟨h.len, Int.le_refl _, Int.pow_pos (by decide)⟩
theorem PW.tell {n : Nat} {P : PL} (h : PW n P) (i : Nat) (s : S3) : PW n { P with told := toldS P.told i s } := ⟨by show (P.told.set i s).length = 7; rw [List.length_set]; exact h.len, h.lo, h.hi⟩
theorem PW.taken {zs : List Int} {P : PL} {f : F9} (h : PW zs.length P) (hn : zs.length ≤ 7) (h0 : 0 ≤ f.f) (h1 : f.f < zs.length) : PW zs.length (takenP zs P f).1 := by
  have h2 := h.note (f := f) hn h0 h1
  have h3 := h2.see f.pr
  unfold takenP
  split
  · unfold voteP; split
    · exact h2.dec _
    · split
      · exact h2.pre _
      · exact h2
  · split
    · exact ⟨h3.len, h3.lo, h3.hi⟩
    · split
      · unfold tellP
        split
        · exact h3.tell _ _
        · split
          · exact (h3.tell _ _).dec _
          · exact (h3.tell _ _).pre _
      · unfold ackP
        split
        · exact h3
        · exact h3.dec _
theorem takesB_in {n id : Nat} {deal att : Int} {P : PL} {f : F9} (h : takesB n id deal att P f = true) : (f.t = id ∧ f.d = deal ∧ f.a = att) ∧ waitsB P att f.k = true ∧ (0 ≤ f.f ∧ f.f < n) ∧ bit P.ans f.f.toNat = false := by
  unfold takesB at h
  simp only [Bool.and_eq_true, decide_eq_true_eq, Bool.not_eq_true'] at h
  exact ⟨h.1.1.1, h.1.1.2, h.1.2, h.2⟩
theorem PW.hear {zs : List Int} {id : Nat} {deal att : Int} {P : PL} {f : F9} (h : PW zs.length P) (hn : zs.length ≤ 7) : PW zs.length (phear zs id deal att P f).1 := by
  unfold phear
  split
  · rename_i ht
    obtain ⟨-, -, ⟨h0, h1⟩, -⟩ := takesB_in ht
    exact h.taken hn h0 h1
  · exact h
def toldC (L : List S3) : List Value := L.flatMap fun s => [.int .i64 s.p, .int .i64 s.r, .int .i64 s.a]
def pC (id : Nat) (deal att : Int) (vw : Value) (P : PL) : List Value :=
  .int .i64 id :: .int .i64 deal :: .int .i64 att :: vw :: .string (stP P.stt) :: .int .i64 P.ans :: (toldC P.told ++ [.int .i64 P.prep, .int .i64 P.seen, .bool P.has])
theorem seven {L : List S3} (h : L.length = 7) : ∃ a b c d e f g, L = [a, b, c, d, e, f, g] := by
  match L, h with
  | [a, b, c, d, e, f, g], _ => exact ⟨a, b, c, d, e, f, g, rfl⟩
structure LD (w : World) (lb b cap id : Nat) (deal att : Int) (zs : List Int) (P : PL) : Prop where
  row : w.heap[lb]? = some (.cells (pC id deal att (.slice (some ⟨b, 0, none⟩) zs.length cap) P).toArray 218 (0, 0))
  ws : ∀ i, i < zs.length → w.cell? ⟨b, 0 + i, none⟩ = some (.int .i64 (zs.getD i 0))
  bl : b < lb
  pw : PW zs.length P
  glo : ∀ j, gW j < lb
section
variable {w w' : World} {lb b cap id : Nat} {deal att : Int} {zs : List Int} {P : PL}
theorem LD.kept {S : Nat → Prop} (h : LD w lb b cap id deal att zs P) (k : Kept S w w') (h1 : ¬ S lb) (h2 : ¬ S b) : LD w' lb b cap id deal att zs P :=
  ⟨k.row h.row h1, fun i hi => by
    have := h.ws i hi
    have hb : b < w.heap.size := cell_lt this
    unfold World.cell? at this ⊢
    rw [show w'.heap[(⟨b, 0 + i, none⟩ : Addr).block]? = w.heap[(⟨b, 0 + i, none⟩ : Addr).block]? from k.block b hb h2]
    exact this, h.bl, h.pw, h.glo⟩
theorem LD.later (h : LD w lb b cap id deal att zs P) (hb : Below w.heap.size w w') : LD w' lb b cap id deal att zs P :=
  h.kept (S := fun _ => False) (Kept.of_below hb) (fun x => x) (fun x => x)
theorem LD.sl (h : LD w lb b cap id deal att zs P) (hm : zs.length ≤ 7) : IsSl w (.slice (some ⟨b, 0, none⟩) zs.length cap) zs :=
  ⟨_, cap, rfl, by unfold maxLen; omega, (fun x => by cases x), fun _ => ⟨b, 0, rfl, h.ws⟩⟩
theorem LD.cells (h : LD w lb b cap id deal att zs P) :
    w.cell? ⟨lb, 0, none⟩ = some (.int .i64 (id : Int)) ∧ w.cell? ⟨lb, 1, none⟩ = some (.int .i64 deal) ∧ w.cell? ⟨lb, 2, none⟩ = some (.int .i64 att) ∧ w.cell? ⟨lb, 3, none⟩ = some (.slice (some ⟨b, 0, none⟩) zs.length cap) ∧
    w.cell? ⟨lb, 4, none⟩ = some (.string (stP P.stt)) ∧ w.cell? ⟨lb, 5, none⟩ = some (.int .i64 P.ans) ∧ w.cell? ⟨lb, 27, none⟩ = some (.int .i64 P.prep) ∧ w.cell? ⟨lb, 28, none⟩ = some (.int .i64 P.seen) ∧ w.cell? ⟨lb, 29, none⟩ = some (.bool P.has) := by
  have hr := h.row
  obtain ⟨t0, t1, t2, t3, t4, t5, t6, e⟩ := seven h.pw.len
  unfold pC at hr
  rw [e] at hr
  refine ⟨?_, ?_, ?_, ?_, ?_, ?_, ?_, ?_, ?_⟩ <;> rw [cell_of_row _ _ _ _ _ _ hr] <;> rfl
theorem LD.fz (h : LD w lb b cap id deal att zs P) (i : Nat) : w.frozen? ⟨lb, i, none⟩ = false := by
  first
    | exact frozen_of_row h.row
    | (unfold World.frozen?; simp [h.row])
theorem LD.set {Q : PL} {i : Nat} {v : Value} (h : LD w lb b cap id deal att zs P) (hq : PW zs.length Q)
    (e : (pC id deal att (.slice (some ⟨b, 0, none⟩) zs.length cap) P).set i v = pC id deal att (.slice (some ⟨b, 0, none⟩) zs.length cap) Q) : LD (w.setCell ⟨lb, i, none⟩ v) lb b cap id deal att zs Q :=
  ⟨by rw [heap_setCell_same w lb i _ _ _ h.row, List.setIfInBounds_toArray, e], fun j hj => by
    have := h.ws j hj
    have hb := h.bl
    unfold World.cell? at this ⊢
    rw [show (w.setCell ⟨lb, i, none⟩ v).heap[(⟨b, 0 + j, none⟩ : Addr).block]? = w.heap[(⟨b, 0 + j, none⟩ : Addr).block]? from heap_setCell_other _ _ _ _ (by show b ≠ lb; omega)]
    exact this, h.bl, hq, h.glo⟩
theorem LD.setSt (h : LD w lb b cap id deal att zs P) (k : Nat) : LD (w.setCell ⟨lb, 4, none⟩ (.string (stP k))) lb b cap id deal att zs { P with stt := k } :=
  h.set ⟨h.pw.len, h.pw.lo, h.pw.hi⟩ rfl
theorem LD.setAns (h : LD w lb b cap id deal att zs P) (x : Int) (h0 : 0 ≤ x) (h1 : x < 2 ^ zs.length) : LD (w.setCell ⟨lb, 5, none⟩ (.int .i64 x)) lb b cap id deal att zs { P with ans := x } :=
  h.set ⟨h.pw.len, h0, h1⟩ rfl
theorem LD.setPrep (h : LD w lb b cap id deal att zs P) (x : Int) : LD (w.setCell ⟨lb, 27, none⟩ (.int .i64 x)) lb b cap id deal att zs { P with prep := x } := by
  obtain ⟨t0, t1, t2, t3, t4, t5, t6, e⟩ := seven h.pw.len
  exact h.set ⟨h.pw.len, h.pw.lo, h.pw.hi⟩ (by unfold pC; simp only [e]; rfl)
theorem LD.setSeen (h : LD w lb b cap id deal att zs P) (x : Int) : LD (w.setCell ⟨lb, 28, none⟩ (.int .i64 x)) lb b cap id deal att zs { P with seen := x } := by
  obtain ⟨t0, t1, t2, t3, t4, t5, t6, e⟩ := seven h.pw.len
  exact h.set ⟨h.pw.len, h.pw.lo, h.pw.hi⟩ (by unfold pC; simp only [e]; rfl)
theorem LD.setHas (h : LD w lb b cap id deal att zs P) (x : Bool) : LD (w.setCell ⟨lb, 29, none⟩ (.bool x)) lb b cap id deal att zs { P with has := x } := by
  obtain ⟨t0, t1, t2, t3, t4, t5, t6, e⟩ := seven h.pw.len
  exact h.set ⟨h.pw.len, h.pw.lo, h.pw.hi⟩ (by unfold pC; simp only [e]; rfl)
end
def FrB (base : Nat) (w : World) (v : Value) (L : List F9) : Prop := ∃ ad cap, v = .slice ad L.length cap ∧ FL w ad L ∧ ∀ p, ad = some p → base ≤ p.block
theorem FrB.fr {base : Nat} {w : World} {v : Value} {L : List F9} (h : FrB base w v L) : IsFr w v L := by
  obtain ⟨ad, cap, e, hf, -⟩ := h
  exact ⟨ad, cap, e, hf⟩
theorem FrB.mono {base B : Nat} {w : World} {v : Value} {L : List F9} (h : FrB base w v L) (hb : B ≤ base) : FrB B w v L := by
  obtain ⟨ad, cap, e, hf, hg⟩ := h
  exact ⟨ad, cap, e, hf, fun p hp => Nat.le_trans hb (hg p hp)⟩
theorem FrB.zero (base : Nat) (w : World) : FrB base w (.slice none 0 0) [] := ⟨none, 0, rfl, FL.nil _ _, fun p hp => by cases hp⟩
theorem FrB.owned {w : World} {base : Nat} {v : Value} {L : List F9} (h : w.ownsRow base 130 9 v L.length (frCells L)) : FrB base w v L := by
  obtain ⟨ad, cap, e, hf⟩ := IsFr.owned h
  subst e
  refine ⟨ad, cap, rfl, hf, fun p hp => ?_⟩
  subst hp
  rcases h.2 with ⟨hx, -⟩ | ⟨g, cap', cur, hx, hb, -⟩
  · cases hx
  · cases hx
    exact hb
theorem FrB.kept {S : Nat → Prop} {base : Nat} {w w' : World} {v : Value} {L : List F9} (h : FrB base w v L) (k : Kept S w w') (hS : ∀ i, S i → i < base) : FrB base w' v L := by
  obtain ⟨ad, cap, e, hf, hg⟩ := h
  refine ⟨ad, cap, e, fun i hi => ?_, hg⟩
  obtain ⟨b, off, ha, hc⟩ := hf i hi
  refine ⟨b, off, ha, fun j hj => ?_⟩
  have h2 := hc j hj
  have h3 : (f9L (L[i]'hi))[j]? = some ((f9L (L[i]'hi))[j]'(by rw [f9L_length]; exact hj)) := List.getElem?_eq_getElem _
  rw [h3] at h2 ⊢
  have hb : b < w.heap.size := cell_lt h2
  have hgb : base ≤ b := hg _ ha
  unfold World.cell? at h2 ⊢
  rw [show w'.heap[(⟨b, off + i * 9 + j, none⟩ : Addr).block]? = w.heap[(⟨b, off + i * 9 + j, none⟩ : Addr).block]? from k.block b hb (fun hs => by have := hS b hs; omega)]
  exact h2
theorem Tryz.infoFq : (Tryz.prog.info? 130).map (fun i => (i.zero, i.size, i.bytes)) = some (some (frV 0 0 0 0 0 false 0 0 0), 9, 72) := by kernel_rfl
theorem lit_cellsQ (w : World) (t : TypeId) (L : List Value) : ∀ j u, L[j]? = some u → (w.alloc (.cells L.toArray t)).cell? ((⟨w.heap.size, 0, none⟩ : Addr).add j) = some u := by
  intro j u h
  rw [addr_add, cell_of_row _ _ _ _ _ _ (heap_alloc_new w _), List.getElem?_toArray, Nat.zero_add]
  exact h
theorem f9_oneQ (x : F9) : ∀ u ∈ f9L x, u.oneCell' = true := by
  intro u hu
  simp [f9L] at hu
  rcases hu with rfl | rfl | rfl | rfl | rfl | rfl | rfl | rfl | rfl <;> rfl
set_option maxHeartbeats 4000000 in
set_option maxRecDepth 100000 in
theorem ldtoAll_own (lb b cap id : Nat) (deal att : Int) (zs : List Int) (P : PL) (kind ph : Int) (w : World) (h : LD w lb b cap id deal att zs P) (hn : zs.length ≤ 7) :
    Calls Tryz.prog 140 #[.pointer (some ⟨lb, 0, none⟩), .int .i64 kind, .int .i64 ph] w fun e w' => ∃ v, e = .returned v ∧ w'.ownsRow w.heap.size 130 9 v (toL id deal kind att ph zs.length).length (frCells (toL id deal kind att ph zs.length)) ∧ Below w.heap.size w w' := by
  obtain ⟨i0, hi, hz0, hz1, hz2⟩ := info_parts Tryz.infoFq
  have H := hid h
  obtain ⟨c0, c1, c2, c3, -, -, -, -, -⟩ := h.cells
  clear h
  obtain ⟨n, HN⟩ : ∃ n, Hid (zs.length = n) := ⟨_, rfl⟩
  rw [HN.out] at c3 hn ⊢
  obtain ⟨L, HL⟩ : ∃ L, Hid (toL id deal kind att ph = L) := ⟨_, rfl⟩
  rw [HL.out]
  have HLE : Hid (∀ k, (L k).length = k) := by rw [← HL.out]; exact toL_length _ _ _ _ _
  have H0 : Hid (L 0 = []) := by rw [← HL.out]; rfl
  go_enter Tryz.func140, Tryz.ntmps140
  go_wp2_with fail
  clear c0 c1 c2 c3
  go_loopw [7, 14] (fun v i wr => ∃ k : Nat, k ≤ n ∧ i = .int .i64 (k : Int) ∧ wr.ownsRow w.heap.size 130 9 v (L k).length (frCells (L k)) ∧ Below w.heap.size w wr) (fun _ i _ => n - (intOf i).toNat)
  case atStart => exact ⟨0, Nat.zero_le _, rfl, by rw [H0.out]; exact World.ownsRow_nil _ _ _ _, Below.refl _ _⟩
  case round =>
    obtain ⟨k, hk, rfl, hown, hb⟩ := hrel
    have HO := hid hown
    have HB := hid hb
    obtain ⟨c0, c1, c2, c3, -, -, -, -, -⟩ := (H.out.later hb).cells
    have hlb : lb < wr.heap.size := row_ltJ (H.out.later hb).row
    have hle := Nat.le_of_eq (HLE.out k)
    clear hown hb
    by_cases hlt : k < n
    · have HS : Hid (L (k + 1) = L k ++ [⟨id, k, deal, kind, att, false, ph, 0, 0⟩]) := by rw [← HL.out]; rfl
      have HS2 : Hid ((L (k + 1)).length = (L k).length + 1 ∧ frCells (L (k + 1)) = frCells (L k) ++ f9L ⟨id, k, deal, kind, att, false, ph, 0, 0⟩) := by
        rw [HS.out]
        exact ⟨by simp, by rw [frCells_append]; rfl⟩
      have HZ := World.ownsRow.alloc HO.out
      have hws := HB.out.size
      go_wp2_with fail
      go_region_law ((refine step_append_lies _ (by rfl) _ _ _ (by rfl) w.heap.size 130 i0 (frV 0 0 0 0 0 false 0 0 0) 9 72 Tryz.underlying49 hi hz0 hz1 hz2 (by rfl) (by decide) _ (L k).length (frCells (L k)) (by rfl) (by exact HZ _) ⟨wr.heap.size, 0, none⟩ 1 1 (f9L ⟨id, k, deal, kind, att, false, ph, 0, 0⟩) (by rfl) (by rfl) (by exact lit_cellsQ wr 130 (f9L ⟨id, k, deal, kind, att, false, ph, 0, 0⟩)) (by exact f9_oneQ _) (by decide) (by unfold maxLen; omega) (by omega) (by exact Nat.le_trans hws (by simp)) (wr.heap.size + 1) (by simp) ?_; intro g5 c5 w5 hown5 hg5 hat5 hlt5; have HQ5 := hid (And.intro (show w5.ownsRow w.heap.size 130 9 (.slice (some ⟨g5, 0, none⟩) ((L k).length + 1) c5) (L (k + 1)).length (frCells (L (k + 1))) by rw [HS2.out.1, HS2.out.2]; exact hown5) ((HB.out.alloc HB.out.size (.cells (f9L ⟨id, k, deal, kind, att, false, ph, 0, 0⟩).toArray 130)).drew.grown hg5 (by simp; omega) (fun j hj => (HO.out.lt j hj).1))); clear hown5 hg5 hat5))
      all_goals go_wp2_with fail
      all_goals go_roundw
      all_goals first | exact ⟨k + 1, by omega, by go_num, HQ5.out.1, HQ5.out.2⟩ | exact ⟨k + 1, by omega, by go_num, HQ5.out.1, HQ5.out.2.drew⟩ | (simp [intOf]; omega)
    · obtain rfl : k = n := by omega
      go_wp2_with fail
      go_ret
      exact ⟨_, rfl, HO.out, HB.out⟩
theorem ldtoAll_any (lb b cap id : Nat) (deal att : Int) (zs : List Int) (P : PL) (kind ph : Int) (w : World) (h : LD w lb b cap id deal att zs P) (hn : zs.length ≤ 7) :
    Calls Tryz.prog 140 #[.pointer (some ⟨lb, 0, none⟩), .int .i64 kind, .int .i64 ph] w fun e w' => ∃ v, e = .returned v ∧ FrB w.heap.size w' v (toL id deal kind att ph zs.length) ∧ Below w.heap.size w w' := by
  refine (ldtoAll_own lb b cap id deal att zs P kind ph w h hn).mono ?_
  rintro e w' ⟨v, h1, h2, h3⟩
  exact ⟨v, h1, FrB.owned h2, h3⟩
theorem tafter_any (a : Int) (w : World) : Calls Tryz.prog 235 #[.int .i64 a] w fun e w' => e = .returned (.int .i64 (afterI a)) ∧ w' = w := by
  unfold afterI
  by_cases h4 : a = 4
  · subst h4
    go_enter Tryz.func235, Tryz.ntmps235
    go_wp2
    go_ret
    exact ⟨rfl, rfl⟩
  · rw [if_neg h4]
    by_cases h5 : a = 5
    · subst h5
      go_enter Tryz.func235, Tryz.ntmps235
      go_wp2
      go_ret
      exact ⟨rfl, rfl⟩
    · rw [if_neg h5]
      go_enter Tryz.func235, Tryz.ntmps235
      go_wp2
      go_ret
      exact ⟨rfl, rfl⟩
end Go.Proofs.YtbaamegnmeohoacGreatDoor
