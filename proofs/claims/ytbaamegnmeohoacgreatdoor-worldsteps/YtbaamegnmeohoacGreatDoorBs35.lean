/-
  On the way to WStepsProof: UE XH XJ XW.
-/
import Derived.Test.YtbaamegnmeohoacGreatDoorBs20
import Derived.Test.YtbaamegnmeohoacGreatDoorBs34
import Derived.Test.YtbaamegnmeohoacGreatDoorBs33
import Derived.DeepKeys
import Derived.Laws.StructEq
namespace Go.Proofs.YtbaamegnmeohoacGreatDoor
open Go.RowKit
theorem ins_any (base b o n c i vb : Nat) (cur : Array Value) (L : List F9) (F : F9) (w : World) (hb : w.heap[b]? = some (.cells cur 130 (0, 0))) (hbase : base ≤ b) (hL : L.length = n) (hnc : n ≤ c) (hcm : c ≤ maxLen) (hsz : o + c * 9 ≤ cur.size) (htk : ∀ j, j < n * 9 → cur[o + j]? = (frCells L)[j]?) (hbig : n ≤ 1000000000000) (hi : i < n) (hvb : w.heap[vb]? = some (.cells (f9L F).toArray 130 (0, 0))) (hne : vb ≠ b) :
    Calls Tryz.prog 117 #[.slice (some ⟨b, o, none⟩) n c, .int .i64 (i : Int), .slice (some ⟨vb, 0, none⟩) 1 1] w fun e w' => ∃ g o' G, e = .returned (.slice (some ⟨g, o', none⟩) (n + 1) G) ∧ OwnF w' base (.slice (some ⟨g, o', none⟩) (n + 1) G) (insL L i F) ∧ Kept (In1 b) w w' ∧ (g = b ∨ g = w.heap.size) := by
  by_cases hr : n + 1 ≤ c
  · refine (ins_room base b o n c i vb cur L F w hb hbase hL hr hcm hsz htk hi hvb hne).mono ?_
    rintro e w' ⟨h1, h2, h3⟩
    exact ⟨b, o, c, h1, h2, h3, .inl rfl⟩
  · refine (ins_grow base b o n c i vb cur L F w hb (by have := row_ltJ hb; omega) hL hnc (by omega) hbig htk hi hvb).mono ?_
    rintro e w' ⟨G, h1, h2, h3⟩
    refine ⟨_, 0, G, h1, OwnF.of_own ?_, Kept.of_below h3, .inr rfl⟩
    rw [insL_length L i F (by omega), hL]
    exact h2
section
variable {w0 w w' : World} {C C' : Nat → Nat} {K : NB} {X : XB} {i m m' : Nat} {zs : List Int} {N : PN} {V V' : PX} {A : Nat → Addr}
set_option maxRecDepth 100000 in
theorem twice_no (s : Int) (h : WD w0 w C X zs V m) (hE : Held9 w0 A) (hs : ¬ (0 ≤ s ∧ s < V.fly.length)) :
    Calls Tryz.prog 53 #[.pointer (some ⟨X.xb, 0, none⟩), .int .i64 s] w fun e w' => e = .returned (ev A 4) ∧ w' = w := by
  have H := hid h
  have HB := hid (decide_eq_false hs)
  have g3' : w.cell? ⟨3, 0, none⟩ = some (.iface 342 (.pointer (some (A 3)))) := (h.held hE).var 3 (by decide)
  clear h hE hs
  go_enter Tryz.func53, Tryz.ntmps53
  go_wp2_with fail
  refine (flies_is s false H.out HB.out).mono ?_
  rintro e w1 ⟨rfl, hx⟩
  subst w1
  go_wp2_with fail
  go_ret
  exact ⟨rfl, rfl⟩
theorem XI.twice {k : Nat} {f : F9} (h : XI zs V m) (hf : f ∈ V.fly) : XI zs (twiceX V k f) (m + 1) := by
  refine ⟨h.he, fun i hi => (h.nd i hi).mono (Nat.le_succ _), fun x hx => ?_, ?_, h.ev⟩
  · rcases List.mem_append.1 hx with g | g
    · exact h.fr x (List.mem_of_mem_take g)
    · rcases List.mem_cons.1 g with g | g
      · rw [g]; exact h.fr f hf
      · exact h.fr x (List.mem_of_mem_drop g)
  · have := h.fl
    show (V.fly.take k ++ f :: V.fly.drop k).length ≤ _
    rw [List.length_append, List.length_take, List.length_cons, List.length_drop]; omega
theorem WD.twiced {k g o c g' o' G : Nat} {f : F9} {W : World} (h : WD w0 w C X zs V m) (hv : X.fv = .slice (some ⟨g, o, none⟩) V.fly.length c) (hk : k < V.fly.length) (hf : f ∈ V.fly) (hb : Below w.heap.size w W) (hown : OwnF w' w0.heap.size (.slice (some ⟨g', o', none⟩) (V.fly.length + 1) G) (insL V.fly k f)) (hkk : Kept (In1 g) W w') (hg : g' = g ∨ g' = W.heap.size) :
    WOut w0 w (w'.setCell ⟨X.xb, 3, none⟩ (.slice (some ⟨g', o', none⟩) (V.fly.length + 1) G)) C X zs (twiceX V k f) (m + 1) := by
  have hW := h.later hb
  have cg : C g = 1005 := h.cf g (by rw [hv]; rfl)
  have hcx := h.cx
  have hgx : g ≠ X.xb := fun e => by rw [e] at cg; omega
  have hrow : w'.heap[X.xb]? = some (.cells (wdC X zs.length).toArray 81 (0, 0)) := hkk.row hW.row (fun e => hgx (show X.xb = g from e).symm)
  have hxl := row_ltJ hW.row
  have hS : ∀ x, (x = X.xb ∨ x = g) → C x = 1001 ∨ C x = 1005 ∨ C x = 1006 := fun x hx => by
    rcases hx with rfl | rfl
    · exact .inl h.cx
    · exact .inr (.inl cg)
  have hK2 : Kept (fun x => x = X.xb ∨ x = g) W (w'.setCell ⟨X.xb, 3, none⟩ (.slice (some ⟨g', o', none⟩) (V.fly.length + 1) G)) := (hkk.mono (fun x hx => .inr hx)).setCell (.inl rfl) _
  have hg'lt : g' < w'.heap.size := (hown.lt _ rfl).2
  have hg'x : g' ≠ X.xb := fun e => by rcases hg with q | q <;> omega
  obtain ⟨C1, hC1, hl1, hcg1⟩ : ∃ C1 : Nat → Nat, (∀ x, x < W.heap.size → C1 x = C x) ∧ (∀ x, W.heap.size ≤ x → C1 x < 2000 → x < (w'.setCell ⟨X.xb, 3, none⟩ (.slice (some ⟨g', o', none⟩) (V.fly.length + 1) G)).heap.size) ∧ C1 g' = 1005 := by
    rcases hg with q | q
    · exact ⟨C, fun _ _ => rfl, fun x hx hc => by have := hW.lt x hc; omega, by rw [q]; exact cg⟩
    · refine ⟨paint C g' 1005, fun x hx => paint_ne (by omega), fun x hx hc => ?_, paint_at _ _ _⟩
      by_cases e : x = g'
      · rw [e]; simpa using hg'lt
      · rw [paint_ne e] at hc
        have := hW.lt x hc; omega
  have hl : (V.fly.take k ++ f :: V.fly.drop k).length = V.fly.length + 1 := by rw [List.length_append, List.length_take, List.length_cons, List.length_drop]; omega
  refine WOut.step (C1 := C) (X1 := X) rfl (Kept.of_below hb) (fun _ _ => rfl) ?_
  refine ⟨C1, { X with fv := .slice (some ⟨g', o', none⟩) (V.fly.length + 1) G }, ?_, rfl, hK2.mono (fun x hx => by show C x < 2000; rcases hS x hx with q | q | q <;> omega), hC1⟩
  refine hW.own (ev := X.ev) (E := V.evs) (F := V.fly.take k ++ f :: V.fly.drop k) hK2 hS hC1 hl1 ?_ ?_ ?_ ?_ ?_ (Nat.le_succ _) (h.inv.twice hf)
  · rw [heap_setCell_same w' X.xb 3 _ _ _ hrow]; rfl
  · exact hown.kept ((Kept.refl (In1 X.xb) w').set1 3 _) (fun y hy e => by
      have : g' = y := Option.some.inj hy
      rw [← this] at e
      exact hg'x e)
  · exact own_kept hW.evs hK2 (fun y hy e => by
      have h6 := h.ce y hy
      rcases e with rfl | rfl
      · omega
      · omega)
  · intro y hy
    have : g' = y := Option.some.inj hy
    rw [← this]; exact hcg1
  · intro y hy
    rw [hC1 y (own_lt hW.evs hy)]
    exact h.ce y hy
set_option maxHeartbeats 2000000 in
set_option maxRecDepth 100000 in
theorem twice_ok (j : Nat) (F : F9) (h : WD w0 w C X zs V m) (hj : j < V.fly.length) (hF : V.fly[j]'hj = F) (hm : m < 1000000) :
    Calls Tryz.prog 53 #[.pointer (some ⟨X.xb, 0, none⟩), .int .i64 (j : Int)] w fun e w' => e = .returned .nilIface ∧ WOut w0 w w' C X zs (twiceX V j F) (m + 1) := by
  obtain ⟨g, o, cap, cur, hv, h2, h3, h4, h5, h6, h7⟩ := h.flyForm (by omega)
  have hcl := fly_cells h3 h7 hj
  rw [hF] at hcl
  obtain ⟨b0, b1, b2, b3, b4, b5, b6, b7, b8⟩ := nineO (o := o + j * 9) hcl
  obtain ⟨-, -, -, c3, -⟩ := h.cells
  have cg : C g = 1005 := h.cf g (by rw [hv]; rfl)
  have HMem : Hid (F ∈ V.fly) := by rw [← hF]; exact List.getElem_mem _
  have H := hid h
  have HB : Hid (decide (0 ≤ (j : Int) ∧ (j : Int) < V.fly.length) = true) := decide_eq_true (by omega)
  have hbig : V.fly.length ≤ 1000000000000 := by have := h.inv.fl; omega
  obtain ⟨n, hn⟩ : ∃ n, Hid (V.fly.length = n) := ⟨_, rfl⟩
  have HV := hid hv
  rw [hv] at c3
  obtain ⟨W, HW⟩ : ∃ W, Hid (w.drew.alloc (.cells (f9L F).toArray 130) = W) := ⟨_, rfl⟩
  have HBW : Hid (Below w.heap.size w W) := by rw [← HW.out]; exact (Below.refl _ _).drew.alloc (Nat.le_refl _) _
  have HRW : Hid (W.heap[w.heap.size]? = some (.cells (f9L F).toArray 130 (0, 0))) := by rw [← HW.out]; exact heap_alloc_new w.drew _
  have hW := HW.out
  have c3W := cell_later HBW.out c3
  have HIns := hid (ins_any w0.heap.size g o n cap j w.heap.size cur V.fly F W ((HBW.out.block _ (row_ltJ h3)).trans h3) h2 hn.out (by rw [← hn.out]; exact h4) h5 h6 (by rw [← hn.out]; exact h7) (by rw [← hn.out]; exact hbig) (by rw [← hn.out]; exact hj) HRW.out (by have := row_ltJ h3; omega))
  have HJ := hid hj
  rw [hn.out] at c3 c3W hbig hj
  have HX : Hid (∀ w', Kept (In1 g) W w' → w'.cell? ⟨X.xb, 3, none⟩ = some (.slice (some ⟨g, o, none⟩) n cap) ∧ w'.frozen? ⟨X.xb, 3, none⟩ = false) := by
    intro w' hkk
    have hr := hkk.row (H.out.later HBW.out).row (fun e => by have h1 := H.out.cx; rw [show X.xb = g from e, cg] at h1; omega)
    exact ⟨by rw [cell_of_row _ _ _ _ _ _ hr, ← hn.out, ← HV.out]; rfl, frozen_of_row _ _ _ _ _ hr⟩
  obtain ⟨ff, ft, fd, fk, fa, fy, fp1, fp2, fp3⟩ := F
  simp only at b0 b1 b2 b3 b4 b5 b6 b7 b8
  have e0 := cell_later HBW.out b0
  have hW' : w.drew.alloc (.cells #[.int .i64 ff, .int .i64 ft, .int .i64 fd, .int .i64 fk, .int .i64 fa, .bool fy, .int .i64 fp1, .int .i64 fp2, .int .i64 fp3] 130) = W := hW
  have HXB : Hid (X.xb < W.heap.size) := by have := row_ltJ (H.out.later HBW.out).row; exact this
  clear h hv h2 h3 h4 h5 h6 h7 cg hcl hF hW
  go_enter Tryz.func53, Tryz.ntmps53
  go_wp2_with fail
  refine (flies_is (j : Int) true H.out HB.out).mono ?_
  rintro e w1 ⟨rfl, hx⟩
  subst w1
  go_wp2_with fail
  go_region_with ((go_at_call 117; (with_reducible refine HIns.out.mono ?_); rintro e w2 ⟨g', o', G, rfl, ho2, hk2, hg2⟩; obtain ⟨q3, qz⟩ := HX.out w2 hk2; have HO := hid (And.intro ho2 (And.intro hk2 hg2)); clear ho2 hk2 hg2))
  all_goals go_wp2_with fail
  all_goals go_ret
  all_goals refine ⟨rfl, ?_⟩
  all_goals rw [← hn.out] at HO ⊢
  all_goals exact H.out.twiced HV.out HJ.out HMem.out HBW.out HO.out.1 HO.out.2.1 HO.out.2.2
end
theorem fr_one {w : World} {b : Nat} {F : F9} (h : w.heap[b]? = some (.cells (f9L F).toArray 130 (0, 0))) : IsFr w (.slice (some ⟨b, 0, none⟩) 1 1) [F] := by
  refine ⟨_, 1, rfl, fun i hi => ⟨b, 0, rfl, fun j hj => ?_⟩⟩
  have hi0 : i = 0 := by simp only [List.length_cons, List.length_nil] at hi; omega
  subst hi0
  rw [cell_of_row _ _ _ _ _ _ h]
  simp only [Nat.zero_mul, Nat.zero_add, List.getElem_cons_zero, List.getElem?_toArray]
theorem twice_list {α : Type} (L : List α) (k : Nat) (hk : k < L.length) : L.take (k + 1) ++ [L[k]'hk] ++ L.drop (k + 1) = L.take k ++ (L[k]'hk) :: L.drop k := by
  rw [List.take_succ_eq_append_getElem hk, List.drop_eq_getElem_cons hk]
  simp only [List.append_assoc, List.cons_append, List.nil_append]
section
variable {w0 w w' : World} {C C' : Nat → Nat} {Y : YB} {aw : Option Addr} {cap m m' : Nat} {zs : List Int} {V V' : PX}
set_option maxRecDepth 100000 in
theorem rtwice_no (s : Int) (h : RW w0 w C Y aw cap zs V m) (hs : ¬ (0 ≤ s ∧ s < V.fly.length)) (hm : m ≤ 100000000) :
    Calls Tryz.prog 54 #[.pointer (some ⟨Y.xb, 0, none⟩), .int .i64 s] w fun e w' => e = .returned (.int .i64 4) ∧ w' = w := by
  obtain ⟨a, c, hv⟩ := h.flyForm
  have c3 := (h.cells).2.2.2.1
  rw [hv] at c3
  have hbig : V.fly.length ≤ 1000000000000 := by have := h.inv.fl; omega
  obtain ⟨n, hn⟩ : ∃ n, Hid (V.fly.length = n) := ⟨_, rfl⟩
  rw [hn.out] at c3 hs hbig
  clear h hv
  by_cases hneg : s < 0
  · go_enter Tryz.func54, Tryz.ntmps54
    go_wp2_with fail
    go_ret
    exact ⟨rfl, rfl⟩
  · have hge : (n : Int) ≤ s := by omega
    go_enter Tryz.func54, Tryz.ntmps54
    go_wp2_with fail
    go_ret
    exact ⟨rfl, rfl⟩
set_option maxHeartbeats 2000000 in
set_option maxRecDepth 100000 in
theorem rtwice_ok (k : Nat) (F : F9) (h : RW w0 w C Y aw cap zs V m) (hk : k < V.fly.length) (hF : V.fly[k]'hk = F) (hm : m ≤ 100000000) :
    Calls Tryz.prog 54 #[.pointer (some ⟨Y.xb, 0, none⟩), .int .i64 (k : Int)] w fun e w' => e = .returned (.int .i64 0) ∧ ROut w0 w w' C Y aw cap zs (twiceX V k F) (m + 1) := by
  obtain ⟨g, cp, cur, hv, hbg, hrow, hnc, hcm, hcs, htk⟩ : ∃ g cp, ∃ cur : Array Value, Y.fv = .slice (some ⟨g, 0, none⟩) V.fly.length cp ∧ w0.heap.size ≤ g ∧ w.heap[g]? = some (.cells cur 130 (0, 0)) ∧ V.fly.length ≤ cp ∧ cp ≤ maxLen ∧ cur.size = cp * 9 ∧ cur.toList.take (V.fly.length * 9) = frCells V.fly := by
    rcases h.fly.2 with ⟨-, h0⟩ | h1
    · omega
    · exact h1
  have HFr := hid (IsFr.owned h.fly)
  rw [hv] at HFr
  have hcl : ∀ j, j < 9 → w.cell? ⟨g, k * 9 + j, none⟩ = (f9L F)[j]? := fun j hj => by
    rw [← hF, cell_of_row _ _ _ _ _ _ hrow, ← frCells_get V.fly k j hk hj, ← htk, List.getElem?_take_of_lt (by omega), Array.getElem?_toList]
  have HMem : Hid (F ∈ V.fly) := by rw [← hF]; exact List.getElem_mem _
  have HLs : Hid (V.fly.take (k + 1) ++ [F] ++ V.fly.drop (k + 1) = V.fly.take k ++ F :: V.fly.drop k) := by rw [← hF]; exact twice_list _ _ hk
  obtain ⟨ff, ft, fd, fk, fa, fy, fh, fp, fq⟩ := F
  have H := hid h
  obtain ⟨n, hn⟩ : ∃ n, Hid (V.fly.length = n) := ⟨_, rfl⟩
  have hbig : V.fly.length ≤ 100000000000 := by have := h.inv.fl; omega
  have c3 := (h.cells).2.2.2.1
  rw [hv] at c3
  have HT1 := hid (fr_take (c := cp) (k := k + 1) HFr.out hk)
  obtain ⟨o2, ho2⟩ : ∃ o2, o2 = if cp = k + 1 then 0 else (k + 1) * 9 := ⟨_, rfl⟩
  have HT2 := hid (fr_drop (c := cp - (k + 1)) (o2 := o2) (k := k + 1) HFr.out hk (fun hx => by rw [ho2, if_neg (by omega)]; omega))
  have hA1 : (if cp = k + 1 then some (⟨g, 0, none⟩ : Addr) else some ⟨g, (k + 1) * 9, none⟩) = some ⟨g, o2, none⟩ := by rw [ho2]; split <;> rfl
  have htl : (V.fly.take (k + 1)).length = k + 1 := by rw [List.length_take]; omega
  have hdl : (V.fly.drop (k + 1)).length = V.fly.length - (k + 1) := by rw [List.length_drop]
  obtain ⟨LT, HLT⟩ : ∃ LT, Hid (V.fly.take (k + 1) = LT) := ⟨_, rfl⟩
  obtain ⟨LD, HLD⟩ : ∃ LD, Hid (V.fly.drop (k + 1) = LD) := ⟨_, rfl⟩
  rw [HLT.out] at HT1 HLs htl
  rw [HLD.out] at HT2 HLs hdl
  rw [hn.out] at c3 hk hbig hnc hdl HT2
  have hw1 : IntKind.i64.wrap ((k : Int) + 1) = (k : Int) + 1 := by rw [IntKind.wrap_i64]; omega
  have hb1 : (0 : Int) ≤ (k : Int) + 1 := by omega
  have hb2 : (k : Int) + 1 ≤ (n : Int) := by omega
  have hb3 : (k : Int) + 1 ≤ (cp : Int) := by omega
  have hb4 : ((k : Int) + 1).toNat = k + 1 := by omega
  have hlx := row_ltJ h.row
  have HLtl := hid htl
  have HLdl := hid hdl
  have HX3 : Hid (∀ w3, w.grownBy w3 none → w3.cell? ⟨Y.xb, 3, none⟩ = some (.slice (some ⟨g, 0, none⟩) n cp) ∧ Below w.heap.size w w3 ∧ ∀ j, j < 9 → w3.cell? ⟨g, k * 9 + j, none⟩ = (f9L ⟨ff, ft, fd, fk, fa, fy, fh, fp, fq⟩)[j]?) := by
    intro w3 hg
    have hb : Below w.heap.size w w3 := Below.grown (Below.refl _ _) hg (Nat.le_refl _) (fun j hj => by cases hj)
    refine ⟨cell_later hb c3, hb, fun j hj => ?_⟩
    have q := hcl j hj
    have hr : w3.heap[g]? = some (.cells cur 130 (0, 0)) := (hb.block _ (row_ltJ hrow)).trans hrow
    rw [cell_of_row _ _ _ _ _ _ hrow] at q
    rw [cell_of_row _ _ _ _ _ _ hr, q]
  have HV := hid hv
  have HM := hid hm
  clear h hv hbg hrow hcm hcs htk hcl hF ho2 htl hdl hm
  have HGo : Hid (∀ (v : Value) (wa wb : World) (q : Nat) (ys : List Value), wa.ownsRow w.heap.size 130 9 v q ys → Below w.heap.size w wa → wa.grownBy wb v.ownBlock → wb.cell? ⟨Y.xb, 3, none⟩ = some (.slice (some ⟨g, 0, none⟩) n cp) ∧ wb.frozen? ⟨Y.xb, 3, none⟩ = false ∧ Below w.heap.size w wb) := by
    intro v wa wb q ys ho hb hg
    have hb4 : Below w.heap.size w wb := Below.grown hb hg hb.size (fun j hj => (ho.lt j hj).1)
    exact ⟨cell_later hb4 c3, frozen_of_row _ _ _ _ _ ((H.out.later hb4).row), hb4⟩
  have HEnd : Hid (∀ (v4 : Value) (w4 : World), w4.ownsRow w.heap.size 130 9 v4 (k + 1 + 1 + (n - (k + 1))) (frCells LT ++ frCells [⟨ff, ft, fd, fk, fa, fy, fh, fp, fq⟩] ++ frCells LD) → Below w.heap.size w w4 → ROut w0 w (w4.setCell ⟨Y.xb, 3, none⟩ v4) C Y aw cap zs (twiceX V k ⟨ff, ft, fd, fk, fa, fy, fh, fp, fq⟩) (m + 1)) := by
    intro v4 w4 ho hb
    have hel : (V.fly.take k ++ ⟨ff, ft, fd, fk, fa, fy, fh, fp, fq⟩ :: V.fly.drop k).length = k + 1 + 1 + (n - (k + 1)) := by rw [← HLs.out, List.length_append, List.length_append, HLtl.out, HLdl.out]; rfl
    refine H.out.framed (F := V.fly.take k ++ ⟨ff, ft, fd, fk, fa, fy, fh, fp, fq⟩ :: V.fly.drop k) (S := fun _ => False) (Kept.of_below hb) (fun _ x => x.elim) ?_ ?_ (Nat.le_succ _) (H.out.inv.twice HMem.out)
    · rw [hel, ← HLs.out, frCells_append, frCells_append]
      exact own_lower ho H.out.bel.size
    · cases hob : v4.ownBlock with
      | none => exact .inl rfl
      | some g4 => exact .inr (.inr ⟨g4, rfl, (ho.lt g4 hob).1⟩)
  have HX4 : Hid (∀ (v3 : Value) (w3 : World) (ys : List Value), w3.ownsRow w.heap.size 130 9 v3 (k + 1) ys → Below w.heap.size w w3 → (w3.alloc (.cells #[.int .i64 ff, .int .i64 ft, .int .i64 fd, .int .i64 fk, .int .i64 fa, .bool fy, .int .i64 fh, .int .i64 fp, .int .i64 fq] 130)).ownsRow w.heap.size 130 9 v3 (k + 1) ys ∧ Below w.heap.size w (w3.alloc (.cells #[.int .i64 ff, .int .i64 ft, .int .i64 fd, .int .i64 fk, .int .i64 fa, .bool fy, .int .i64 fh, .int .i64 fp, .int .i64 fq] 130)) ∧ IsFr (w3.alloc (.cells #[.int .i64 ff, .int .i64 ft, .int .i64 fd, .int .i64 fk, .int .i64 fa, .bool fy, .int .i64 fh, .int .i64 fp, .int .i64 fq] 130)) (.slice (some ⟨w3.heap.size, 0, none⟩) 1 1) [⟨ff, ft, fd, fk, fa, fy, fh, fp, fq⟩]) := by
    intro v3 w3 ys ho hb
    exact ⟨own_kept ho (Kept.of_below (S := fun _ => False) (alloc9 w3 ff ft fd fk fa fy fh fp fq)) (fun _ _ e => e), hb.alloc hb.size _, fr_one (heap_alloc_new w3 _)⟩
  go_enter Tryz.func54, Tryz.ntmps54
  go_wp2_with (first
    | (at_builtin; refine wpList_append_frs rfl _ _ rfl w.heap.size 0 (.slice none 0 0) (.slice (some ⟨g, 0, none⟩) (k + 1) cp) [] LT rfl rfl (World.ownsRow_nil _ _ _ _) HT1.out (by rw [HLtl.out]; omega) (Nat.le_refl _) ?_; rw [HLtl.out, Nat.zero_add, List.nil_append]; intro ad' cap' w3 hown hg _; obtain ⟨c3W3, hb3', hcl3⟩ := HX3.out w3 hg; obtain ⟨y0, y1, y2, y3, y4, y5, y6, y7, y8⟩ := nineO (o := k * 9) hcl3; simp only at y0 y1 y2 y3 y4 y5 y6 y7 y8; have HS3 := hid (HX4.out _ w3 _ hown hb3'); clear hown hg hb3' hcl3)
    | (at_builtin; refine wpList_append_frs rfl _ _ rfl w.heap.size (k + 1) (.slice ad' (k + 1) cap') (.slice (some ⟨w3.heap.size, 0, none⟩) 1 1) (frCells LT) [⟨ff, ft, fd, fk, fa, fy, fh, fp, fq⟩] rfl rfl HS3.out.1 HS3.out.2.2 (by rw [List.length_singleton]; omega) HS3.out.2.1.size ?_; rw [List.length_singleton]; intro ad4 cap4 w4 hown4 hg4 _; obtain ⟨c3W4, -, hb4'⟩ := HGo.out _ _ w4 _ _ HS3.out.1 HS3.out.2.1 hg4; have HS4 := hid (And.intro hown4 hb4'); clear hown4 hg4 hb4')
    | (at_builtin; refine wpList_append_frs rfl _ _ rfl w.heap.size (k + 1 + 1) (.slice ad4 (k + 1 + 1) cap4) (.slice (some ⟨g, o2, none⟩) (n - (k + 1)) (cp - (k + 1))) _ LD rfl rfl HS4.out.1 (HT2.out.later HS4.out.2) (by rw [HLdl.out]; omega) HS4.out.2.size ?_; rw [HLdl.out]; intro ad5 cap5 w5 hown5 hg5 _; obtain ⟨c3W5, z3W5, hb5⟩ := HGo.out _ w4 w5 _ _ HS4.out.1 HS4.out.2 hg5; have HS5 := hid (HEnd.out _ w5 hown5 hb5); clear hown5 hg5 hb5))
  go_ret
  exact ⟨rfl, HS5.out⟩
end
theorem twoCells_get : ∀ (L : List (Nat × Nat)) (i j : Nat) (h : i < L.length), j < 2 → (twoCells L)[i * 2 + j]? = (twoL (L[i]'h))[j]?
  | [], i, _, h, _ => absurd h (Nat.not_lt_zero _)
  | x :: L, 0, j, _, hj => by
    show (twoL x ++ twoCells L)[0 * 2 + j]? = _
    rw [Nat.zero_mul, Nat.zero_add, List.getElem?_append_left (by show j < 2; exact hj)]
    rfl
  | x :: L, i + 1, j, h, hj => by
    show (twoL x ++ twoCells L)[(i + 1) * 2 + j]? = _
    rw [List.getElem?_append_right (by show 2 ≤ _; omega), show (i + 1) * 2 + j - (twoL x).length = i * 2 + j by show _ - 2 = _; omega]
    exact twoCells_get L i j (by simpa using h) hj
theorem two_plain : Tryz.prog.plainKey 3 = true := by kernel_rfl
theorem two_under : Tryz.prog.underlying 199 = some (.array 2 3) := by kernel_rfl
theorem two_cellsX : Tryz.prog.cellsOf 3 = 1 := by kernel_rfl
theorem two_int : Tryz.prog.underlying 3 = some (.int .i64) := by kernel_rfl
theorem two_info : (Tryz.prog.info? 3).isSome = true := by kernel_rfl
theorem two_equal (x y a b : Int) (w : World) : (Op.equalIn (9999 + 1) 199 (.agg #[.int .i64 x, .int .i64 y]) (.agg #[.int .i64 a, .int .i64 b])).run Tryz.prog w = .ok (decide (x = a ∧ y = b)) w := by
  obtain ⟨i, hi⟩ := Option.isSome_iff_exists.1 two_info
  rw [run_equalIn_array w 9999 _ _ two_under hi, two_cellsX]
  have p0 : ∀ (u v : Int) w, (part 3 #[.int .i64 u, .int .i64 v] (0 * 1)).run Tryz.prog w = .ok (.int .i64 u) w := fun u v w => run_part_plain w two_plain rfl
  have p1 : ∀ (u v : Int) w, (part 3 #[.int .i64 u, .int .i64 v] 1).run Tryz.prog w = .ok (.int .i64 v) w := fun u v w => run_part_plain w two_plain rfl
  have q : ∀ (u v : Int) w, (Op.equalIn 9999 3 (.int .i64 u) (.int .i64 v)).run Tryz.prog w = .ok (u == v) w := fun u v w => run_equalIn_int w 9998 _ _ _ u v two_int
  show (Op.eqItems 9999 3 1 _ _ [0, 1]).run Tryz.prog w = _
  simp only [Op.eqItems, Sem.run_bind, p0, q, Result.andThen_ok]
  by_cases h0 : x = a <;> by_cases h1 : y = b <;> simp [h0, h1, p1, q]
theorem two_eq (x y a b : Int) (w : World) : (binOp .eql 199 (.agg #[.int .i64 x, .int .i64 y]) (.agg #[.int .i64 a, .int .i64 b])).run Tryz.prog w = .ok (.bool (decide (x = a ∧ y = b))) w := by
  have h := two_equal x y a b w
  rw [show 9999 + 1 = 10000 from rfl] at h
  go_simp
section
variable {w0 w w' : World} {C C' : Nat → Nat} {Y : YB} {aw : Option Addr} {cap m m' : Nat} {zs : List Int} {V V' : PX}
theorem own_two {base n : Nat} {v : Value} {L : List (Nat × Nat)} (h : w.ownsRow base 199 2 v n (twoCells L)) (hn : L.length = n) : ∃ a c, v = .slice a n c ∧ ∀ i (hi : i < L.length), ∃ g, a = some ⟨g, 0, none⟩ ∧ w.cell? ⟨g, i * 2, none⟩ = some (.int .i64 ((L[i]'hi).1 : Int)) ∧ w.cell? ⟨g, i * 2 + 1, none⟩ = some (.int .i64 ((L[i]'hi).2 : Int)) := by
  rcases h.2 with ⟨h1, h0⟩ | ⟨g, cp, cur, h1, hb, hr, h4, h5, h6, h7⟩
  · exact ⟨none, 0, by rw [h1, h0], fun i hi => by omega⟩
  · refine ⟨_, _, h1, fun i hi => ⟨g, rfl, ?_, ?_⟩⟩
    · rw [cell_of_row _ _ _ _ _ _ hr, ← Array.getElem?_toList, ← List.getElem?_take_of_lt (j := n * 2) (by omega), h7]
      exact twoCells_get L i 0 hi (by omega)
    · rw [cell_of_row _ _ _ _ _ _ hr, ← Array.getElem?_toList, ← List.getElem?_take_of_lt (j := n * 2) (by omega), h7]
      exact twoCells_get L i 1 hi (by omega)
theorem mem_upto {L : List (Nat × Nat)} {p : Nat × Nat → Prop} (h : ∀ i (hi : i < L.length), ¬ p (L[i]'hi)) : ¬ ∃ x, x ∈ L ∧ p x := by
  rintro ⟨x, hx, hp⟩
  obtain ⟨i, hi, rfl⟩ := List.getElem_of_mem hx
  exact h i hi hp
set_option maxHeartbeats 2000000 in
set_option maxRecDepth 100000 in
theorem rbroken_l (a b : Nat) (L : List (Nat × Nat)) (h : RW w0 w C Y aw cap zs V m) (hL : w.ownsRow w0.heap.size 199 2 Y.bv L.length (twoCells L)) (hl : L.length ≤ 1000000000) :
    Calls Tryz.prog 124 #[.pointer (some ⟨Y.xb, 0, none⟩), .int .i64 (a : Int), .int .i64 (b : Int)] w fun e w' => e = .returned (.bool (decide ((a, b) ∈ L ∨ (b, a) ∈ L))) ∧ w' = w := by
  obtain ⟨ad, c, hv, hc⟩ := own_two hL rfl
  have c2 := (h.cells).2.2.1
  rw [hv] at c2
  have HC := hid hc
  obtain ⟨n, hn⟩ : ∃ n, Hid (L.length = n) := ⟨_, rfl⟩
  rw [hn.out] at c2 hl
  clear h hL hv hc
  go_enter Tryz.func124, Tryz.ntmps124
  go_wp2_with fail
  go_loopw [7] (fun v wr => ∃ k : Nat, k ≤ n ∧ v = .int .i64 (k : Int) ∧ wr = w ∧ ∀ i (hi : i < L.length), i < k → ¬ (L[i]'hi = (a, b) ∨ L[i]'hi = (b, a))) (fun v _ => n - (intOf v).toNat)
  case atStart => exact ⟨0, Nat.zero_le _, rfl, rfl, fun _ _ hj => absurd hj (Nat.not_lt_zero _)⟩
  case round =>
    obtain ⟨k, hk, rfl, hwr, hno⟩ := hrel
    subst hwr
    have HNo := hid hno
    clear hno
    by_cases hlt : k < n
    · have hkL : k < L.length := by rw [hn.out]; exact hlt
      obtain ⟨g, rfl, d0, d1⟩ := HC.out k hkL
      obtain ⟨⟨x, y⟩, HE⟩ : ∃ e, Hid (L[k]'hkL = e) := ⟨_, rfl⟩
      rw [HE.out] at d0 d1
      simp only at d0 d1
      obtain ⟨p, HP⟩ : ∃ p, Hid (decide ((x : Int) = (a : Int) ∧ (y : Int) = (b : Int)) = p) := ⟨_, rfl⟩
      obtain ⟨q, HQ⟩ : ∃ q, Hid (decide ((x : Int) = (b : Int) ∧ (y : Int) = (a : Int)) = q) := ⟨_, rfl⟩
      have hp : ∀ w, (binOp .eql 199 (.agg #[.int .i64 (x : Int), .int .i64 (y : Int)]) (.agg #[.int .i64 (a : Int), .int .i64 (b : Int)])).run Tryz.prog w = .ok (.bool p) w := fun w => by rw [← HP.out]; exact two_eq _ _ _ _ w
      have hq : ∀ w, (binOp .eql 199 (.agg #[.int .i64 (x : Int), .int .i64 (y : Int)]) (.agg #[.int .i64 (b : Int), .int .i64 (a : Int)])).run Tryz.prog w = .ok (.bool q) w := fun w => by rw [← HQ.out]; exact two_eq _ _ _ _ w
      cases p with
      | true =>
        have h1 := of_decide_eq_true HP.out
        have hmem : (a, b) ∈ L := by
          rw [show (a, b) = L[k]'hkL by rw [HE.out, Prod.mk.injEq]; omega]; exact List.getElem_mem _
        have HM : Hid (decide ((a, b) ∈ L ∨ (b, a) ∈ L) = true) := decide_eq_true (.inl hmem)
        clear h1 hmem
        go_wp2_with fail
        go_ret
        exact ⟨by rw [HM.out]; rfl, rfl⟩
      | false =>
        cases q with
        | true =>
          have h1 := of_decide_eq_true HQ.out
          have hmem : (b, a) ∈ L := by
            rw [show (b, a) = L[k]'hkL by rw [HE.out, Prod.mk.injEq]; omega]; exact List.getElem_mem _
          have HM : Hid (decide ((a, b) ∈ L ∨ (b, a) ∈ L) = true) := decide_eq_true (.inr hmem)
          clear h1 hmem
          go_wp2_with fail
          go_ret
          exact ⟨by rw [HM.out]; rfl, rfl⟩
        | false =>
          go_wp2_with fail
          go_roundw
          case rel =>
            refine ⟨k + 1, by omega, by go_num, trivial, fun j hj hjk => ?_⟩
            by_cases e : j = k
            · subst e
              rw [HE.out]
              have h1 := of_decide_eq_false HP.out
              have h2 := of_decide_eq_false HQ.out
              rw [Prod.mk.injEq, Prod.mk.injEq]
              omega
            · exact HNo.out j hj (by omega)
          case measure => simp [intOf]; omega
    · obtain rfl : k = n := by omega
      have HM : Hid (decide ((a, b) ∈ L ∨ (b, a) ∈ L) = false) := decide_eq_false (fun hm => mem_upto (p := fun x => x = (a, b) ∨ x = (b, a)) (fun i hi => HNo.out i hi (by rw [← hn.out]; exact hi)) (by
        rcases hm with q | q
        · exact ⟨_, q, .inl rfl⟩
        · exact ⟨_, q, .inr rfl⟩))
      go_wp2_with fail
      go_ret
      exact ⟨by rw [HM.out]; rfl, rfl⟩
theorem rbroken_is (a b : Nat) (h : RW w0 w C Y aw cap zs V m) (ha : a < 7) (hb : b < 7) (hm : m ≤ 100000000) :
    Calls Tryz.prog 124 #[.pointer (some ⟨Y.xb, 0, none⟩), .int .i64 (a : Int), .int .i64 (b : Int)] w fun e w' => e = .returned (.bool (!(decide (a = b) || !brX V a b))) ∧ w' = w := by
  obtain ⟨L, h1, h2, h3⟩ := h.brk
  refine (rbroken_l a b L h h1 (by omega)).mono ?_
  rintro e w' ⟨rfl, rfl⟩
  refine ⟨?_, rfl⟩
  congr 2
  by_cases e : a = b
  · subst e
    have : ¬ ((a, a) ∈ L ∨ (a, a) ∈ L) := fun q => by
      rcases q with q | q <;> exact h2.2 _ q rfl
    rw [decide_eq_false this]; simp
  · have := h2.1 a b ha hb e
    cases hx : brX V a b with
    | true => rw [hx] at this; rw [decide_eq_true (this.1 rfl)]; simp [e]
    | false => rw [hx] at this; rw [decide_eq_false (fun q => by cases this.2 q)]; simp
end
section
variable {w0 w w1 w' : World} {C C' : Nat → Nat} {K : RB} {Y : YB} {aw : Option Addr} {i n cap m m' : Nat} {zs : List Int} {N : PN} {V V' : PX}
theorem RW.weights (h : RW w0 w C Y aw cap zs V m) : ∃ vb vo, aw = some ⟨vb, vo, none⟩ ∧ vb < w0.heap.size ∧ ∀ i, i < zs.length → w.cell? ⟨vb, vo + i, none⟩ = some (.int .i64 (zs.getD i 0)) := by
  obtain ⟨a, cp, hv, -, -, hc⟩ := h.ws
  obtain ⟨b, off, ha, hcc⟩ := hc (by have := h.n7.1; omega)
  cases hv
  refine ⟨b, off, ha, ?_, fun i hi => cell_later h.bel (hcc i hi)⟩
  have := hcc 0 (by have := h.n7.1; omega)
  exact cell_lt this
theorem ROut.mono (h : ROut w0 w w' C Y aw cap zs V m) (hm : m ≤ m') : ROut w0 w w' C Y aw cap zs V m' := by
  obtain ⟨C', Y', x1, x2, x3, x4⟩ := h
  exact ⟨C', Y', x1.mono hm, x2, x3, x4⟩
set_option maxRecDepth 100000 in
theorem rsend_kept (v : Value) (L : List F9) (h : RW w0 w C Y aw cap zs V m) (hv : IsFr w v L) (hL : ∀ f, f ∈ L → FI zs.length f) (hl : L.length ≤ 1000) (hm : m ≤ 100000000) :
    Calls Tryz.prog 94 #[.pointer (some ⟨Y.xb, 0, none⟩), v] w fun e w' => e = .returned (.tuple #[]) ∧ ROut w0 w w' C Y aw cap zs (sendX V L) (m + 1) ∧ Kept (fun x => C x = 1001 ∨ C x = 1005) w w' := by
  obtain ⟨-, -, -, c3, -⟩ := h.cells
  have z3 := h.fz 3
  have H := hid h
  have HV := hid hv
  have HL := hid hL
  have hfl : V.fly.length + L.length ≤ 1000000000000 := by have := h.inv.fl; omega
  have HO := hid h.fly
  have hbs := h.bel.size
  have HX : Hid (∀ w', w.grownBy w' Y.fv.ownBlock → w'.cell? ⟨Y.xb, 3, none⟩ = some Y.fv ∧ w'.frozen? ⟨Y.xb, 3, none⟩ = false) := by
    intro w' hg
    have hr := (grown_kept hg).row h.row (fun e => by have h1 := h.cf _ e; have h2 := h.cx; omega)
    exact ⟨by rw [cell_of_row _ _ _ _ _ _ hr]; rfl, frozen_of_row _ _ _ _ _ hr⟩
  generalize hfv : Y.fv = fv at c3 HO
  have HFV := hid hfv
  clear h hv hL hfv
  go_enter Tryz.func94, Tryz.ntmps94
  go_wp2_with (at_builtin; refine wpList_append_frs rfl _ _ rfl w0.heap.size V.fly.length _ v (frCells V.fly) L rfl rfl HO.out HV.out hfl hbs ?_; intro ad' cap' w' hown hg ho; obtain ⟨c3', z3'⟩ := HX.out w' (by rw [HFV.out]; exact hg); have HS := hid (And.intro hown (And.intro hg ho)); clear hown hg ho)
  go_end0
  rw [← HFV.out] at HS
  refine ⟨rfl, ?_, ?_⟩
  · refine H.out.framed (F := V.fly ++ L) (grown_kept HS.out.2.1) (fun x hx => hx) (by rw [List.length_append, frCells_append]; exact HS.out.1) ?_ (Nat.le_succ _) (H.out.inv.send HL.out hl)
    rcases HS.out.2.2 with o | o
    · exact .inr (.inl o)
    · exact .inr (.inr ⟨_, o, Nat.le_refl _⟩)
  · exact ((grown_kept HS.out.2.1).mono (fun x hx => .inr (H.out.cf x hx))).setCell (.inl H.out.cx) _
theorem leadX_at {V : PX} {d : Nat} {x : Int × PL} {F : F9} (h : (V.nd i).ld d = some x) : leadX zs V i d F = setNd V i (setLd (V.nd i) d (x.1, (phear zs i d x.1 x.2 F).1)) ∧ leadO zs V i d F = outL i d x.1 zs.length (phear zs i d x.1 x.2 F).2 := by
  unfold leadX leadO
  rw [h]
  exact ⟨rfl, rfl⟩
theorem leadX_no {V : PX} {d : Nat} {F : F9} (h : (V.nd i).ld d = none) : leadX zs V i d F = V ∧ leadO zs V i d F = [] := by
  unfold leadX leadO
  rw [h]
  exact ⟨rfl, rfl⟩
theorem phear_lt {id : Nat} {deal att : Int} {P : PL} {L : LSt} {f : F9} (h : Rel zs.length att P L) (h0 : 0 ≤ att) (hn : zs.length ≤ 7) (hp : f.k ≠ 2 → 0 ≤ f.pr) : (phear zs id deal att P f).1.stt < 4 ∧ PW zs.length (phear zs id deal att P f).1 := by
  have := (h.step (id := id) (deal := deal) h0 hn hp).2
  exact ⟨this.st4, this.pw⟩
theorem NI.hears {d : Nat} {x : Int × PL} {F : F9} {L : LSt} (h : NI zs.length N m) (hl : N.ld d = some x) (hr : Rel zs.length x.1 x.2 L) (hn : zs.length ≤ 7) (hF : FI zs.length F) : NI zs.length (setLd N d (x.1, (phear zs i d x.1 x.2 F).1)) m := by
  obtain ⟨-, h1, h2, h3, h4⟩ := h.ld d x hl
  have hpr : 0 ≤ F.pr ∧ F.pr ≤ 1048576 := by have := hF.ok.2.2.2.2.2.2.1; omega
  obtain ⟨p1, p2⟩ := phear_lt (id := i) (deal := d) (f := F) hr h1.1 hn (fun _ => hpr.1)
  exact h.leadHear hl p1 (phear_seen h3.1 h3.2 hpr.1 hpr.2) p2
set_option maxHeartbeats 2000000 in
set_option maxRecDepth 100000 in
theorem rdeliver_no (s : Int) (h : RW w0 w C Y aw cap zs V m) (hs : ¬ (0 ≤ s ∧ s < V.fly.length)) (hm : m ≤ 100000000) :
    Calls Tryz.prog 60 #[.pointer (some ⟨Y.xb, 0, none⟩), .int .i64 s] w fun e w' => e = .returned (.int .i64 4) ∧ Below w.heap.size w w' := by
  have H := hid h
  have HM := hid hm
  have HS := hid hs
  clear h hm hs
  go_enter Tryz.func60, Tryz.ntmps60
  go_wp2_with fail
  refine (rtake_no s H.out HS.out HM.out).mono ?_
  rintro e w1 ⟨rfl, h1⟩
  have H1 := hid (h1.trans ((alloc9 w1 0 0 0 0 0 false 0 0 0).mono h1.size))
  clear h1
  go_wp2_with fail
  go_ret
  exact ⟨rfl, H1.out⟩
end
end Go.Proofs.YtbaamegnmeohoacGreatDoor
