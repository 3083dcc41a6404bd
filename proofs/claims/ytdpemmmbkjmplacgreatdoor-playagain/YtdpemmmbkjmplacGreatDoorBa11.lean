/-
  slices.Insert of one frame: where there is no room.
  WALKS of package world: Twice.
  PLAIN: every step of a world keeps what stands: a delivery, a tick, a begin, and all the others.
  WALKS of package world: Link.
  THE LAWS' act: one step of a world, whatever it is called; each step keeps what stands.
  WALKS of package play: one number of a script.
-/
import Derived.Test.YtdpemmmbkjmplacGreatDoorBa10
import Derived.Test.YtdpemmmbkjmplacGreatDoorBa9
import Derived.Test.YtdpemmmbkjmplacGreatDoorBa7
import Derived.Test.YtdpemmmbkjmplacGreatDoorBa8
import Derived.Lib.AppendZerosOnto
import Derived.Deep.RegionHeldLaw
namespace Go.Proofs.YtdpemmmbkjmplacGreatDoor
open Go.RowKit

theorem zeroC_size (k : Nat) : (Builtin.zeroCells (frV 0 0 0 0 0 false 0 0 0).cells k).size = k * 9 := by rw [size_zeroCells]; rfl
set_option maxHeartbeats 4000000 in
set_option maxRecDepth 100000 in
theorem ins_grow (base b o n c i vb : Nat) (cur : Array Value) (L : List F9) (F : F9) (w : World) (hb : w.heap[b]? = some (.cells cur 118 (0, 0))) (hbase : base ≤ w.heap.size) (hL : L.length = n) (hnc : n ≤ c) (hroom : c < n + 1) (hbig : n ≤ 1000000000000) (htk : ∀ j, j < n * 9 → cur[o + j]? = (frCells L)[j]?) (hi : i < n) (hvb : w.heap[vb]? = some (.cells (f9L F).toArray 118 (0, 0))) :
    Calls Tryz.prog 104 #[.slice (some ⟨b, o, none⟩) n c, .int .i64 (i : Int), .slice (some ⟨vb, 0, none⟩) 1 1] w fun e w' => ∃ G, e = .returned (.slice (some ⟨w.heap.size, 0, none⟩) (n + 1) G) ∧ w'.ownsRow base 118 9 (.slice (some ⟨w.heap.size, 0, none⟩) (n + 1) G) (n + 1) (frCells (insL L i F)) ∧ Below w.heap.size w w' := by
  obtain ⟨i0, hi0, hz0, hz1, hz2⟩ := info_parts Tryz.infoFq
  have hbw := row_ltJ hb
  have hvw := row_ltJ hvb
  have hcell : ∀ x, x < n * 9 → w.cell? ⟨b, o + x, none⟩ = (frCells L)[x]? := fun x hx => by
    rw [cell_of_row _ _ _ _ _ _ hb, htk x hx]
  have hLl := frCells_length L
  have hdl : (frCells (L.drop i)).length = (n - i) * 9 := by rw [frCells_length, List.length_drop, hL]
  have htl : (frCells (L.take i)).length = i * 9 := by rw [frCells_length, List.length_take, hL, Nat.min_eq_left (by omega)]
  have hkk : (n : Int) + 1 - (i : Int) = ((n + 1 - i : Nat) : Int) := by omega
  have hik : i + (n + 1 - i) = n + 1 := by omega
  have hold : (Builtin.firstCells i0.size i (.slice (some ⟨b, o, none⟩) i c)).run Tryz.prog w.drew = .ok (frCells (L.take i)).toArray w.drew := by
    rw [hz1]
    exact run_firstCells_some w.drew 9 i ⟨b, o, none⟩ i c (frCells (L.take i)) htl (fun j v hj => by
      have hjl := (List.getElem?_eq_some_iff.1 hj).1
      rw [htl] at hjl
      rw [addr_add]
      show w.cell? ⟨b, o + j, none⟩ = some v
      rw [hcell _ (by omega), ← hj, frCells_take, List.getElem?_take_of_lt hjl])
  have hrz : ∀ ty, (Builtin.append_ #[49, 3] ty #[.slice (some ⟨b, o, none⟩) i c, .int .i64 ((n : Int) + 1 - (i : Int))]).run Tryz.prog w =
      .ok (.slice (some ⟨w.heap.size, 0, none⟩) (n + 1) (grownCap w (n + 1) c 118)) (w.drew.alloc (.cells ((frCells (L.take i)).toArray ++ Builtin.zeroCells (frV 0 0 0 0 0 false 0 0 0).cells (n + 1 - i) ++ Builtin.zeroCells (frV 0 0 0 0 0 false 0 0 0).cells (grownCap w (n + 1) c 118 - (n + 1))) 118)) := fun ty => by
    have h := Lib.run_append_grow_zeros w 49 3 ty 118 i0 _ .i64 .i64 Tryz.underlying49 Tryz.underlying3 hi0 hz0 (some ⟨b, o, none⟩) i c (frCells (L.take i)) hold (n + 1 - i) (by omega) (by rw [hz1]; omega) (by omega) (by omega) (by rw [hz2]; omega) (by rw [hz2, hik]; exact growslice_fits hroom (by omega))
    rw [hik] at h
    rw [hkk]
    exact h
  obtain ⟨G, hG⟩ : ∃ G, G = grownCap w (n + 1) c 118 := ⟨_, rfl⟩
  obtain ⟨ROW, hROW⟩ : ∃ ROW : Array Value, ROW = (frCells (L.take i)).toArray ++ Builtin.zeroCells (frV 0 0 0 0 0 false 0 0 0).cells (n + 1 - i) ++ Builtin.zeroCells (frV 0 0 0 0 0 false 0 0 0).cells (G - (n + 1)) := ⟨_, rfl⟩
  rw [← hG] at hrz
  rw [← hROW] at hrz
  have hGn : n + 1 ≤ G := by rw [hG]; exact grownCap_ge w _ _ _
  have hGm : G ≤ maxLen := by rw [hG]; exact grownCap_le_maxLen w (n + 1) c 118 (by unfold maxLen; omega)
  have hRl : ROW.size = G * 9 := by
    rw [hROW, Array.size_append, Array.size_append, zeroC_size, zeroC_size, List.size_toArray, htl]; omega
  have hRt : ROW.toList.take (i * 9) = frCells (L.take i) := by
    rw [hROW, Array.toList_append, Array.toList_append, List.append_assoc, List.toList_toArray, ← htl]
    exact List.take_left
  obtain ⟨W1, hW1⟩ : ∃ W1, W1 = w.drew.alloc (.cells ROW 118) := ⟨_, rfl⟩
  rw [← hW1] at hrz
  have hr1 : W1.heap[w.heap.size]? = some (.cells ROW 118 (0, 0)) := by rw [hW1]; exact heap_alloc_new w.drew _
  have hv1 : W1.heap[vb]? = some (.cells (f9L F).toArray 118 (0, 0)) := by rw [hW1]; exact (Below.heap_alloc w.drew _ _ hvw).trans hvb
  have hb1' : W1.heap[b]? = some (.cells cur 118 (0, 0)) := by rw [hW1]; exact (Below.heap_alloc w.drew _ _ hbw).trans hb
  have hB1 : Below w.heap.size w W1 := by rw [hW1]; exact (Below.refl _ _).drew.alloc (Nat.le_refl _) _
  have hr2 := row_setCells (f9L F) (i * 9) W1 ROW hr1 (by rw [hRl, f9L_length]; omega)
  have hk2 := kept_setCells w.heap.size (f9L F) (i * 9) W1
  obtain ⟨W2, hW2⟩ : ∃ W2, W2 = W1.setCells w.heap.size (i * 9) (f9L F) := ⟨_, rfl⟩
  rw [← hW2] at hr2 hk2
  have hs2 : (ROW.toList.take (i * 9) ++ f9L F ++ ROW.toList.drop (i * 9 + (f9L F).length)).length = G * 9 := by
    rw [List.length_append, List.length_append, List.length_take, List.length_drop, f9L_length, Array.length_toList, hRl]; omega
  have hb2' : W2.heap[b]? = some (.cells cur 118 (0, 0)) := hk2.row hb1' (fun e => by have : b = w.heap.size := e; omega)
  have hcpA : ∀ ty dc, (Builtin.copy_ #[49, 49] ty #[.slice (some ⟨w.heap.size, i * 9, none⟩) (n + 1 - i) dc, .slice (some ⟨vb, 0, none⟩) 1 1]).run Tryz.prog W1 = .ok (goInt 1) W2 := fun ty dc => by
    rw [hW2]
    exact run_copy_frs W1 49 ty w.heap.size (i * 9) (n + 1 - i) dc ⟨vb, 0, none⟩ 1 1 1 (f9L F) (by simp only [Nat.min_def]; split <;> omega) rfl
      (fun j v hj => by rw [addr_add, cell_of_row _ _ _ _ _ _ hv1, List.getElem?_toArray, Nat.zero_add]; exact hj)
      (fun j hj => by rw [f9L_length] at hj; rw [cell_of_row _ _ _ _ _ _ hr1, Array.getElem?_eq_getElem (by rw [hRl]; omega)]; rfl) (fun j _ => frozen_of_row _ _ _ _ _ hr1) (f9_oneQ F)
  have hcpB : ∀ ty dc sc, (Builtin.copy_ #[49, 49] ty #[.slice (some ⟨w.heap.size, (i + 1) * 9, none⟩) (n - i) dc, .slice (some ⟨b, o + i * 9, none⟩) (n - i) sc]).run Tryz.prog W2.drew = .ok (goInt ((n - i : Nat) : Int)) (W2.drew.setCells w.heap.size ((i + 1) * 9) (frCells (L.drop i))) := fun ty dc sc =>
    run_copy_frs W2.drew 49 ty w.heap.size ((i + 1) * 9) (n - i) dc ⟨b, o + i * 9, none⟩ (n - i) sc (n - i) (frCells (L.drop i)) (by simp only [Nat.min_def]; split <;> omega) hdl
      (fun j v hj => by
        have hjl := (List.getElem?_eq_some_iff.1 hj).1
        rw [hdl] at hjl
        rw [addr_add]
        show W2.cell? ⟨b, o + i * 9 + j, none⟩ = some v
        rw [cell_of_row _ _ _ _ _ _ hb2', ← hj, frCells_drop, List.getElem?_drop, ← htk _ (by omega), Nat.add_assoc])
      (fun j hj => by
        rw [hdl] at hj
        show (W2.cell? _).isSome = true
        rw [cell_of_row _ _ _ _ _ _ hr2, List.getElem?_toArray, List.getElem?_eq_getElem (by rw [hs2]; omega)]; rfl) (fun j _ => frozen_of_row W2 _ _ _ _ hr2) (frCells_one _)
  have hr3 := row_setCells (frCells (L.drop i)) ((i + 1) * 9) W2.drew _ (show W2.drew.heap[w.heap.size]? = _ from hr2) (by rw [List.size_toArray, hs2, hdl]; omega)
  have HK3 : Hid (Below w.heap.size w (W2.drew.setCells w.heap.size ((i + 1) * 9) (frCells (L.drop i)))) := by
    have h1 : Kept (In1 w.heap.size) W1 (W2.drew.setCells w.heap.size ((i + 1) * 9) (frCells (L.drop i))) := (hk2.trans (Kept.refl _ W2).drew).trans (kept_setCells w.heap.size _ _ _)
    exact h1.below hB1.size (fun x hx => by rw [show x = w.heap.size from hx]; exact Nat.le_refl _) hB1
  have HF : Hid ((W2.drew.setCells w.heap.size ((i + 1) * 9) (frCells (L.drop i))).ownsRow base 118 9 (.slice (some ⟨w.heap.size, 0, none⟩) (n + 1) G) (n + 1) (frCells (insL L i F))) := by
    have hil : (insL L i F).length = n + 1 := by unfold insL; rw [List.length_append, List.length_take, List.length_cons, List.length_drop, hL]; omega
    refine ⟨by rw [frCells_length, hil], .inr ⟨w.heap.size, G, _, rfl, hbase, hr3, hGn, hGm, ?_, ?_⟩⟩
    · rw [List.size_toArray, List.length_append, List.length_append, List.length_take, List.length_drop, List.toList_toArray, hs2, hdl]; omega
    · rw [List.toList_toArray, List.toList_toArray, insL_cells, hRt, ← frCells_take, ← frCells_drop]
      have hA : (frCells (L.take i) ++ f9L F ++ ROW.toList.drop (i * 9 + (f9L F).length)).take ((i + 1) * 9) = frCells (L.take i) ++ f9L F := by
        rw [show (i + 1) * 9 = (frCells (L.take i) ++ f9L F).length by rw [List.length_append, htl, f9L_length]; omega]
        exact List.take_left
      rw [hA]
      have hlen : (frCells (L.take i) ++ f9L F ++ frCells (L.drop i)).length = (n + 1) * 9 := by
        rw [List.length_append, List.length_append, htl, f9L_length, hdl]; omega
      rw [← hlen]
      exact List.take_left
  have hz3 : (c : Int) < (n : Int) + 1 := by omega
  have hGi : ¬ (G = i) := by omega
  have hGim : ¬ (G = i + 1) := by omega
  have hci : ¬ (c = i) := by omega
  have hw1 : IntKind.i64.wrap ((i : Int) + 1) = (i : Int) + 1 := by rw [IntKind.wrap_i64]; omega
  have hb1 : (0 : Int) ≤ (i : Int) + 1 := by omega
  have htn : ((i : Int) + 1).toNat = i + 1 := by omega
  have hb5 : (i : Int) ≤ (n : Int) := by omega
  have hb6 : (i : Int) ≤ (n : Int) + 1 := by omega
  have hG63 : G ≤ 9223372036854775807 := by unfold maxLen at hGm; omega
  have HW1 := hid hW1
  have hW2' := hW2.symm
  clear hcell hold hkk hik hROW hG hRl hRt hr1 hv1 hb1' hr2 hk2 hs2 hb2' hr3 hb hvb htk hLl hdl htl hB1 hW1 hW2 hGm
  go_enter Tryz.func104, Tryz.ntmps104
  go_wp2_with (first
    | (at_builtin; refine Lib.wpList_append_run _ rfl _ _ _ _ rfl _ _ rfl rfl _ _ (hrz _) ?_)
    | (at_builtin; refine wpList_copy_runF _ rfl _ _ 49 49 rfl _ _ rfl rfl (hcpA _ _) ?_))
  go_region_law (refine step_copy_runF rfl _ _ 49 49 rfl _ _ (by simp [Act.eval, Act.put]) (by simp [Act.eval, Act.put]) (hcpB _ _ _) ?_)
  go_wp2
  go_ret
  exact ⟨G, rfl, HF.out, HK3.out⟩
end Go.Proofs.YtdpemmmbkjmplacGreatDoor
namespace Go.Proofs.YtdpemmmbkjmplacGreatDoor
open Go.RowKit

/-- Insert, wherever the row may lie behind it. -/
theorem ins_any (base b o n c i vb : Nat) (cur : Array Value) (L : List F9) (F : F9) (w : World) (hb : w.heap[b]? = some (.cells cur 118 (0, 0))) (hbase : base ≤ b) (hL : L.length = n) (hnc : n ≤ c) (hcm : c ≤ maxLen) (hsz : o + c * 9 ≤ cur.size) (htk : ∀ j, j < n * 9 → cur[o + j]? = (frCells L)[j]?) (hbig : n ≤ 1000000000000) (hi : i < n) (hvb : w.heap[vb]? = some (.cells (f9L F).toArray 118 (0, 0))) (hne : vb ≠ b) :
    Calls Tryz.prog 104 #[.slice (some ⟨b, o, none⟩) n c, .int .i64 (i : Int), .slice (some ⟨vb, 0, none⟩) 1 1] w fun e w' => ∃ g o' G, e = .returned (.slice (some ⟨g, o', none⟩) (n + 1) G) ∧ OwnF w' base (.slice (some ⟨g, o', none⟩) (n + 1) G) (insL L i F) ∧ Kept (In1 b) w w' ∧ (g = b ∨ g = w.heap.size) := by
  by_cases hr : n + 1 ≤ c
  · refine (ins_room base b o n c i vb cur L F w hb hbase hL hr hcm hsz htk hi hvb hne).mono ?_
    rintro e w' ⟨h1, h2, h3⟩
    exact ⟨b, o, c, h1, h2, h3, .inl rfl⟩
  · refine (ins_grow base b o n c i vb cur L F w hb (by have := row_ltJ hb; omega) hL hnc (by omega) hbig htk hi hvb).mono ?_
    rintro e w' ⟨G, h1, h2, h3⟩
    refine ⟨_, 0, G, h1, OwnF.of_own ?_, Kept.of_below h3, .inr rfl⟩
    rw [insL_length L i F (by omega), hL]
    exact h2
section
variable {w0 w w' : World} {C C' : Nat → Nat} {K : NB} {X : XB} {i m m' : Nat} {zs : List Int} {N : PN} {V V' : PX} {A : Nat → Addr}
set_option maxRecDepth 100000 in
theorem twice_no (s : Int) (h : WD w0 w C X zs V m) (hE : Held9 w0 A) (hs : ¬ (0 ≤ s ∧ s < V.fly.length)) :
    Calls Tryz.prog 47 #[.pointer (some ⟨X.xb, 0, none⟩), .int .i64 s] w fun e w' => e = .returned (ev A 4) ∧ w' = w := by
  have H := hid h
  have HB := hid (decide_eq_false hs)
  have g3' : w.cell? ⟨3, 0, none⟩ = some (.iface 266 (.pointer (some (A 3)))) := (h.held hE).var 3 (by decide)
  clear h hE hs
  go_enter Tryz.func47, Tryz.ntmps47
  go_wp2_with fail
  refine (flies_is s false H.out HB.out).mono ?_
  rintro e w1 ⟨rfl, hx⟩
  subst w1
  go_wp2_with fail
  go_ret
  exact ⟨rfl, rfl⟩
theorem XI.twice {k : Nat} {f : F9} (h : XI zs V m) (hf : f ∈ V.fly) : XI zs (twiceX V k f) (m + 1) := by
  refine ⟨h.he, fun i hi => (h.nd i hi).mono (Nat.le_succ _), fun x hx => ?_, ?_, h.ev⟩
  · rcases List.mem_append.1 hx with g | g
    · exact h.fr x (List.mem_of_mem_take g)
    · rcases List.mem_cons.1 g with g | g
      · rw [g]; exact h.fr f hf
      · exact h.fr x (List.mem_of_mem_drop g)
  · have := h.fl
    show (V.fly.take k ++ f :: V.fly.drop k).length ≤ _
    rw [List.length_append, List.length_take, List.length_cons, List.length_drop]; omega
/-- The frame was inserted and the slice stored. -/
theorem WD.twiced {k g o c g' o' G : Nat} {f : F9} {W : World} (h : WD w0 w C X zs V m) (hv : X.fv = .slice (some ⟨g, o, none⟩) V.fly.length c) (hk : k < V.fly.length) (hf : f ∈ V.fly) (hb : Below w.heap.size w W) (hown : OwnF w' w0.heap.size (.slice (some ⟨g', o', none⟩) (V.fly.length + 1) G) (insL V.fly k f)) (hkk : Kept (In1 g) W w') (hg : g' = g ∨ g' = W.heap.size) :
    WOut w0 w (w'.setCell ⟨X.xb, 3, none⟩ (.slice (some ⟨g', o', none⟩) (V.fly.length + 1) G)) C X zs (twiceX V k f) (m + 1) := by
  have hW := h.later hb
  have cg : C g = 1005 := h.cf g (by rw [hv]; rfl)
  have hcx := h.cx
  have hgx : g ≠ X.xb := fun e => by rw [e] at cg; omega
  have hrow : w'.heap[X.xb]? = some (.cells (wdC X zs.length).toArray 65 (0, 0)) := hkk.row hW.row (fun e => hgx (show X.xb = g from e).symm)
  have hxl := row_ltJ hW.row
  have hS : ∀ x, (x = X.xb ∨ x = g) → C x = 1001 ∨ C x = 1005 ∨ C x = 1006 := fun x hx => by
    rcases hx with rfl | rfl
    · exact .inl h.cx
    · exact .inr (.inl cg)
  have hK2 : Kept (fun x => x = X.xb ∨ x = g) W (w'.setCell ⟨X.xb, 3, none⟩ (.slice (some ⟨g', o', none⟩) (V.fly.length + 1) G)) := (hkk.mono (fun x hx => .inr hx)).setCell (.inl rfl) _
  have hg'lt : g' < w'.heap.size := (hown.lt _ rfl).2
  have hg'x : g' ≠ X.xb := fun e => by rcases hg with q | q <;> omega
  obtain ⟨C1, hC1, hl1, hcg1⟩ : ∃ C1 : Nat → Nat, (∀ x, x < W.heap.size → C1 x = C x) ∧ (∀ x, W.heap.size ≤ x → C1 x < 2000 → x < (w'.setCell ⟨X.xb, 3, none⟩ (.slice (some ⟨g', o', none⟩) (V.fly.length + 1) G)).heap.size) ∧ C1 g' = 1005 := by
    rcases hg with q | q
    · exact ⟨C, fun _ _ => rfl, fun x hx hc => by have := hW.lt x hc; omega, by rw [q]; exact cg⟩
    · refine ⟨paint C g' 1005, fun x hx => paint_ne (by omega), fun x hx hc => ?_, paint_at _ _ _⟩
      by_cases e : x = g'
      · rw [e]; simpa using hg'lt
      · rw [paint_ne e] at hc
        have := hW.lt x hc; omega
  have hl : (V.fly.take k ++ f :: V.fly.drop k).length = V.fly.length + 1 := by rw [List.length_append, List.length_take, List.length_cons, List.length_drop]; omega
  refine WOut.step (C1 := C) (X1 := X) rfl (Kept.of_below hb) (fun _ _ => rfl) ?_
  refine ⟨C1, { X with fv := .slice (some ⟨g', o', none⟩) (V.fly.length + 1) G }, ?_, rfl, hK2.mono (fun x hx => by show C x < 2000; rcases hS x hx with q | q | q <;> omega), hC1⟩
  refine hW.own (ev := X.ev) (E := V.evs) (F := V.fly.take k ++ f :: V.fly.drop k) hK2 hS hC1 hl1 ?_ ?_ ?_ ?_ ?_ (Nat.le_succ _) (h.inv.twice hf)
  · rw [heap_setCell_same w' X.xb 3 _ _ _ hrow]; rfl
  · exact hown.kept ((Kept.refl (In1 X.xb) w').set1 3 _) (fun y hy e => by
      have : g' = y := Option.some.inj hy
      rw [← this] at e
      exact hg'x e)
  · exact own_kept hW.evs hK2 (fun y hy e => by
      have h6 := h.ce y hy
      rcases e with rfl | rfl
      · omega
      · omega)
  · intro y hy
    have : g' = y := Option.some.inj hy
    rw [← this]; exact hcg1
  · intro y hy
    rw [hC1 y (own_lt hW.evs hy)]
    exact h.ce y hy
set_option maxHeartbeats 2000000 in
set_option maxRecDepth 100000 in
theorem twice_ok (j : Nat) (F : F9) (h : WD w0 w C X zs V m) (hj : j < V.fly.length) (hF : V.fly[j]'hj = F) (hm : m < 1000000) :
    Calls Tryz.prog 47 #[.pointer (some ⟨X.xb, 0, none⟩), .int .i64 (j : Int)] w fun e w' => e = .returned .nilIface ∧ WOut w0 w w' C X zs (twiceX V j F) (m + 1) := by
  obtain ⟨g, o, cap, cur, hv, h2, h3, h4, h5, h6, h7⟩ := h.flyForm (by omega)
  have hcl := fly_cells h3 h7 hj
  rw [hF] at hcl
  obtain ⟨b0, b1, b2, b3, b4, b5, b6, b7, b8⟩ := nineO (o := o + j * 9) hcl
  obtain ⟨-, -, -, c3, -⟩ := h.cells
  have cg : C g = 1005 := h.cf g (by rw [hv]; rfl)
  have HMem : Hid (F ∈ V.fly) := by rw [← hF]; exact List.getElem_mem _
  have H := hid h
  have HB : Hid (decide (0 ≤ (j : Int) ∧ (j : Int) < V.fly.length) = true) := decide_eq_true (by omega)
  have hbig : V.fly.length ≤ 1000000000000 := by have := h.inv.fl; omega
  obtain ⟨n, hn⟩ : ∃ n, Hid (V.fly.length = n) := ⟨_, rfl⟩
  have HV := hid hv
  rw [hv] at c3
  obtain ⟨W, HW⟩ : ∃ W, Hid (w.drew.alloc (.cells (f9L F).toArray 118) = W) := ⟨_, rfl⟩
  have HBW : Hid (Below w.heap.size w W) := by rw [← HW.out]; exact (Below.refl _ _).drew.alloc (Nat.le_refl _) _
  have HRW : Hid (W.heap[w.heap.size]? = some (.cells (f9L F).toArray 118 (0, 0))) := by rw [← HW.out]; exact heap_alloc_new w.drew _
  have hW := HW.out
  have c3W := cell_later HBW.out c3
  have HIns := hid (ins_any w0.heap.size g o n cap j w.heap.size cur V.fly F W ((HBW.out.block _ (row_ltJ h3)).trans h3) h2 hn.out (by rw [← hn.out]; exact h4) h5 h6 (by rw [← hn.out]; exact h7) (by rw [← hn.out]; exact hbig) (by rw [← hn.out]; exact hj) HRW.out (by have := row_ltJ h3; omega))
  have HJ := hid hj
  rw [hn.out] at c3 c3W hbig hj
  have HX : Hid (∀ w', Kept (In1 g) W w' → w'.cell? ⟨X.xb, 3, none⟩ = some (.slice (some ⟨g, o, none⟩) n cap) ∧ w'.frozen? ⟨X.xb, 3, none⟩ = false) := by
    intro w' hkk
    have hr := hkk.row (H.out.later HBW.out).row (fun e => by have h1 := H.out.cx; rw [show X.xb = g from e, cg] at h1; omega)
    exact ⟨by rw [cell_of_row _ _ _ _ _ _ hr, ← hn.out, ← HV.out]; rfl, frozen_of_row _ _ _ _ _ hr⟩
  obtain ⟨ff, ft, fd, fk, fa, fy, fp1, fp2, fp3⟩ := F
  simp only at b0 b1 b2 b3 b4 b5 b6 b7 b8
  have e0 := cell_later HBW.out b0
  have hW' : w.drew.alloc (.cells #[.int .i64 ff, .int .i64 ft, .int .i64 fd, .int .i64 fk, .int .i64 fa, .bool fy, .int .i64 fp1, .int .i64 fp2, .int .i64 fp3] 118) = W := hW
  have HXB : Hid (X.xb < W.heap.size) := by have := row_ltJ (H.out.later HBW.out).row; exact this
  clear h hv h2 h3 h4 h5 h6 h7 cg hcl hF hW
  go_enter Tryz.func47, Tryz.ntmps47
  go_wp2_with fail
  refine (flies_is (j : Int) true H.out HB.out).mono ?_
  rintro e w1 ⟨rfl, hx⟩
  subst w1
  go_wp2_with fail
  go_region_with ((go_at_call 104; (with_reducible refine HIns.out.mono ?_); rintro e w2 ⟨g', o', G, rfl, ho2, hk2, hg2⟩; obtain ⟨q3, qz⟩ := HX.out w2 hk2; have HO := hid (And.intro ho2 (And.intro hk2 hg2)); clear ho2 hk2 hg2))
  all_goals go_wp2_with fail
  all_goals go_ret
  all_goals refine ⟨rfl, ?_⟩
  all_goals rw [← hn.out] at HO ⊢
  all_goals exact H.out.twiced HV.out HJ.out HMem.out HBW.out HO.out.1 HO.out.2.1 HO.out.2.2
end
end Go.Proofs.YtdpemmmbkjmplacGreatDoor
namespace Go.Proofs.YtdpemmmbkjmplacGreatDoor
open Go.RowKit

section
variable {zs : List Int} {V V' : PX} {m : Nat} {g g' : Gh}
theorem XI.hear {i : Nat} {f : F9} (hX : XI zs V m) (hu : (V.nd i).l ≠ -2) (hF : FI zs.length f) (hm : m < 4000000000) (hi : i < zs.length) : XI zs (hearX V i f) (m + 1) := by
  have hh := hearN_hf (hX.nd i hi) hu hF hm
  refine ⟨hX.he, fun k hk => ?_, hX.fr, by have h1 : V.fly.length ≤ 1000 * m := hX.fl; show V.fly.length ≤ 1000 * (m + 1); omega, ?_⟩
  · show NI zs.length ((setNd V i (hearN (V.nd i) f)).nd k) (m + 1)
    by_cases e : k = i
    · subst e; rw [nd_at]; exact hh.ni
    · rw [nd_ne _ _ _ e]; exact (hX.nd k hk).mono (Nat.le_succ _)
  · show (noteE V.evs i f.d.toNat (stN (V.nd i) f.d.toNat).ph (stN (hearN (V.nd i) f) f.d.toNat).ph).length ≤ 500
    have := hX.ev
    unfold noteE
    split
    · rename_i hc
      rw [List.length_append, List.length_singleton]
      have := hc.2.2
      omega
    · exact this
theorem leadX_some {i d : Nat} {f : F9} {x : Int × PL} (hx : (V.nd i).ld d = some x) : leadX zs V i d f = setNd V i (setLd (V.nd i) d (x.1, (phear zs i d x.1 x.2 f).1)) ∧ leadO zs V i d f = outL i d x.1 zs.length (phear zs i d x.1 x.2 f).2 := by
  unfold leadX leadO
  rw [hx]
  exact ⟨rfl, rfl⟩
theorem leadX_none {i d : Nat} {f : F9} (hx : (V.nd i).ld d = none) : leadX zs V i d f = V ∧ leadO zs V i d f = [] := by
  unfold leadX leadO
  rw [hx]
  exact ⟨rfl, rfl⟩
theorem XI.lead {i d : Nat} {f : F9} (hX : XI zs V m) (hF : FI zs.length f) (hi : i < zs.length) (hd : d < 6) : XI zs (sendX (leadX zs V i d f) (leadO zs V i d f)) (m + 1) := by
  have n7 := (errW_zero hX.he).2.1
  cases hx : (V.nd i).ld d with
  | none =>
    rw [(leadX_none hx).1, (leadX_none hx).2, sendX_nil]
    exact hX.mono (Nat.le_succ _)
  | some x =>
    rw [(leadX_some hx).1, (leadX_some hx).2]
    obtain ⟨h1, h2, h3, h4, h5⟩ := (hX.nd i hi).ld d x hx
    have hp := hF.ok.2.2.2.2.2.2.1
    refine XI.send (hX.node ((hX.nd i hi).leadHear hx (phear_st h3) (phear_seen h4.1 h4.2 (by omega) (by omega)) (h5.hear n7)) (Nat.le_refl _)) (outL_fi hi n7 hd h2) ?_
    have := outL_le i d x.1 zs.length (phear zs i d x.1 x.2 f).2
    omega
/-- A lead hears a frame, and sends. -/
theorem AX.lead {i d : Nat} {f : F9} (h : AX zs V) (hX : XI zs V m) (hi : i < zs.length) (hfr : ∀ g, GX zs V d g → Fr zs (stD V d) g f) :
    AX zs (sendX (leadX zs V i d f) (leadO zs V i d f)) ∧ Mo zs V (sendX (leadX zs V i d f) (leadO zs V i d f)) := by
  cases hx : (V.nd i).ld d with
  | none =>
    rw [(leadX_none hx).1, (leadX_none hx).2, sendX_nil]
    exact ⟨h, Mo.same hX fun _ _ => rfl⟩
  | some x =>
    rw [(leadX_some hx).1, (leadX_some hx).2]
    have hst : ∀ k e, stN ((sendX (setNd V i (setLd (V.nd i) d (x.1, (phear zs i d x.1 x.2 f).1))) (outL i d x.1 zs.length (phear zs i d x.1 x.2 f).2)).nd k) e = stN (V.nd k) e := fun k e => setLd_st V i d _ k e
    refine ⟨⟨fun e he => ?_, h.ex.same hst rfl⟩, Mo.same hX hst⟩
    obtain ⟨g, hg⟩ := h.gx e he
    by_cases c : e = d
    · subst c
      obtain ⟨-, -, -, -, hpw⟩ := (hX.nd i hi).ld e x hx
      obtain ⟨g', k1, k2⟩ := lead_gx hg hX.he hx hpw hi hX.fr (hfr g hg)
      exact ⟨g', k1.send fun o ho _ => k2 o ho⟩
    · refine ⟨g, (hg.other c).send fun o ho hoe => ?_⟩
      exfalso
      cases hy : (phear zs i d x.1 x.2 f).2 with
      | none => rw [hy] at ho; cases ho
      | some y =>
        rw [hy] at ho
        have := (toL_mem ho).2.2.2.2.2
        omega
theorem AX.take (h : AX zs V) (k : Nat) : AX zs (takeX V k) := h.quiet (fun _ _ => rfl) (fun _ _ _ _ x => x) (fun _ hf => List.mem_of_mem_eraseIdx hf) rfl
theorem AX.deliver {k : Nat} {f : F9} (h : AX zs V) (hX : XI zs V m) (hm : m < 4000000000) (hf : f ∈ V.fly) : AX zs (deliverX zs V k f) ∧ Mo zs V (deliverX zs V k f) := by
  have hF := hX.fr f hf
  have h1 := h.take k
  have hX1 : XI zs (takeX V k) m := hX.take
  have hmo : Mo zs V (takeX V k) := Mo.same hX fun _ _ => rfl
  have ht : f.t.toNat < zs.length := by have := hF.t0; have := hF.t1; omega
  have hd6 : 0 ≤ f.d ∧ f.d ≤ 5 := hF.ok.2.2.1
  unfold deliverX
  split
  · rename_i hr
    have hu : ((takeX V k).nd f.t.toNat).l ≠ -2 := by
      show (V.nd f.t.toNat).l ≠ -2
      unfold reachB at hr
      rw [Bool.and_eq_true] at hr
      have := hr.1
      unfold upN at this
      simpa using this
    have hfr : ∀ d g, GX zs V d g → f.d = (d : Int) → Fr zs (stD (takeX V k) d) g f := fun d g hg hd => hg.fr f hf hd
    have hfr2 : ∀ d, d < 6 → ∃ g, GX zs (takeX V k) d g ∧ (f.d = (d : Int) → Fr zs (stD (takeX V k) d) g f) := fun d hd => by
      obtain ⟨g, hg⟩ := h.gx d hd
      exact ⟨g, hg.quiet (fun _ => rfl) (fun _ _ _ x => x) (fun _ x => List.mem_of_mem_eraseIdx x), fun e => hg.fr f hf e⟩
    unfold arriveX arriveO
    split
    · -- a lead hears it
      cases hx : ((takeX V k).nd f.t.toNat).ld f.d.toNat with
      | none =>
        rw [(leadX_none hx).1, (leadX_none hx).2, sendX_nil]
        exact ⟨h1, hmo⟩
      | some x =>
        rw [(leadX_some hx).1, (leadX_some hx).2]
        generalize hN : (takeX V k) = V1 at *
        have hst : ∀ j e, stN ((sendX (setNd V1 f.t.toNat (setLd (V1.nd f.t.toNat) f.d.toNat (x.1, (phear zs f.t.toNat f.d.toNat x.1 x.2 f).1))) (outL f.t.toNat f.d.toNat x.1 zs.length (phear zs f.t.toNat f.d.toNat x.1 x.2 f).2)).nd j) e = stN (V1.nd j) e := fun j e => setLd_st V1 f.t.toNat f.d.toNat _ j e
        refine ⟨⟨fun e he => ?_, h1.ex.same hst rfl⟩, hmo.trans (Mo.same hX1 hst)⟩
        obtain ⟨g, hg, hgf⟩ := hfr2 e he
        by_cases c : e = f.d.toNat
        · have ce : f.d = (e : Int) := by omega
          obtain ⟨-, -, -, -, hpw⟩ := (hX1.nd _ ht).ld _ x hx
          rw [← c] at hx ⊢
          obtain ⟨g', k1, k2⟩ := lead_gx hg hX.he hx hpw ht hX1.fr (hgf ce)
          exact ⟨g', k1.send fun o ho _ => k2 o ho⟩
        · refine ⟨g, (hg.other c).send fun o ho hoe => ?_⟩
          exfalso
          cases hy : (phear zs f.t.toNat f.d.toNat x.1 x.2 f).2 with
          | none => rw [hy] at ho; cases ho
          | some y =>
            rw [hy] at ho
            have := (toL_mem ho).2.2.2.2.2
            omega
    · -- the site hears it
      have he := hear_ex (f := f) h1.ex (hX1.nd _ ht) hu hF hm ht hX1
      refine ⟨⟨fun d hd => ?_, he.1.same (fun _ _ => rfl) rfl⟩, hmo.trans he.2⟩
      obtain ⟨g, hg, hgf⟩ := hfr2 d hd
      obtain ⟨g', k1, -, -, k4⟩ := hear_gx hg (hX1.nd _ ht) hu hF hm ht hX1.fr hgf
      exact ⟨g', k1.send k4⟩
  · exact ⟨h1, hmo⟩
theorem fr_plain {s : Nat → St} {f : F9} (hk : f.k = 1 ∨ f.k = 3) : Fr zs s g f :=
  ⟨fun e => by omega, fun e => by omega, fun e => by omega, fun e => by omega, fun e => by omega, fun e => by omega, fun e => by omega⟩
theorem AX.begin {s d : Nat} (h : AX zs V) (hX : XI zs V m) : AX zs (beginX zs V s d) ∧ Mo zs V (beginX zs V s d) := by
  have hst : ∀ k e, stN ((beginX zs V s d).nd k) e = stN (V.nd k) e := fun k e => setLd_st V s d _ k e
  refine ⟨⟨fun e he => ?_, h.ex.same hst rfl⟩, Mo.same hX hst⟩
  obtain ⟨g, hg⟩ := h.gx e he
  refine ⟨g, GX.send ?_ fun f hf _ => fr_plain (.inl (toL_mem hf).1)⟩
  by_cases c : e = d
  · subst c; exact hg.newLead (le_new0 _ _ _)
  · exact hg.other c
theorem attempt_mod {n s : Nat} (hn : 1 ≤ n ∧ n ≤ 7) (hs : s < n) {a : Int} (ha : 0 ≤ a) : (attemptX n s a).toNat % n = s := by
  have h7 : n = 1 ∨ n = 2 ∨ n = 3 ∨ n = 4 ∨ n = 5 ∨ n = 6 ∨ n = 7 := by omega
  unfold attemptX
  rcases h7 with rfl | rfl | rfl | rfl | rfl | rfl | rfl <;> omega
theorem XI.try {s d : Nat} (hX : XI zs V m) (hs : s < zs.length) (hd : d < 6) (hu : (V.nd s).l ≠ -2) (hm : m < 1000000) : XI zs (tryX zs V s d (attemptX zs.length s (aboveN (V.nd s) d))) (m + 7) := by
  have n7 := (errW_zero hX.he).2.1
  have hbd := aboveN_bd (hX.nd s hs) hd
  have hat := attemptX_bd zs.length s (aboveN (V.nd s) d) (by omega)
  generalize attemptX zs.length s (aboveN (V.nd s) d) = a at hat
  by_cases hf : 1048576 < a
  · unfold tryX
    rw [if_pos hf]
    exact hX.mono (by omega)
  · have hF := electF_fi (a := a) hs n7 hd (by omega)
    have hh := hX.hear hu hF (by omega) hs
    rcases elect_ans (hX.nd s hs) hu hF (by omega) with ⟨u, -⟩ | ⟨u, f0, e⟩
    · unfold tryX
      rw [if_neg hf, if_pos u]
      exact hh.mono (by omega)
    · have hf0 : FI zs.length f0 := ansN_fi (hX.nd s hs) hu hF (by omega) rfl f0 (by rw [e]; exact List.mem_singleton.2 rfl)
      rw [← try_eq s d a f0 e hf u]
      have hu2 : ((hearX V s (electF s d a)).nd s).l ≠ -2 := by
        rw [hearX_nd]
        unfold upN at u
        simpa using u
      have h2 := hh.node (i := s) ((hh.nd s hs).putLead (d := d) (a := a) (P := P0) hu2 (by omega) (by decide) (by decide) (P0_w _)) (Nat.le_refl _)
      have h3 := XI.send h2 (electL_fi (a := a) hs n7 hd (by omega)).1 (electL_fi (a := a) hs n7 hd (by omega)).2
      exact (h3.lead hf0 hs hd).mono (by omega)
theorem AX.try {s d : Nat} (h : AX zs V) (hX : XI zs V m) (hs : s < zs.length) (hd : d < 6) (hu : (V.nd s).l ≠ -2) (hm : m < 1000000) :
    AX zs (tryX zs V s d (attemptX zs.length s (aboveN (V.nd s) d))) ∧ Mo zs V (tryX zs V s d (attemptX zs.length s (aboveN (V.nd s) d))) := by
  have n7 := errW_zero hX.he
  have hbd := aboveN_bd (hX.nd s hs) hd
  have hat := attemptX_bd zs.length s (aboveN (V.nd s) d) (by omega)
  have hmod := attempt_mod (n := zs.length) ⟨by omega, n7.2.1⟩ hs hbd.1
  have hpr : ((stN (V.nd s) d).pr : Int) ≤ aboveN (V.nd s) d := by
    unfold aboveN
    split
    · exact Int.le_refl _
    · exact Int.le_max_left _ _
  generalize attemptX zs.length s (aboveN (V.nd s) d) = a at hat hmod
  by_cases hf : 1048576 < a
  · unfold tryX
    rw [if_pos hf]
    exact ⟨h, Mo.same hX fun _ _ => rfl⟩
  · have hF := electF_fi (a := a) hs n7.2.1 hd (by omega)
    have hXh := hX.hear hu hF (by omega) hs
    have hh := hearN_hf (hX.nd s hs) hu hF (by omega : m < 4000000000)
    have hex := hear_ex (f := electF s d a) h.ex (hX.nd s hs) hu hF (by omega) hs hX
    have hgx : ∀ e, e < 6 → ∃ g g', GX zs V e g ∧ GX zs (hearX V s (electF s d a)) e g' ∧ g'.val = g.val ∧ ∀ b, b ∈ ansN s (V.nd s) (electF s d a) → b.d = (e : Int) → Fr zs (stD (hearX V s (electF s d a)) e) g' b := fun e he => by
      obtain ⟨g, hg⟩ := h.gx e he
      obtain ⟨g', k1, -, k3, k4⟩ := hear_gx hg (hX.nd s hs) hu hF (by omega) hs hX.fr fun _ => fr_plain (.inr rfl)
      exact ⟨g, g', hg, k1, k3, k4⟩
    rcases elect_ans (hX.nd s hs) hu hF (by omega) with ⟨u, -⟩ | ⟨u, f0, hans⟩
    · unfold tryX
      rw [if_neg hf, if_pos u]
      exact ⟨⟨fun e he => by obtain ⟨-, g', -, k1, -⟩ := hgx e he; exact ⟨g', k1⟩, hex.1⟩, hex.2⟩
    · have hf0 : FI zs.length f0 := ansN_fi (hX.nd s hs) hu hF (by omega) rfl f0 (by rw [hans]; exact List.mem_singleton.2 rfl)
      have hmem : f0 ∈ ansN s (V.nd s) (electF s d a) := by rw [hans]; exact List.mem_singleton.2 rfl
      have hfd : f0.d = (d : Int) := by
        have hm2 := hmem
        unfold ansN at hm2
        split at hm2
        · rw [List.mem_singleton] at hm2; rw [hm2]; rfl
        · cases hm2
      rw [← try_eq s d a f0 hans hf u]
      have hu2 : ((hearX V s (electF s d a)).nd s).l ≠ -2 := by
        rw [hearX_nd]
        unfold upN at u
        simpa using u
      have hc0 : (oHN (V.nd s) (electF s d a)).c = 0 := by
        have := hh.up
        rw [u] at this
        exact of_decide_eq_true this.symm
      have hnew : (stN ((hearX V s (electF s d a)).nd s) d).pr = a.toNat := by
        rw [hearX_nd]
        have := hh.yes hc0
        rw [show (electF s d a).d.toNat = d from Int.toNat_natCast d] at this
        rw [this]
        unfold gHN hearL
        rw [if_neg (by show ¬ ((3 : Int).toNat = 1); decide), if_pos (by show (3 : Int).toNat = 3; decide), if_pos ?_]
        · rfl
        · show (stN (V.nd s) ((d : Int).toNat)).pr < a.toNat
          rw [Int.toNat_natCast]
          omega
      have h2 := hXh.node (i := s) ((hXh.nd s hs).putLead (d := d) (a := a) (P := P0) hu2 (by omega) (by decide) (by decide) (P0_w _)) (Nat.le_refl _)
      have h3 := XI.send h2 (electL_fi (a := a) hs n7.2.1 hd (by omega)).1 (electL_fi (a := a) hs n7.2.1 hd (by omega)).2
      generalize hV1 : hearX V s (electF s d a) = V1 at *
      have hst6 : ∀ k e, stN ((sendX (setNd V1 s (setLd (V1.nd s) d (a, P0))) (electsL s d a zs.length)).nd k) e = stN (V1.nd k) e := fun k e => setLd_st V1 s d _ k e
      -- deal by deal: the lead is there, and hears its own site's answer
      have hx6 : ((sendX (setNd V1 s (setLd (V1.nd s) d (a, P0))) (electsL s d a zs.length)).nd s).ld d = some (a, P0) := by
        show ((setNd V1 s (setLd (V1.nd s) d (a, P0))).nd s).ld d = _
        rw [nd_at, ld_at]
      have hg6 : ∀ e, e < 6 → ∃ g', GX zs (sendX (setNd V1 s (setLd (V1.nd s) d (a, P0))) (electsL s d a zs.length)) e g' ∧ (e = d → Fr zs (stD (sendX (setNd V1 s (setLd (V1.nd s) d (a, P0))) (electsL s d a zs.length)) e) g' f0) := fun e he => by
        obtain ⟨g, g', hg, k1, k3, k4⟩ := hgx e he
        have hes : stD (sendX (setNd V1 s (setLd (V1.nd s) d (a, P0))) (electsL s d a zs.length)) e = stD V1 e := funext fun k => hst6 k e
        refine ⟨g', GX.send ?_ fun f hf _ => fr_plain (.inr ?_), fun c => ?_⟩
        · by_cases c : e = d
          · subst c
            refine k1.newLead (le_new1 (by omega) ?_ hmod ?_)
            · rw [k3]
              by_cases hv : g.val a.toNat = 0
              · exact hv
              · have := hg.co.ow _ hv (by omega)
                rw [hmod] at this
                have this2 : a.toNat ≤ (stN (V.nd s) e).pr := this
                omega
            · show a.toNat ≤ (stN (V1.nd s) e).pr
              omega
          · exact k1.other c
        · unfold electsL at hf
          exact (toL_mem (List.mem_of_mem_eraseIdx hf)).1
        · rw [hes]
          exact k4 f0 hmem (by rw [hfd, c])
      generalize hV6 : sendX (setNd V1 s (setLd (V1.nd s) d (a, P0))) (electsL s d a zs.length) = V6 at *
      have he6 : V6.evs = V1.evs := by rw [← hV6]; rfl
      have hst7 : ∀ k e, stN ((sendX (leadX zs V6 s d f0) (leadO zs V6 s d f0)).nd k) e = stN (V6.nd k) e := fun k e => by
        rw [(leadX_some hx6).1]
        exact setLd_st V6 s d _ k e
      have hst8 : ∀ k e, stN ((sendX (leadX zs V6 s d f0) (leadO zs V6 s d f0)).nd k) e = stN (V1.nd k) e := fun k e => (hst7 k e).trans (hst6 k e)
      refine ⟨⟨fun e he => ?_, hex.1.same hst8 (by rw [(leadX_some hx6).1]; exact he6)⟩, hex.2.trans (Mo.same hXh hst8)⟩
      obtain ⟨g', k1, k2⟩ := hg6 e he
      rw [(leadX_some hx6).1, (leadX_some hx6).2]
      by_cases c : e = d
      · subst c
        obtain ⟨g2, q1, q2⟩ := lead_gx k1 hX.he hx6 (P0_w _) hs h3.fr (k2 rfl)
        exact ⟨g2, q1.send fun o ho _ => q2 o ho⟩
      · refine ⟨g', (k1.other c).send fun o ho hoe => ?_⟩
        exfalso
        cases hy : (phear zs s d a P0 f0).2 with
        | none => rw [hy] at ho; cases ho
        | some y =>
          rw [hy] at ho
          have := (toL_mem ho).2.2.2.2.2
          omega
theorem XI.ticks {s d : Nat} (hX : XI zs V m) (hs : s < zs.length) (hd : d < 6) (hu : (V.nd s).l ≠ -2) (hm : m < 1000000) : XI zs (tickD zs V s d) (m + 7) := by
  have n7 := (errW_zero hX.he).2.1
  have hg := (hX.nd s hs).gd d hd
  unfold tickD
  split
  · exact hX.mono (by omega)
  · split
    · have := hg.1
      have := hg.2.1
      refine (XI.send hX (toL_fi hs n7 hd (by decide) (by unfold stN; omega) (by unfold stN; omega) _ (Nat.le_refl _)) (by rw [toL_length]; omega)).mono (by omega)
    · exact hX.try hs hd hu hm
theorem AX.ticks {s d : Nat} (h : AX zs V) (hX : XI zs V m) (hs : s < zs.length) (hd : d < 6) (hu : (V.nd s).l ≠ -2) (hm : m < 1000000) : AX zs (tickD zs V s d) ∧ Mo zs V (tickD zs V s d) := by
  unfold tickD
  split
  · exact ⟨h, Mo.same hX fun _ _ => rfl⟩
  · split
    · refine ⟨⟨fun e he => ?_, h.ex.same (fun _ _ => rfl) rfl⟩, Mo.same hX fun _ _ => rfl⟩
      obtain ⟨g, hg⟩ := h.gx e he
      refine ⟨g, hg.send fun f hf hfe => ?_⟩
      have hfd := (toL_mem hf).2.2.2.2.2
      have c : e = d := by omega
      subst c
      exact fr_dec (fun q => hg.co.s2 s hs (by show (stN (V.nd s) e).ph = 2; omega)) (fun q => hg.co.s3 s hs (by show (stN (V.nd s) e).ph = 3; omega)) f hf
    · exact h.try hX hs hd hu hm
theorem AX.tick {s : Nat} (hs : s < zs.length) : ∀ (k d : Nat) (V : PX) (m : Nat), d + k ≤ 6 → AX zs V → XI zs V m → (V.nd s).l ≠ -2 → m + 7 * k < 1000000 → AX zs (tickX zs s k d V) ∧ Mo zs V (tickX zs s k d V)
  | 0, _, V, _, _, h, hX, _, _ => ⟨h, Mo.same hX fun _ _ => rfl⟩
  | k + 1, d, V, m, hk, h, hX, hu, hm => by
    have h1 := h.ticks hX hs (d := d) (by omega) hu (by omega)
    have hX1 := hX.ticks hs (d := d) (by omega) hu (by omega)
    unfold tickX
    split
    · rename_i hup
      have h2 := AX.tick hs k (d + 1) _ (m + 7) (by omega) h1.1 hX1 (by unfold upN at hup; simpa using hup) (by omega)
      exact ⟨h2.1, h1.2.trans h2.2⟩
    · exact h1
theorem AX.new : AX zs newX :=
  ⟨fun d hd => ⟨_, Co.zero (fun i _ => by
      show (dealL (zeroB 512).data.toList d).2.ph = 0
      rw [deal_zero 512 d (by omega)]; rfl), fun f hf => (by cases hf), fun i x _ hx => (by cases hx)⟩, ⟨fun e he => (by cases he), List.Pairwise.nil⟩⟩
end
end Go.Proofs.YtdpemmmbkjmplacGreatDoor
namespace Go.Proofs.YtdpemmmbkjmplacGreatDoor
open Go.RowKit

section
variable {w0 w w' : World} {C C' : Nat → Nat} {K : NB} {X : XB} {i m m' : Nat} {zs : List Int} {N : PN} {V V' : PX} {A : Nat → Addr}
theorem pkey_inj {a b a' b' : Nat} {l : Lit} (h1 : keyOf Tryz.prog 175 (pairV a b) = some l) (h2 : keyOf Tryz.prog 175 (pairV a' b') = some l) : a = a' ∧ b = b' := by
  have := plaw.inj h1 h2
  unfold pairV at this
  simp at this
  omega
/-- The map of broken links was written. -/
theorem WD.linked {a b : Nat} {whole : Bool} (h : WD w0 w C X zs V m) (hk : Kept (In1 X.mb) w w') (hD : ∃ D : DataW Unit, w'.ownsMap Tryz.prog 175 unitElem X.mb (m + 1) D ∧ ∀ x y, x < 7 → y < 7 → ∀ l, keyOf Tryz.prog 175 (pairV x y) = some l → Maps.has D l = (linkX V a b whole).br x y) :
    WOut w0 w w' C X zs (linkX V a b whole) (m + 1) := by
  have n7 := h.n7.2
  have cx := h.cx; have cw := h.cw; have cn := h.cn; have cm := h.cm
  have hlow : ∀ x, In1 X.mb x → w0.heap.size ≤ x := fun x hx => by rw [show x = _ from hx]; exact h.low _ (by omega)
  have nS : ∀ x, C x ≠ 1004 → ¬ In1 X.mb x := fun x g hx => by rw [show x = X.mb from hx] at g; exact g cm
  refine ⟨C, X, ⟨hk.below h.bel.size hlow h.bel, hk.row h.row (nS _ (by omega)), fun e he => cell_kept (h.ws e he) hk (nS _ (by show C X.wb ≠ _; omega)), fun e he => cell_kept (h.ns e he) hk (nS _ (by show C X.nb ≠ _; omega)), fun e he => ((h.nds e he).kept hk (fun x _ hx => nS x (by omega)) hlow).mono (Nat.le_succ _), hD, h.fly.kept hk (fun g hg => nS g (by have := h.cf g hg; omega)), own_kept h.evs hk (fun g hg => nS g (by have := h.ce g hg; omega)), h.cx, h.cw, h.cn, h.cm, h.cf, h.ce, fun x hx => Nat.lt_of_lt_of_le (h.lt x hx) hk.size, h.low, ?_⟩, rfl, hk.mono (fun x hx => by rw [show x = _ from hx]; show C _ < 2000; omega), fun _ _ => rfl⟩
  exact ⟨h.inv.he, fun i hi => (h.inv.nd i hi).mono (Nat.le_succ _), h.inv.fr, by have := h.inv.fl; show V.fly.length ≤ _; omega, h.inv.ev⟩
theorem turned_kept {b : Nat} (h : w.mapTurned w' b) : Kept (In1 b) w w' := by
  obtain ⟨es, cl, es', cl', hb, rfl⟩ := h
  refine ⟨rfl, rfl, rfl, ?_, fun k hk hs => ?_⟩
  · show w.heap.size ≤ (w.heap.setIfInBounds b (.map es' cl')).size
    simp
  · show (w.heap.setIfInBounds b (.map es' cl'))[k]? = w.heap[k]?
    rw [Array.getElem?_setIfInBounds_ne (fun e => hs (show k = b from e.symm))]
/-- A link breaks. -/
theorem WD.breaks {a b : Nat} (h : WD w0 w C X zs V m) (hm : m < 1000000) (ha : a < 7) (hb : b < 7) :
    ∃ w4, (Instr.mapUpdate 62 (.map (some X.mb)) (pairV (min a b) (max a b)) (.agg #[])).run Tryz.prog w = .ok () w4 ∧ w4.cell? ⟨X.xb, 2, none⟩ = some (.map (some X.mb)) ∧ WOut w0 w w4 C X zs (linkX V a b false) (m + 1) := by
  obtain ⟨D, hD, hh⟩ := h.brk
  obtain ⟨l, hl⟩ := pkey_some (min a b) (max a b) (by omega) (by omega)
  obtain ⟨w4, hr, ho, ht⟩ := hD.store plaw Tryz.underlying62 (by unfold maxLen; omega) hl unitElem_mk
  refine ⟨w4, hr, cell_kept h.cells.2.2.1 (turned_kept ht) (fun e => by have h1 := h.cx; have h2 := h.cm; rw [show X.xb = X.mb from e] at h1; omega), h.linked (turned_kept ht) ⟨_, ho, fun x y hx hy l2 hl2 => ?_⟩⟩
  show _ = if x = min a b ∧ y = max a b then !false else V.br x y
  by_cases g : x = min a b ∧ y = max a b
  · rw [if_pos g]
    rw [g.1, g.2, hl] at hl2
    obtain rfl := Option.some.inj hl2
    exact Maps.has_put_same hD.isMap (plaw.key hl) _
  · rw [if_neg g, Maps.has_put_other (fun e => g ?_)]
    · exact hh x y hx hy l2 hl2
    · rw [e] at hl2
      exact pkey_inj hl2 hl
/-- A link is whole again. -/
theorem WD.mends {a b : Nat} (h : WD w0 w C X zs V m) (ha : a < 7) (hb : b < 7) (ty : TypeId) :
    ∃ w4, (Builtin.delete_ #[62, 175] ty #[.map (some X.mb), pairV (min a b) (max a b)]).run Tryz.prog w = .ok (.tuple #[]) w4 ∧ w4.cell? ⟨X.xb, 2, none⟩ = some (.map (some X.mb)) ∧ WOut w0 w w4 C X zs (linkX V a b true) (m + 1) := by
  obtain ⟨D, hD, hh⟩ := h.brk
  obtain ⟨l, hl⟩ := pkey_some (min a b) (max a b) (by omega) (by omega)
  obtain ⟨w4, hr, ho, ht⟩ := hD.drop plaw Tryz.underlying62 hl ty
  refine ⟨w4, hr, cell_kept h.cells.2.2.1 (turned_kept ht) (fun e => by have h1 := h.cx; have h2 := h.cm; rw [show X.xb = X.mb from e] at h1; omega), h.linked (turned_kept ht) ⟨_, ho.mono (Nat.le_succ _), fun x y hx hy l2 hl2 => ?_⟩⟩
  show _ = if x = min a b ∧ y = max a b then !true else V.br x y
  by_cases g : x = min a b ∧ y = max a b
  · rw [if_pos g]
    rw [g.1, g.2, hl] at hl2
    obtain rfl := Option.some.inj hl2
    exact Maps.has_del_same
  · rw [if_neg g, Maps.has_del_other (fun e => g ?_)]
    · exact hh x y hx hy l2 hl2
    · rw [e] at hl2
      exact pkey_inj hl2 hl
/-- Its answer. -/
def cLink (n : Nat) (a b : Int) : Nat := if (0 ≤ a ∧ a < n) ∧ 0 ≤ b ∧ b < n then 0 else 2
set_option maxHeartbeats 1000000 in
set_option maxRecDepth 100000 in
theorem link_ok (a b : Nat) (whole : Bool) (h : WD w0 w C X zs V m) (ha : a < zs.length) (hb : b < zs.length) (hm : m < 1000000) :
    Calls Tryz.prog 49 #[.pointer (some ⟨X.xb, 0, none⟩), .int .i64 (a : Int), .int .i64 (b : Int), .bool whole] w fun e w' => e = .returned .nilIface ∧ WOut w0 w w' C X zs (linkX V a b whole) (m + 1) := by
  have H := hid h
  have n7 := h.n7
  obtain ⟨-, -, c2, -, -⟩ := h.cells
  have HA := hid (has_is (a : Int) true h (decide_eq_true (by omega)))
  have HB := hid (has_is (b : Int) true h (decide_eq_true (by omega)))
  have h7 : a < 7 ∧ b < 7 := by omega
  clear h
  cases whole with
  | true =>
    have HM : Hid (∀ w3, Below w.heap.size w w3 → ∃ w4, (Builtin.delete_ #[62, 175] 0 #[.map (some X.mb), pairV (min a b) (max a b)]).run Tryz.prog w3 = .ok (.tuple #[]) w4 ∧ w4.cell? ⟨X.xb, 2, none⟩ = some (.map (some X.mb)) ∧ WOut w0 w w4 C X zs (linkX V a b true) (m + 1)) := by
      intro w3 hb3
      obtain ⟨w4, h1, h0, h2⟩ := (H.out.later hb3).mends h7.1 h7.2 0
      exact ⟨w4, h1, h0, WOut.step (C1 := C) (X1 := X) rfl (Kept.of_below hb3) (fun _ _ => rfl) h2⟩
    go_enter Tryz.func49, Tryz.ntmps49
    go_wp2_with (first | (go_at_call 105; (with_reducible refine HA.out.mono ?_); rintro e w1 ⟨rfl, hx⟩; subst w1) | (go_at_call 105; (with_reducible refine HB.out.mono ?_); rintro e w1 ⟨rfl, hx⟩; subst w1))
    go_region_held3 (fun V => V.cell? ⟨X.xb, 2, none⟩ = some (.map (some X.mb))) (go_keep) (first | (go_at_call 106; (with_reducible refine (between_p a b _).mono ?_); rintro e w3 ⟨rfl, hb3⟩; have q0 := cell_later hb3 c2; obtain ⟨w4, hr4, q4, ho4⟩ := HM.out w3 ((Below.refl _ _).drew.trans hb3); have HO4 := hid ho4; clear hb3 ho4))
    all_goals go_wp2_with fail
    all_goals go_ret
    all_goals exact ⟨rfl, HO4.out⟩
  | false =>
    have HM : Hid (∀ w3, Below w.heap.size w w3 → ∃ w4, (Instr.mapUpdate 62 (.map (some X.mb)) (pairV (min a b) (max a b)) (.agg #[])).run Tryz.prog w3 = .ok () w4 ∧ w4.cell? ⟨X.xb, 2, none⟩ = some (.map (some X.mb)) ∧ WOut w0 w w4 C X zs (linkX V a b false) (m + 1)) := by
      intro w3 hb3
      obtain ⟨w4, h1, h0, h2⟩ := (H.out.later hb3).breaks hm h7.1 h7.2
      exact ⟨w4, h1, h0, WOut.step (C1 := C) (X1 := X) rfl (Kept.of_below hb3) (fun _ _ => rfl) h2⟩
    go_enter Tryz.func49, Tryz.ntmps49
    go_wp2_with (first | (go_at_call 105; (with_reducible refine HA.out.mono ?_); rintro e w1 ⟨rfl, hx⟩; subst w1) | (go_at_call 105; (with_reducible refine HB.out.mono ?_); rintro e w1 ⟨rfl, hx⟩; subst w1))
    go_region_held3 (fun V => V.cell? ⟨X.xb, 2, none⟩ = some (.map (some X.mb))) (go_keep) (first | (go_at_call 106; (with_reducible refine (between_p a b _).mono ?_); rintro e w3 ⟨rfl, hb3⟩; have q0 := cell_later hb3 c2; obtain ⟨w4, hr4, q4, ho4⟩ := HM.out w3 ((Below.refl _ _).drew.trans hb3); have HO4 := hid ho4; clear hb3 ho4))
    all_goals go_wp2_with fail
    all_goals go_ret
    all_goals exact ⟨rfl, HO4.out⟩
set_option maxRecDepth 100000 in
theorem link_no (a b : Int) (whole : Bool) (h : WD w0 w C X zs V m) (hE : Held9 w0 A) (hs : ¬ ((0 ≤ a ∧ a < zs.length) ∧ 0 ≤ b ∧ b < zs.length)) :
    Calls Tryz.prog 49 #[.pointer (some ⟨X.xb, 0, none⟩), .int .i64 a, .int .i64 b, .bool whole] w fun e w' => e = .returned (ev A 2) ∧ w' = w := by
  have g1 : w.cell? ⟨0, 0, none⟩ = some (.iface 266 (.pointer (some (A 1)))) := (h.held hE).var 1 (by decide)
  have HA := hid (fun x => has_is a x h)
  have HB := hid (fun x => has_is b x h)
  clear h
  by_cases ha : 0 ≤ a ∧ a < zs.length
  · have hb : ¬ (0 ≤ b ∧ b < zs.length) := fun g => hs ⟨ha, g⟩
    have HA1 := hid (HA.out true (decide_eq_true ha))
    have HB1 := hid (HB.out false (decide_eq_false hb))
    clear HA HB ha hb hs
    go_enter Tryz.func49, Tryz.ntmps49
    go_wp2_with (first | (go_at_call 105; (with_reducible refine HA1.out.mono ?_); rintro e w1 ⟨rfl, hx⟩; subst w1) | (go_at_call 105; (with_reducible refine HB1.out.mono ?_); rintro e w1 ⟨rfl, hx⟩; subst w1))
    go_ret
    exact ⟨rfl, rfl⟩
  · have HA1 := hid (HA.out false (decide_eq_false ha))
    clear HA HB ha hs
    go_enter Tryz.func49, Tryz.ntmps49
    go_wp2_with (first | (go_at_call 105; (with_reducible refine HA1.out.mono ?_); rintro e w1 ⟨rfl, hx⟩; subst w1))
    go_ret
    exact ⟨rfl, rfl⟩
end
end Go.Proofs.YtdpemmmbkjmplacGreatDoor
namespace Go.Proofs.YtdpemmmbkjmplacGreatDoor
open Go.RowKit

/-- What a step of a law makes of a world. -/
def Stp (zs : List Int) (V V' : PX) : Prop :=
  V' = V ∨ (∃ s d : Nat, s < zs.length ∧ d < 6 ∧ cBeg zs.length V (s : Int) (d : Int) = 0 ∧ V' = beginX zs V s d) ∨ (∃ s d, s < zs.length ∧ upN (V.nd s) = true ∧ V' = refuseX V s d) ∨ (∃ s, s < zs.length ∧ upN (V.nd s) = true ∧ V' = tickX zs s 6 0 V) ∨
  (∃ s, s < zs.length ∧ upN (V.nd s) = true ∧ V' = downX V s) ∨ (∃ s, s < zs.length ∧ upN (V.nd s) = false ∧ V' = upX V s) ∨ (∃ k, V' = takeX V k) ∨ (∃ k f, f ∈ V.fly ∧ V' = twiceX V k f) ∨ (∃ a b x, V' = linkX V a b x) ∨ (∃ s n, s < zs.length ∧ V' = cutX V s n) ∨ (∃ k f, V.fly[k]? = some f ∧ V' = deliverX zs V k f)
section
variable {zs : List Int} {V : PX}
theorem Stp.same : Stp zs V V := .inl rfl
theorem Stp.begin (s d : Nat) (hs : s < zs.length) (hd : d < 6) (hc : cBeg zs.length V s d = 0) : Stp zs V (beginX zs V s d) := .inr (.inl ⟨s, d, hs, hd, hc, rfl⟩)
theorem Stp.refuse (s d : Nat) (hs : s < zs.length) (hu : upN (V.nd s) = true) : Stp zs V (refuseX V s d) := .inr (.inr (.inl ⟨s, d, hs, hu, rfl⟩))
theorem Stp.tick (s : Nat) (hs : s < zs.length) (hu : upN (V.nd s) = true) : Stp zs V (tickX zs s 6 0 V) := .inr (.inr (.inr (.inl ⟨s, hs, hu, rfl⟩)))
theorem Stp.down (s : Nat) (hs : s < zs.length) (hu : upN (V.nd s) = true) : Stp zs V (downX V s) := .inr (.inr (.inr (.inr (.inl ⟨s, hs, hu, rfl⟩))))
theorem Stp.wake (s : Nat) (hs : s < zs.length) (hu : upN (V.nd s) = false) : Stp zs V (upX V s) := .inr (.inr (.inr (.inr (.inr (.inl ⟨s, hs, hu, rfl⟩)))))
theorem Stp.take (k : Nat) : Stp zs V (takeX V k) := .inr (.inr (.inr (.inr (.inr (.inr (.inl ⟨k, rfl⟩))))))
theorem Stp.twice (k : Nat) (f : F9) (hf : f ∈ V.fly) : Stp zs V (twiceX V k f) := .inr (.inr (.inr (.inr (.inr (.inr (.inr (.inl ⟨k, f, hf, rfl⟩)))))))
theorem Stp.link (a b : Nat) (x : Bool) : Stp zs V (linkX V a b x) := .inr (.inr (.inr (.inr (.inr (.inr (.inr (.inr (.inl ⟨a, b, x, rfl⟩))))))))
theorem Stp.cut (s : Nat) (n : Int) (hs : s < zs.length) : Stp zs V (cutX V s n) := .inr (.inr (.inr (.inr (.inr (.inr (.inr (.inr (.inr (.inl ⟨s, n, hs, rfl⟩)))))))))
theorem Stp.deliver (k : Nat) (f : F9) (hk : V.fly[k]? = some f) : Stp zs V (deliverX zs V k f) := .inr (.inr (.inr (.inr (.inr (.inr (.inr (.inr (.inr (.inr ⟨k, f, hk, rfl⟩)))))))))
end
theorem nd_keep {V : PX} {s : Nat} {N : PN} (hst : ∀ d, stN N d = stN (V.nd s) d) : ∀ i d, stN ((setNd V s N).nd i) d = stN (V.nd i) d := by
  intro i d
  by_cases e : i = s
  · subst e; rw [nd_at]; exact hst d
  · rw [nd_ne _ _ _ e]
theorem ld_keep {V : PX} {s : Nat} {N : PN} (hld : ∀ d x, N.ld d = some x → (V.nd s).ld d = some x) : ∀ i d x, ((setNd V s N).nd i).ld d = some x → (V.nd i).ld d = some x := by
  intro i d x
  by_cases e : i = s
  · subst e; rw [nd_at]; exact hld d x
  · rw [nd_ne _ _ _ e]; exact id
theorem Stp.ax {zs : List Int} {V V' : PX} {m : Nat} (h : Stp zs V V') (hA : AX zs V) (hX : XI zs V m) (hm : m < 900000) : AX zs V' ∧ Mo zs V V' := by
  rcases h with rfl | ⟨s, d, hs, hd, hc, rfl⟩ | ⟨s, d, hs, hu, rfl⟩ | ⟨s, hs, hu, rfl⟩ | ⟨s, hs, hu, rfl⟩ | ⟨s, hs, hu, rfl⟩ | ⟨k, rfl⟩ | ⟨k, f, hf, rfl⟩ | ⟨a, b, x, rfl⟩ | ⟨s, n, hs, rfl⟩ | ⟨k, f, hk, rfl⟩
  · exact ⟨hA, Mo.same hX fun _ _ => rfl⟩
  · exact hA.begin hX
  · exact ⟨hA.quiet (nd_keep fun _ => rfl) (fun i e x _ => ld_keep (V := V) (s := s) (N := { V.nd s with R := updR (V.nd s).R d }) (fun _ _ y => y) i e x) (fun _ y => y) rfl, Mo.same hX (nd_keep fun _ => rfl)⟩
  · exact AX.tick hs 6 0 V m (by decide) hA hX (by unfold upN at hu; simpa using hu) (by omega)
  · exact ⟨hA.quiet (nd_keep fun _ => rfl) (fun i d x _ => ld_keep (fun _ _ y => by cases y) i d x) (fun _ y => y) rfl, Mo.same hX (nd_keep fun _ => rfl)⟩
  · exact ⟨hA.quiet (nd_keep fun _ => rfl) (fun i d x _ => ld_keep (V := V) (s := s) (N := { V.nd s with l := -1, over := false, R := fun _ => false }) (fun _ _ y => y) i d x) (fun _ y => y) rfl, Mo.same hX (nd_keep fun _ => rfl)⟩
  · exact ⟨hA.take k, Mo.same hX fun _ _ => rfl⟩
  ·
    refine ⟨hA.quiet (fun _ _ => rfl) (fun _ _ _ _ y => y) (fun g hg => ?_) rfl, Mo.same hX fun _ _ => rfl⟩
    have hg2 : g ∈ V.fly.take k ++ f :: V.fly.drop k := hg
    rcases List.mem_append.1 hg2 with y | y
    · exact List.mem_of_mem_take y
    · rcases List.mem_cons.1 y with rfl | y
      · exact hf
      · exact List.mem_of_mem_drop y
  · exact ⟨hA.quiet (fun _ _ => rfl) (fun _ _ _ _ y => y) (fun _ y => y) rfl, Mo.same hX fun _ _ => rfl⟩
  · exact ⟨hA.quiet (nd_keep fun _ => rfl) (fun i d x _ => ld_keep (V := V) (s := s) (N := { V.nd s with l := cL (V.nd s).l n }) (fun _ _ y => y) i d x) (fun _ y => y) rfl, Mo.same hX (nd_keep fun _ => rfl)⟩
  · exact hA.deliver hX (by omega) (List.mem_iff_getElem?.2 ⟨k, hk⟩)
section
variable {w0 w : World} {C : Nat → Nat} {X : XB} {m : Nat} {zs : List Int} {V : PX} {A : Nat → Addr}
def StpOut (w0 w w' : World) (C : Nat → Nat) (X : XB) (zs : List Int) (V : PX) (m : Nat) : Prop := ∃ V', Stp zs V V' ∧ WOut w0 w w' C X zs V' (m + 42)
theorem StpOut.back {W w' : World} (hb : Below w.heap.size w W) (h : StpOut w0 W w' C X zs V m) : StpOut w0 w w' C X zs V m := by
  obtain ⟨V', h1, h2⟩ := h
  exact ⟨V', h1, WOut.step (C1 := C) (X1 := X) rfl (Kept.of_below hb) (fun _ _ => rfl) h2⟩
theorem cUp_zero {n : Nat} {V : PX} {s : Int} (h : cUp n V s = 0) : s.toNat < n ∧ upN (V.nd s.toNat) = true := by
  unfold cUp at h
  split at h
  · rename_i h1
    split at h
    · rename_i h2; exact ⟨by omega, h2⟩
    · cases h
  · cases h
theorem s_begin (s d : Int) (h : WD w0 w C X zs V m) (hE : Held9 w0 A) (hm : m < 800000) : Calls Tryz.prog 28 #[.pointer (some ⟨X.xb, 0, none⟩), .int .i64 s, .int .i64 d] w fun e w' => (∃ v, e = .returned v) ∧ StpOut w0 w w' C X zs V m := by
  refine (begin_any s d _ h hE (by omega) rfl).mono ?_
  rintro e w' ⟨rfl, ho⟩
  refine ⟨⟨_, rfl⟩, ?_⟩
  by_cases hc : cBeg zs.length V s d = 0
  · rw [if_pos hc] at ho
    refine ⟨_, ?_, ho.mono (by omega)⟩
    have h1 : (0 ≤ s ∧ s < zs.length) ∧ 0 ≤ d ∧ d < 6 := by
      unfold cBeg at hc
      split at hc
      · assumption
      · cases hc
    refine .begin s.toNat d.toNat (by omega) (by omega) ?_
    rw [Int.toNat_of_nonneg h1.1.1, Int.toNat_of_nonneg h1.2.1]
    exact hc
  · rw [if_neg hc] at ho
    exact ⟨V, .same, ho.mono (by omega)⟩
theorem s_refuse (s d : Int) (h : WD w0 w C X zs V m) (hE : Held9 w0 A) (hm : m < 800000) : Calls Tryz.prog 37 #[.pointer (some ⟨X.xb, 0, none⟩), .int .i64 s, .int .i64 d] w fun e w' => (∃ v, e = .returned v) ∧ StpOut w0 w w' C X zs V m := by
  refine (refuse_any s d _ h hE (by omega) rfl).mono ?_
  rintro e w' ⟨rfl, ho⟩
  refine ⟨⟨_, rfl⟩, ?_⟩
  by_cases hc : cRef zs.length V s d = 0
  · rw [if_pos hc] at ho
    refine ⟨_, ?_, ho.mono (by omega)⟩
    unfold cRef at hc
    split at hc
    · rename_i h1
      split at hc
      · rename_i h2; exact .refuse s.toNat d.toNat (by omega) h2
      · cases hc
    · cases hc
  · rw [if_neg hc] at ho
    exact ⟨V, .same, ho.mono (by omega)⟩
theorem s_tick (s : Int) (h : WD w0 w C X zs V m) (hE : Held9 w0 A) (hm : m < 800000) : Calls Tryz.prog 39 #[.pointer (some ⟨X.xb, 0, none⟩), .int .i64 s] w fun e w' => (∃ v, e = .returned v) ∧ StpOut w0 w w' C X zs V m := by
  refine (tick_any s _ h hE (by omega) rfl).mono ?_
  rintro e w' ⟨rfl, ho⟩
  refine ⟨⟨_, rfl⟩, ?_⟩
  by_cases hc : cUp zs.length V s = 0
  · rw [if_pos hc] at ho
    exact ⟨_, .tick s.toNat (cUp_zero hc).1 (cUp_zero hc).2, ho⟩
  · rw [if_neg hc] at ho
    exact ⟨V, .same, ho⟩
theorem s_down (s : Int) (h : WD w0 w C X zs V m) (hE : Held9 w0 A) : Calls Tryz.prog 41 #[.pointer (some ⟨X.xb, 0, none⟩), .int .i64 s] w fun e w' => (∃ v, e = .returned v) ∧ StpOut w0 w w' C X zs V m := by
  refine (down_any s _ h hE rfl).mono ?_
  rintro e w' ⟨rfl, ho⟩
  refine ⟨⟨_, rfl⟩, ?_⟩
  by_cases hc : cUp zs.length V s = 0
  · rw [if_pos hc] at ho
    exact ⟨_, .down s.toNat (cUp_zero hc).1 (cUp_zero hc).2, ho.mono (by omega)⟩
  · rw [if_neg hc] at ho
    exact ⟨V, .same, ho.mono (by omega)⟩
theorem s_wake (s : Int) (h : WD w0 w C X zs V m) (hE : Held9 w0 A) : Calls Tryz.prog 43 #[.pointer (some ⟨X.xb, 0, none⟩), .int .i64 s] w fun e w' => (∃ v, e = .returned v) ∧ StpOut w0 w w' C X zs V m := by
  refine (wake_any s _ h hE rfl).mono ?_
  rintro e w' ⟨rfl, ho⟩
  refine ⟨⟨_, rfl⟩, ?_⟩
  by_cases hc : cWake zs.length V s = 0
  · rw [if_pos hc] at ho
    refine ⟨_, ?_, ho.mono (by omega)⟩
    unfold cWake at hc
    split at hc
    · rename_i h1
      split at hc
      · cases hc
      · rename_i h2
        refine .wake s.toNat (by omega) ?_
        cases hu : upN (V.nd s.toNat) with
        | false => rfl
        | true => exact absurd hu h2
    · cases hc
  · rw [if_neg hc] at ho
    exact ⟨V, .same, ho.mono (by omega)⟩
theorem s_drop (n : Int) (h : WD w0 w C X zs V m) (hE : Held9 w0 A) (hm : m < 800000) : Calls Tryz.prog 45 #[.pointer (some ⟨X.xb, 0, none⟩), .int .i64 n] w fun e w' => (∃ v, e = .returned v) ∧ StpOut w0 w w' C X zs V m := by
  by_cases hn : 0 ≤ n ∧ n < V.fly.length
  · obtain ⟨k, rfl⟩ := Int.eq_ofNat_of_zero_le hn.1
    refine (drop_ok k h (by omega) (by omega)).mono ?_
    rintro e w' ⟨rfl, ho⟩
    exact ⟨⟨_, rfl⟩, _, .take k, ho.mono (by omega)⟩
  · refine (drop_no n h hE hn).mono ?_
    rintro e w' ⟨rfl, rfl⟩
    exact ⟨⟨_, rfl⟩, V, .same, h.out (Below.refl _ _) (by omega)⟩
theorem s_twice (n : Int) (h : WD w0 w C X zs V m) (hE : Held9 w0 A) (hm : m < 800000) : Calls Tryz.prog 47 #[.pointer (some ⟨X.xb, 0, none⟩), .int .i64 n] w fun e w' => (∃ v, e = .returned v) ∧ StpOut w0 w w' C X zs V m := by
  by_cases hn : 0 ≤ n ∧ n < V.fly.length
  · obtain ⟨k, rfl⟩ := Int.eq_ofNat_of_zero_le hn.1
    have hk : k < V.fly.length := by omega
    refine (twice_ok k _ h hk rfl (by omega)).mono ?_
    rintro e w' ⟨rfl, ho⟩
    exact ⟨⟨_, rfl⟩, _, .twice k _ (List.getElem_mem hk), ho.mono (by omega)⟩
  · refine (twice_no n h hE hn).mono ?_
    rintro e w' ⟨rfl, rfl⟩
    exact ⟨⟨_, rfl⟩, V, .same, h.out (Below.refl _ _) (by omega)⟩
theorem s_deliver (n : Int) (h : WD w0 w C X zs V m) (hE : Held9 w0 A) (hm : m < 800000) : Calls Tryz.prog 53 #[.pointer (some ⟨X.xb, 0, none⟩), .int .i64 n] w fun e w' => (∃ v, e = .returned v) ∧ StpOut w0 w w' C X zs V m := by
  by_cases hn : 0 ≤ n ∧ n < V.fly.length
  · obtain ⟨k, rfl⟩ := Int.eq_ofNat_of_zero_le hn.1
    have hk : k < V.fly.length := by omega
    refine (deliver_ok k _ h hE hk rfl (by omega)).mono ?_
    rintro e w' ⟨rfl, ho⟩
    exact ⟨⟨_, rfl⟩, _, .deliver k _ (List.getElem?_eq_getElem hk), ho.mono (by omega)⟩
  · refine (deliver_no n h hE hn).mono ?_
    rintro e w' ⟨rfl, rfl⟩
    exact ⟨⟨_, rfl⟩, V, .same, h.out (Below.refl _ _) (by omega)⟩
theorem s_link (a b : Int) (x : Bool) (h : WD w0 w C X zs V m) (hE : Held9 w0 A) (hm : m < 800000) : Calls Tryz.prog 49 #[.pointer (some ⟨X.xb, 0, none⟩), .int .i64 a, .int .i64 b, .bool x] w fun e w' => (∃ v, e = .returned v) ∧ StpOut w0 w w' C X zs V m := by
  by_cases hn : (0 ≤ a ∧ a < zs.length) ∧ 0 ≤ b ∧ b < zs.length
  · obtain ⟨k, rfl⟩ := Int.eq_ofNat_of_zero_le hn.1.1
    obtain ⟨l, rfl⟩ := Int.eq_ofNat_of_zero_le hn.2.1
    refine (link_ok k l x h (by omega) (by omega) (by omega)).mono ?_
    rintro e w' ⟨rfl, ho⟩
    exact ⟨⟨_, rfl⟩, _, .link k l x, ho.mono (by omega)⟩
  · refine (link_no a b x h hE hn).mono ?_
    rintro e w' ⟨rfl, rfl⟩
    exact ⟨⟨_, rfl⟩, V, .same, h.out (Below.refl _ _) (by omega)⟩
theorem s_cut (s n : Int) (h : WD w0 w C X zs V m) (hE : Held9 w0 A) (hn : n ≤ 9223372036854775807) : Calls Tryz.prog 51 #[.pointer (some ⟨X.xb, 0, none⟩), .int .i64 s, .int .i64 n] w fun e w' => (∃ v, e = .returned v) ∧ StpOut w0 w w' C X zs V m := by
  refine (cut_any s n _ h hE hn rfl).mono ?_
  rintro e w' ⟨rfl, ho⟩
  refine ⟨⟨_, rfl⟩, ?_⟩
  by_cases hs : 0 ≤ s ∧ s < zs.length
  · rw [if_pos hs] at ho
    exact ⟨_, .cut s.toNat n (by omega), ho.mono (by omega)⟩
  · rw [if_neg hs] at ho
    exact ⟨V, .same, ho.mono (by omega)⟩
end
end Go.Proofs.YtdpemmmbkjmplacGreatDoor
namespace Go.Proofs.YtdpemmmbkjmplacGreatDoor
open Go.RowKit

/-- The frame that a number picks. -/
def pickF (V : PX) (q : Nat) : Option F9 := V.fly[q % V.fly.length]?
/-- A move of a play: the world behind it, and its error's number. -/
def stepP (zs : List Int) (V : PX) (mv q : Nat) : PX × Nat :=
  if mv = 7 then (match pickF V q with | some _ => (takeX V (q % V.fly.length), 0) | none => (V, 4))
  else if mv = 8 then (match pickF V q with | some f => (twiceX V (q % V.fly.length) f, 0) | none => (V, 4))
  else if mv = 9 then (if cBeg zs.length V ((q % 7 : Nat) : Int) ((q / 7 % 6 : Nat) : Int) = 0 then beginX zs V (q % 7) (q / 7 % 6) else V, cBeg zs.length V ((q % 7 : Nat) : Int) ((q / 7 % 6 : Nat) : Int))
  else if mv = 10 then (if cUp zs.length V ((q % 7 : Nat) : Int) = 0 then tickX zs (q % 7) 6 0 V else V, cUp zs.length V ((q % 7 : Nat) : Int))
  else if mv = 11 then (if cRef zs.length V ((q % 7 : Nat) : Int) ((q / 7 % 6 : Nat) : Int) = 0 then refuseX V (q % 7) (q / 7 % 6) else V, cRef zs.length V ((q % 7 : Nat) : Int) ((q / 7 % 6 : Nat) : Int))
  else if mv = 12 then (if q % 7 < zs.length ∧ q / 7 % 6 < zs.length then (linkX V (q % 7) (q / 7 % 6) (q % 2 == 0), 0) else (V, 2))
  else if mv = 13 then (if q % 7 < zs.length then cutX V (q % 7) ((q % 40 : Nat) : Int) else V, cCut zs.length V ((q % 7 : Nat) : Int) ((q % 40 : Nat) : Int))
  else if mv = 14 then (if cUp zs.length V ((q % 7 : Nat) : Int) = 0 then downX V (q % 7) else V, cUp zs.length V ((q % 7 : Nat) : Int))
  else if mv = 15 then (if cWake zs.length V ((q % 7 : Nat) : Int) = 0 then upX V (q % 7) else V, cWake zs.length V ((q % 7 : Nat) : Int))
  else (match pickF V q with | some f => (deliverX zs V (q % V.fly.length) f, 0) | none => (V, 4))
/-- A number of a play. -/
def numP (zs : List Int) (V : PX) (v : Int) : PX × Int := if v < 0 then (V, -1) else ((stepP zs V (v.toNat % 16) (v.toNat / 16)).1, ((stepP zs V (v.toNat % 16) (v.toNat / 16)).2 : Nat))
section
variable {w0 w : World} {C : Nat → Nat} {X : XB} {m : Nat} {zs : List Int} {V : PX} {A : Nat → Addr}
theorem cWake_zero {n : Nat} {s : Int} (hc : cWake n V s = 0) : s.toNat < n ∧ upN (V.nd s.toNat) = false := by
  unfold cWake at hc
  split at hc
  · rename_i h1
    split at hc
    · cases hc
    · rename_i h2
      refine ⟨by omega, ?_⟩
      cases hu : upN (V.nd s.toNat) with
      | false => rfl
      | true => exact absurd hu h2
  · cases hc
theorem cRef_zero {n : Nat} {s d : Int} (hc : cRef n V s d = 0) : s.toNat < n ∧ upN (V.nd s.toNat) = true := by
  unfold cRef at hc
  split at hc
  · rename_i h1
    split at hc
    · rename_i h2; exact ⟨by omega, h2⟩
    · cases hc
  · cases hc
theorem cBeg_zero {n : Nat} {s d : Int} (hc : cBeg n V s d = 0) : s.toNat < n ∧ d.toNat < 6 := by
  unfold cBeg at hc
  split at hc
  · rename_i h1; exact ⟨by omega, by omega⟩
  · cases hc
/-- A move is a step. -/
theorem stepP_stp (mv q : Nat) : Stp zs V (stepP zs V mv q).1 := by
  unfold stepP
  split
  · split
    · exact .take _
    · exact .same
  split
  · split
    · rename_i f hf; exact .twice _ f (List.mem_iff_getElem?.2 ⟨_, hf⟩)
    · exact .same
  split
  · show Stp zs V (if _ then _ else _)
    split
    · rename_i hc; have := cBeg_zero hc; exact .begin _ _ (by omega) (by omega) hc
    · exact .same
  split
  · show Stp zs V (if _ then _ else _)
    split
    · rename_i hc; have := cUp_zero hc; rw [Int.toNat_natCast] at this; exact .tick _ this.1 this.2
    · exact .same
  split
  · show Stp zs V (if _ then _ else _)
    split
    · rename_i hc; have := cRef_zero hc; rw [Int.toNat_natCast] at this; exact .refuse _ _ this.1 this.2
    · exact .same
  split
  · split
    · exact .link _ _ _
    · exact .same
  split
  · show Stp zs V (if _ then _ else _)
    split
    · rename_i hc; exact .cut _ _ hc
    · exact .same
  split
  · show Stp zs V (if _ then _ else _)
    split
    · rename_i hc; have := cUp_zero hc; rw [Int.toNat_natCast] at this; exact .down _ this.1 this.2
    · exact .same
  split
  · show Stp zs V (if _ then _ else _)
    split
    · rename_i hc; have := cWake_zero hc; rw [Int.toNat_natCast] at this; exact .wake _ this.1 this.2
    · exact .same
  · split
    · rename_i f hf; exact .deliver _ f hf
    · exact .same
theorem numP_stp (v : Int) : Stp zs V (numP zs V v).1 := by
  unfold numP
  split
  · exact .same
  · exact stepP_stp _ _
theorem cBeg_le {n : Nat} {s d : Int} : cBeg n V s d ≤ 9 := by
  unfold cBeg
  split
  · split
    · split <;> decide
    · decide
  · decide
theorem cUp_le {n : Nat} {s : Int} : cUp n V s ≤ 9 := by
  unfold cUp
  split
  · split <;> decide
  · decide
theorem cRef_le {n : Nat} {s d : Int} : cRef n V s d ≤ 9 := by
  unfold cRef
  split
  · split <;> decide
  · decide
theorem cWake_le {n : Nat} {s : Int} : cWake n V s ≤ 9 := by
  unfold cWake
  split
  · split <;> decide
  · decide
theorem cCut_le {n : Nat} {s x : Int} : cCut n V s x ≤ 9 := by
  unfold cCut
  split
  · exact cC_le _ _
  · decide
theorem stepP_code (mv q : Nat) : (stepP zs V mv q).2 ≤ 9 := by
  unfold stepP
  split
  · split <;> exact Nat.le_of_ble_eq_true rfl
  split
  · split <;> exact Nat.le_of_ble_eq_true rfl
  split
  · exact cBeg_le
  split
  · exact cUp_le
  split
  · exact cRef_le
  split
  · split <;> exact Nat.le_of_ble_eq_true rfl
  split
  · exact cCut_le
  split
  · exact cUp_le
  split
  · exact cWake_le
  · split <;> exact Nat.le_of_ble_eq_true rfl
set_option maxRecDepth 100000 in
theorem inflight_is (h : WD w0 w C X zs V m) : Calls Tryz.prog 169 #[.pointer (some ⟨X.xb, 0, none⟩)] w fun e w' => e = .returned (.int .i64 (V.fly.length : Int)) ∧ w' = w := by
  obtain ⟨-, -, -, c3, -⟩ := h.cells
  obtain ⟨ad, cap, hv⟩ := h.fly.form
  rw [hv] at c3
  clear h hv
  go_enter Tryz.func169, Tryz.ntmps169
  go_wp2_with fail
  go_ret
  exact ⟨rfl, rfl⟩
/-- The place that a number picks. -/
def pickN (V : PX) (q : Nat) : Nat := if V.fly.length = 0 then 0 else q % V.fly.length
set_option maxRecDepth 100000 in
theorem pick_is (q : Nat) (h : WD w0 w C X zs V m) : Calls Tryz.prog 149 #[.pointer (some ⟨X.xb, 0, none⟩), .int .i64 (q : Int)] w fun e w' => e = .returned (.int .i64 (pickN V q : Int)) ∧ w' = w := by
  have HI := hid (inflight_is h)
  unfold pickN
  obtain ⟨n, hn⟩ : ∃ n, V.fly.length = n := ⟨_, rfl⟩
  rw [hn] at HI ⊢
  clear h hn
  by_cases h0 : n = 0
  · subst h0
    rw [if_pos rfl]
    go_enter Tryz.func149, Tryz.ntmps149
    go_wp2_with fail
    refine HI.out.mono ?_
    rintro e w1 ⟨rfl, hx⟩
    subst w1
    go_wp2_with fail
    go_ret
    exact ⟨rfl, rfl⟩
  · rw [if_neg h0]
    have e0 : ((n : Int) == 0) = false := beq_eq_false_iff_ne.2 (by omega)
    have e1 : Int.tmod (q : Int) (n : Int) = ((q % n : Nat) : Int) := by rw [Int.tmod_eq_emod_of_nonneg (by omega)]; simp
    go_enter Tryz.func149, Tryz.ntmps149
    go_wp2_with fail
    refine HI.out.mono ?_
    rintro e w1 ⟨rfl, hx⟩
    subst w1
    go_wp2_with fail
    go_ret
    exact ⟨rfl, rfl⟩
theorem pick_some {q : Nat} {f : F9} (hf : pickF V q = some f) : ∃ h : q % V.fly.length < V.fly.length, V.fly[q % V.fly.length]'h = f ∧ pickN V q = q % V.fly.length := by
  obtain ⟨h1, h2⟩ := List.getElem?_eq_some_iff.1 hf
  exact ⟨h1, h2, if_neg (by omega)⟩
theorem pick_none {q : Nat} (hf : pickF V q = none) : pickN V q = 0 ∧ V.fly.length = 0 := by
  have h1 := List.getElem?_eq_none_iff.1 hf
  by_cases h0 : V.fly.length = 0
  · exact ⟨if_pos h0, h0⟩
  · exact absurd (Nat.mod_lt q (Nat.pos_of_ne_zero h0)) (by omega)
/-- What play answers. -/
def PlayO (A : Nat → Addr) (w0 w : World) (C : Nat → Nat) (X : XB) (zs : List Int) (V : PX) (m mv q : Nat) (e : Ending) (w' : World) : Prop :=
  e = .returned (ev A (stepP zs V mv q).2) ∧ WOut w0 w w' C X zs (stepP zs V mv q).1 (m + 42)
theorem WOut.mono2 {w' : World} {V' : PX} {m' : Nat} (h : WOut w0 w w' C X zs V' m) (hm : m ≤ m') : WOut w0 w w' C X zs V' m' := by
  obtain ⟨C', X', h1, h2, h3, h4⟩ := h
  exact ⟨C', X', h1.mono hm, h2, h3, h4⟩
theorem play_drop (q : Nat) (h : WD w0 w C X zs V m) (hE : Held9 w0 A) (hm : m < 800000) : Calls Tryz.prog 45 #[.pointer (some ⟨X.xb, 0, none⟩), .int .i64 (pickN V q : Int)] w (PlayO A w0 w C X zs V m 7 q) := by
  have hs : stepP zs V 7 q = (match pickF V q with | some _ => (takeX V (q % V.fly.length), 0) | none => (V, 4)) := if_pos rfl
  cases hf : pickF V q with
  | some f =>
    obtain ⟨h1, -, h3⟩ := pick_some hf
    rw [h3]
    refine (drop_ok _ h h1 (by omega)).mono ?_
    rintro e w' ⟨rfl, ho⟩
    unfold PlayO
    rw [hs, hf]
    exact ⟨rfl, ho.mono2 (by omega)⟩
  | none =>
    obtain ⟨h1, h2⟩ := pick_none hf
    rw [h1]
    refine (drop_no _ h hE (by rw [h2]; omega)).mono ?_
    rintro e w' ⟨rfl, rfl⟩
    unfold PlayO
    rw [hs, hf]
    exact ⟨rfl, h.out (Below.refl _ _) (by omega)⟩
theorem play_twice (q : Nat) (h : WD w0 w C X zs V m) (hE : Held9 w0 A) (hm : m < 800000) : Calls Tryz.prog 47 #[.pointer (some ⟨X.xb, 0, none⟩), .int .i64 (pickN V q : Int)] w (PlayO A w0 w C X zs V m 8 q) := by
  have hs : stepP zs V 8 q = (match pickF V q with | some f => (twiceX V (q % V.fly.length) f, 0) | none => (V, 4)) := (if_neg (by decide)).trans (if_pos rfl)
  cases hf : pickF V q with
  | some f =>
    obtain ⟨h1, h2, h3⟩ := pick_some hf
    rw [h3]
    refine (twice_ok _ f h h1 h2 (by omega)).mono ?_
    rintro e w' ⟨rfl, ho⟩
    unfold PlayO
    rw [hs, hf]
    exact ⟨rfl, ho.mono2 (by omega)⟩
  | none =>
    obtain ⟨h1, h2⟩ := pick_none hf
    rw [h1]
    refine (twice_no _ h hE (by rw [h2]; omega)).mono ?_
    rintro e w' ⟨rfl, rfl⟩
    unfold PlayO
    rw [hs, hf]
    exact ⟨rfl, h.out (Below.refl _ _) (by omega)⟩
theorem play_deliver (mv q : Nat) (hv : mv < 7) (h : WD w0 w C X zs V m) (hE : Held9 w0 A) (hm : m < 800000) : Calls Tryz.prog 53 #[.pointer (some ⟨X.xb, 0, none⟩), .int .i64 (pickN V q : Int)] w (PlayO A w0 w C X zs V m mv q) := by
  have hs : stepP zs V mv q = (match pickF V q with | some f => (deliverX zs V (q % V.fly.length) f, 0) | none => (V, 4)) := by
    unfold stepP
    rw [if_neg (by omega), if_neg (by omega), if_neg (by omega), if_neg (by omega), if_neg (by omega), if_neg (by omega), if_neg (by omega), if_neg (by omega), if_neg (by omega)]
  cases hf : pickF V q with
  | some f =>
    obtain ⟨h1, h2, h3⟩ := pick_some hf
    rw [h3]
    refine (deliver_ok _ f h hE h1 h2 (by omega)).mono ?_
    rintro e w' ⟨rfl, ho⟩
    unfold PlayO
    rw [hs, hf]
    exact ⟨rfl, ho.mono2 (by omega)⟩
  | none =>
    obtain ⟨h1, h2⟩ := pick_none hf
    rw [h1]
    refine (deliver_no _ h hE (by rw [h2]; omega)).mono ?_
    rintro e w' ⟨rfl, rfl⟩
    unfold PlayO
    rw [hs, hf]
    exact ⟨rfl, h.out (Below.refl _ _) (by omega)⟩
theorem play_link (q : Nat) (h : WD w0 w C X zs V m) (hE : Held9 w0 A) (hm : m < 800000) : Calls Tryz.prog 49 #[.pointer (some ⟨X.xb, 0, none⟩), .int .i64 ((q % 7 : Nat) : Int), .int .i64 ((q / 7 % 6 : Nat) : Int), .bool (q % 2 == 0)] w (PlayO A w0 w C X zs V m 12 q) := by
  have hs : stepP zs V 12 q = (if q % 7 < zs.length ∧ q / 7 % 6 < zs.length then (linkX V (q % 7) (q / 7 % 6) (q % 2 == 0), 0) else (V, 2)) := rfl
  by_cases hf : q % 7 < zs.length ∧ q / 7 % 6 < zs.length
  · refine (link_ok _ _ _ h hf.1 hf.2 (by omega)).mono ?_
    rintro e w' ⟨rfl, ho⟩
    unfold PlayO
    rw [hs, if_pos hf]
    exact ⟨rfl, ho.mono2 (by omega)⟩
  · refine (link_no _ _ _ h hE (by omega)).mono ?_
    rintro e w' ⟨rfl, rfl⟩
    unfold PlayO
    rw [hs, if_neg hf]
    exact ⟨rfl, h.out (Below.refl _ _) (by omega)⟩
theorem play_begin (q : Nat) (h : WD w0 w C X zs V m) (hE : Held9 w0 A) (hm : m < 800000) : Calls Tryz.prog 28 #[.pointer (some ⟨X.xb, 0, none⟩), .int .i64 ((q % 7 : Nat) : Int), .int .i64 ((q / 7 % 6 : Nat) : Int)] w (PlayO A w0 w C X zs V m 9 q) := by
  refine (begin_any _ _ _ h hE (by omega) rfl).mono ?_
  rintro e w' ⟨rfl, ho⟩
  exact ⟨rfl, ho.mono2 (by omega)⟩
theorem play_tick (q : Nat) (h : WD w0 w C X zs V m) (hE : Held9 w0 A) (hm : m < 800000) : Calls Tryz.prog 39 #[.pointer (some ⟨X.xb, 0, none⟩), .int .i64 ((q % 7 : Nat) : Int)] w (PlayO A w0 w C X zs V m 10 q) := by
  refine (tick_any _ _ h hE (by omega) rfl).mono ?_
  rintro e w' ⟨rfl, ho⟩
  exact ⟨rfl, ho.mono2 (by omega)⟩
theorem play_refuse (q : Nat) (h : WD w0 w C X zs V m) (hE : Held9 w0 A) (hm : m < 800000) : Calls Tryz.prog 37 #[.pointer (some ⟨X.xb, 0, none⟩), .int .i64 ((q % 7 : Nat) : Int), .int .i64 ((q / 7 % 6 : Nat) : Int)] w (PlayO A w0 w C X zs V m 11 q) := by
  refine (refuse_any _ _ _ h hE (by omega) rfl).mono ?_
  rintro e w' ⟨rfl, ho⟩
  exact ⟨rfl, ho.mono2 (by omega)⟩
theorem play_cut (q : Nat) (h : WD w0 w C X zs V m) (hE : Held9 w0 A) : Calls Tryz.prog 51 #[.pointer (some ⟨X.xb, 0, none⟩), .int .i64 ((q % 7 : Nat) : Int), .int .i64 ((q % 40 : Nat) : Int)] w (PlayO A w0 w C X zs V m 13 q) := by
  have hs : stepP zs V 13 q = (if q % 7 < zs.length then cutX V (q % 7) ((q % 40 : Nat) : Int) else V, cCut zs.length V ((q % 7 : Nat) : Int) ((q % 40 : Nat) : Int)) := rfl
  refine (cut_any _ _ _ h hE (by omega) rfl).mono ?_
  rintro e w' ⟨rfl, ho⟩
  unfold PlayO
  rw [hs]
  refine ⟨rfl, ?_⟩
  by_cases hc : q % 7 < zs.length
  · rw [if_pos (by omega)] at ho
    show WOut w0 w w' C X zs (if q % 7 < zs.length then _ else _) _
    rw [if_pos hc]
    exact ho.mono2 (by omega)
  · rw [if_neg (by omega)] at ho
    show WOut w0 w w' C X zs (if q % 7 < zs.length then _ else _) _
    rw [if_neg hc]
    exact ho.mono2 (by omega)
theorem play_down (q : Nat) (h : WD w0 w C X zs V m) (hE : Held9 w0 A) : Calls Tryz.prog 41 #[.pointer (some ⟨X.xb, 0, none⟩), .int .i64 ((q % 7 : Nat) : Int)] w (PlayO A w0 w C X zs V m 14 q) := by
  refine (down_any _ _ h hE rfl).mono ?_
  rintro e w' ⟨rfl, ho⟩
  exact ⟨rfl, ho.mono2 (by omega)⟩
theorem play_wake (q : Nat) (h : WD w0 w C X zs V m) (hE : Held9 w0 A) : Calls Tryz.prog 43 #[.pointer (some ⟨X.xb, 0, none⟩), .int .i64 ((q % 7 : Nat) : Int)] w (PlayO A w0 w C X zs V m 15 q) := by
  refine (wake_any _ _ h hE rfl).mono ?_
  rintro e w' ⟨rfl, ho⟩
  exact ⟨rfl, ho.mono2 (by omega)⟩
end
end Go.Proofs.YtdpemmmbkjmplacGreatDoor
