/-
  slices.Insert of one frame: where there is no room.
  WALKS of package world: Twice.
  PLAIN: every step of a world keeps what stands: a delivery, a tick, a begin, and all the others.
  WALKS of package world: Link.
  THE LAWS' act: one step of a world, whatever it is called; each step keeps what stands.
  WALK of the laws' act.
  WALK of the laws' backEvents.
  STATES IN MEMORY: a slice's states one by one, appended to a row of one's own; OwnStates; a slice's tail.
  THE DOCUMENT's MayOf, where it says yes.
  PLAIN: events: the first that is not well, as the document tells it, and by what the program keeps of those ahead (an end and a set of sites a deal).
-/
import Derived.Test.YtdpemmmbkjmplabGreatDoorBa10
import Derived.Test.YtdpemmmbkjmplabGreatDoorBa9
import Derived.Test.YtdpemmmbkjmplabGreatDoorBa7
import Derived.Test.YtdpemmmbkjmplabGreatDoorBa8
import Derived.Test.YtdpemmmbkjmplabGreatDoorBa6
import Derived.Test.YtdpemmmbkjmplabGreatDoorBa1
import Derived.Lib.AppendZerosOnto
import Derived.Deep.RegionHeldLaw
import Derived.Deep.RegionLaw
import Derived.Laws.AppendOwn
import Derived.Laws.AppendOwnNone
import Derived.Laws.OwnMore
namespace Go.Proofs.YtdpemmmbkjmplabGreatDoor
open Go.RowKit

theorem zeroC_size (k : Nat) : (Builtin.zeroCells (frV 0 0 0 0 0 false 0 0 0).cells k).size = k * 9 := by rw [size_zeroCells]; rfl
set_option maxHeartbeats 4000000 in
set_option maxRecDepth 100000 in
theorem ins_grow (base b o n c i vb : Nat) (cur : Array Value) (L : List F9) (F : F9) (w : World) (hb : w.heap[b]? = some (.cells cur 93 (0, 0))) (hbase : base ≤ w.heap.size) (hL : L.length = n) (hnc : n ≤ c) (hroom : c < n + 1) (hbig : n ≤ 1000000000000) (htk : ∀ j, j < n * 9 → cur[o + j]? = (frCells L)[j]?) (hi : i < n) (hvb : w.heap[vb]? = some (.cells (f9L F).toArray 93 (0, 0))) :
    Calls Tryz.prog 86 #[.slice (some ⟨b, o, none⟩) n c, .int .i64 (i : Int), .slice (some ⟨vb, 0, none⟩) 1 1] w fun e w' => ∃ G, e = .returned (.slice (some ⟨w.heap.size, 0, none⟩) (n + 1) G) ∧ w'.ownsRow base 93 9 (.slice (some ⟨w.heap.size, 0, none⟩) (n + 1) G) (n + 1) (frCells (insL L i F)) ∧ Below w.heap.size w w' := by
  obtain ⟨i0, hi0, hz0, hz1, hz2⟩ := info_parts Tryz.infoFq
  have hbw := row_ltJ hb
  have hvw := row_ltJ hvb
  have hcell : ∀ x, x < n * 9 → w.cell? ⟨b, o + x, none⟩ = (frCells L)[x]? := fun x hx => by
    rw [cell_of_row _ _ _ _ _ _ hb, htk x hx]
  have hLl := frCells_length L
  have hdl : (frCells (L.drop i)).length = (n - i) * 9 := by rw [frCells_length, List.length_drop, hL]
  have htl : (frCells (L.take i)).length = i * 9 := by rw [frCells_length, List.length_take, hL, Nat.min_eq_left (by omega)]
  have hkk : (n : Int) + 1 - (i : Int) = ((n + 1 - i : Nat) : Int) := by omega
  have hik : i + (n + 1 - i) = n + 1 := by omega
  have hold : (Builtin.firstCells i0.size i (.slice (some ⟨b, o, none⟩) i c)).run Tryz.prog w.drew = .ok (frCells (L.take i)).toArray w.drew := by
    rw [hz1]
    exact run_firstCells_some w.drew 9 i ⟨b, o, none⟩ i c (frCells (L.take i)) htl (fun j v hj => by
      have hjl := (List.getElem?_eq_some_iff.1 hj).1
      rw [htl] at hjl
      rw [addr_add]
      show w.cell? ⟨b, o + j, none⟩ = some v
      rw [hcell _ (by omega), ← hj, frCells_take, List.getElem?_take_of_lt hjl])
  have hrz : ∀ ty, (Builtin.append_ #[34, 3] ty #[.slice (some ⟨b, o, none⟩) i c, .int .i64 ((n : Int) + 1 - (i : Int))]).run Tryz.prog w =
      .ok (.slice (some ⟨w.heap.size, 0, none⟩) (n + 1) (grownCap w (n + 1) c 93)) (w.drew.alloc (.cells ((frCells (L.take i)).toArray ++ Builtin.zeroCells (frV 0 0 0 0 0 false 0 0 0).cells (n + 1 - i) ++ Builtin.zeroCells (frV 0 0 0 0 0 false 0 0 0).cells (grownCap w (n + 1) c 93 - (n + 1))) 93)) := fun ty => by
    have h := Lib.run_append_grow_zeros w 34 3 ty 93 i0 _ .i64 .i64 Tryz.underlying34 Tryz.underlying3 hi0 hz0 (some ⟨b, o, none⟩) i c (frCells (L.take i)) hold (n + 1 - i) (by omega) (by rw [hz1]; omega) (by omega) (by omega) (by rw [hz2]; omega) (by rw [hz2, hik]; exact growslice_fits hroom (by omega))
    rw [hik] at h
    rw [hkk]
    exact h
  obtain ⟨G, hG⟩ : ∃ G, G = grownCap w (n + 1) c 93 := ⟨_, rfl⟩
  obtain ⟨ROW, hROW⟩ : ∃ ROW : Array Value, ROW = (frCells (L.take i)).toArray ++ Builtin.zeroCells (frV 0 0 0 0 0 false 0 0 0).cells (n + 1 - i) ++ Builtin.zeroCells (frV 0 0 0 0 0 false 0 0 0).cells (G - (n + 1)) := ⟨_, rfl⟩
  rw [← hG] at hrz
  rw [← hROW] at hrz
  have hGn : n + 1 ≤ G := by rw [hG]; exact grownCap_ge w _ _ _
  have hGm : G ≤ maxLen := by rw [hG]; exact grownCap_le_maxLen w (n + 1) c 93 (by unfold maxLen; omega)
  have hRl : ROW.size = G * 9 := by
    rw [hROW, Array.size_append, Array.size_append, zeroC_size, zeroC_size, List.size_toArray, htl]; omega
  have hRt : ROW.toList.take (i * 9) = frCells (L.take i) := by
    rw [hROW, Array.toList_append, Array.toList_append, List.append_assoc, List.toList_toArray, ← htl]
    exact List.take_left
  obtain ⟨W1, hW1⟩ : ∃ W1, W1 = w.drew.alloc (.cells ROW 93) := ⟨_, rfl⟩
  rw [← hW1] at hrz
  have hr1 : W1.heap[w.heap.size]? = some (.cells ROW 93 (0, 0)) := by rw [hW1]; exact heap_alloc_new w.drew _
  have hv1 : W1.heap[vb]? = some (.cells (f9L F).toArray 93 (0, 0)) := by rw [hW1]; exact (Below.heap_alloc w.drew _ _ hvw).trans hvb
  have hb1' : W1.heap[b]? = some (.cells cur 93 (0, 0)) := by rw [hW1]; exact (Below.heap_alloc w.drew _ _ hbw).trans hb
  have hB1 : Below w.heap.size w W1 := by rw [hW1]; exact (Below.refl _ _).drew.alloc (Nat.le_refl _) _
  have hr2 := row_setCells (f9L F) (i * 9) W1 ROW hr1 (by rw [hRl, f9L_length]; omega)
  have hk2 := kept_setCells w.heap.size (f9L F) (i * 9) W1
  obtain ⟨W2, hW2⟩ : ∃ W2, W2 = W1.setCells w.heap.size (i * 9) (f9L F) := ⟨_, rfl⟩
  rw [← hW2] at hr2 hk2
  have hs2 : (ROW.toList.take (i * 9) ++ f9L F ++ ROW.toList.drop (i * 9 + (f9L F).length)).length = G * 9 := by
    rw [List.length_append, List.length_append, List.length_take, List.length_drop, f9L_length, Array.length_toList, hRl]; omega
  have hb2' : W2.heap[b]? = some (.cells cur 93 (0, 0)) := hk2.row hb1' (fun e => by have : b = w.heap.size := e; omega)
  have hcpA : ∀ ty dc, (Builtin.copy_ #[34, 34] ty #[.slice (some ⟨w.heap.size, i * 9, none⟩) (n + 1 - i) dc, .slice (some ⟨vb, 0, none⟩) 1 1]).run Tryz.prog W1 = .ok (goInt 1) W2 := fun ty dc => by
    rw [hW2]
    exact run_copy_frs W1 34 ty w.heap.size (i * 9) (n + 1 - i) dc ⟨vb, 0, none⟩ 1 1 1 (f9L F) (by simp only [Nat.min_def]; split <;> omega) rfl
      (fun j v hj => by rw [addr_add, cell_of_row _ _ _ _ _ _ hv1, List.getElem?_toArray, Nat.zero_add]; exact hj)
      (fun j hj => by rw [f9L_length] at hj; rw [cell_of_row _ _ _ _ _ _ hr1, Array.getElem?_eq_getElem (by rw [hRl]; omega)]; rfl) (fun j _ => frozen_of_row _ _ _ _ _ hr1) (f9_oneQ F)
  have hcpB : ∀ ty dc sc, (Builtin.copy_ #[34, 34] ty #[.slice (some ⟨w.heap.size, (i + 1) * 9, none⟩) (n - i) dc, .slice (some ⟨b, o + i * 9, none⟩) (n - i) sc]).run Tryz.prog W2.drew = .ok (goInt ((n - i : Nat) : Int)) (W2.drew.setCells w.heap.size ((i + 1) * 9) (frCells (L.drop i))) := fun ty dc sc =>
    run_copy_frs W2.drew 34 ty w.heap.size ((i + 1) * 9) (n - i) dc ⟨b, o + i * 9, none⟩ (n - i) sc (n - i) (frCells (L.drop i)) (by simp only [Nat.min_def]; split <;> omega) hdl
      (fun j v hj => by
        have hjl := (List.getElem?_eq_some_iff.1 hj).1
        rw [hdl] at hjl
        rw [addr_add]
        show W2.cell? ⟨b, o + i * 9 + j, none⟩ = some v
        rw [cell_of_row _ _ _ _ _ _ hb2', ← hj, frCells_drop, List.getElem?_drop, ← htk _ (by omega), Nat.add_assoc])
      (fun j hj => by
        rw [hdl] at hj
        show (W2.cell? _).isSome = true
        rw [cell_of_row _ _ _ _ _ _ hr2, List.getElem?_toArray, List.getElem?_eq_getElem (by rw [hs2]; omega)]; rfl) (fun j _ => frozen_of_row W2 _ _ _ _ hr2) (frCells_one _)
  have hr3 := row_setCells (frCells (L.drop i)) ((i + 1) * 9) W2.drew _ (show W2.drew.heap[w.heap.size]? = _ from hr2) (by rw [List.size_toArray, hs2, hdl]; omega)
  have HK3 : Hid (Below w.heap.size w (W2.drew.setCells w.heap.size ((i + 1) * 9) (frCells (L.drop i)))) := by
    have h1 : Kept (In1 w.heap.size) W1 (W2.drew.setCells w.heap.size ((i + 1) * 9) (frCells (L.drop i))) := (hk2.trans (Kept.refl _ W2).drew).trans (kept_setCells w.heap.size _ _ _)
    exact h1.below hB1.size (fun x hx => by rw [show x = w.heap.size from hx]; exact Nat.le_refl _) hB1
  have HF : Hid ((W2.drew.setCells w.heap.size ((i + 1) * 9) (frCells (L.drop i))).ownsRow base 93 9 (.slice (some ⟨w.heap.size, 0, none⟩) (n + 1) G) (n + 1) (frCells (insL L i F))) := by
    have hil : (insL L i F).length = n + 1 := by unfold insL; rw [List.length_append, List.length_take, List.length_cons, List.length_drop, hL]; omega
    refine ⟨by rw [frCells_length, hil], .inr ⟨w.heap.size, G, _, rfl, hbase, hr3, hGn, hGm, ?_, ?_⟩⟩
    · rw [List.size_toArray, List.length_append, List.length_append, List.length_take, List.length_drop, List.toList_toArray, hs2, hdl]; omega
    · rw [List.toList_toArray, List.toList_toArray, insL_cells, hRt, ← frCells_take, ← frCells_drop]
      have hA : (frCells (L.take i) ++ f9L F ++ ROW.toList.drop (i * 9 + (f9L F).length)).take ((i + 1) * 9) = frCells (L.take i) ++ f9L F := by
        rw [show (i + 1) * 9 = (frCells (L.take i) ++ f9L F).length by rw [List.length_append, htl, f9L_length]; omega]
        exact List.take_left
      rw [hA]
      have hlen : (frCells (L.take i) ++ f9L F ++ frCells (L.drop i)).length = (n + 1) * 9 := by
        rw [List.length_append, List.length_append, htl, f9L_length, hdl]; omega
      rw [← hlen]
      exact List.take_left
  have hz3 : (c : Int) < (n : Int) + 1 := by omega
  have hGi : ¬ (G = i) := by omega
  have hGim : ¬ (G = i + 1) := by omega
  have hci : ¬ (c = i) := by omega
  have hw1 : IntKind.i64.wrap ((i : Int) + 1) = (i : Int) + 1 := by rw [IntKind.wrap_i64]; omega
  have hb1 : (0 : Int) ≤ (i : Int) + 1 := by omega
  have htn : ((i : Int) + 1).toNat = i + 1 := by omega
  have hb5 : (i : Int) ≤ (n : Int) := by omega
  have hb6 : (i : Int) ≤ (n : Int) + 1 := by omega
  have hG63 : G ≤ 9223372036854775807 := by unfold maxLen at hGm; omega
  have HW1 := hid hW1
  have hW2' := hW2.symm
  clear hcell hold hkk hik hROW hG hRl hRt hr1 hv1 hb1' hr2 hk2 hs2 hb2' hr3 hb hvb htk hLl hdl htl hB1 hW1 hW2 hGm
  go_enter Tryz.func86, Tryz.ntmps86
  go_wp2_with (first
    | (at_builtin; refine Lib.wpList_append_run _ rfl _ _ _ _ rfl _ _ rfl rfl _ _ (hrz _) ?_)
    | (at_builtin; refine wpList_copy_runF _ rfl _ _ 34 34 rfl _ _ rfl rfl (hcpA _ _) ?_))
  go_region_law (refine step_copy_runF rfl _ _ 34 34 rfl _ _ (by simp [Act.eval, Act.put]) (by simp [Act.eval, Act.put]) (hcpB _ _ _) ?_)
  go_wp2
  go_ret
  exact ⟨G, rfl, HF.out, HK3.out⟩
end Go.Proofs.YtdpemmmbkjmplabGreatDoor
namespace Go.Proofs.YtdpemmmbkjmplabGreatDoor
open Go.RowKit

/-- Insert, wherever the row may lie behind it. -/
theorem ins_any (base b o n c i vb : Nat) (cur : Array Value) (L : List F9) (F : F9) (w : World) (hb : w.heap[b]? = some (.cells cur 93 (0, 0))) (hbase : base ≤ b) (hL : L.length = n) (hnc : n ≤ c) (hcm : c ≤ maxLen) (hsz : o + c * 9 ≤ cur.size) (htk : ∀ j, j < n * 9 → cur[o + j]? = (frCells L)[j]?) (hbig : n ≤ 1000000000000) (hi : i < n) (hvb : w.heap[vb]? = some (.cells (f9L F).toArray 93 (0, 0))) (hne : vb ≠ b) :
    Calls Tryz.prog 86 #[.slice (some ⟨b, o, none⟩) n c, .int .i64 (i : Int), .slice (some ⟨vb, 0, none⟩) 1 1] w fun e w' => ∃ g o' G, e = .returned (.slice (some ⟨g, o', none⟩) (n + 1) G) ∧ OwnF w' base (.slice (some ⟨g, o', none⟩) (n + 1) G) (insL L i F) ∧ Kept (In1 b) w w' ∧ (g = b ∨ g = w.heap.size) := by
  by_cases hr : n + 1 ≤ c
  · refine (ins_room base b o n c i vb cur L F w hb hbase hL hr hcm hsz htk hi hvb hne).mono ?_
    rintro e w' ⟨h1, h2, h3⟩
    exact ⟨b, o, c, h1, h2, h3, .inl rfl⟩
  · refine (ins_grow base b o n c i vb cur L F w hb (by have := row_ltJ hb; omega) hL hnc (by omega) hbig htk hi hvb).mono ?_
    rintro e w' ⟨G, h1, h2, h3⟩
    refine ⟨_, 0, G, h1, OwnF.of_own ?_, Kept.of_below h3, .inr rfl⟩
    rw [insL_length L i F (by omega), hL]
    exact h2
section
variable {w0 w w' : World} {C C' : Nat → Nat} {K : NB} {X : XB} {i m m' : Nat} {zs : List Int} {N : PN} {V V' : PX} {A : Nat → Addr}
set_option maxRecDepth 100000 in
theorem twice_no (s : Int) (h : WD w0 w C X zs V m) (hE : Held9 w0 A) (hs : ¬ (0 ≤ s ∧ s < V.fly.length)) :
    Calls Tryz.prog 56 #[.pointer (some ⟨X.xb, 0, none⟩), .int .i64 s] w fun e w' => e = .returned (ev A 4) ∧ w' = w := by
  have H := hid h
  have HB := hid (decide_eq_false hs)
  have g3' : w.cell? ⟨1, 0, none⟩ = some (.iface 222 (.pointer (some (A 3)))) := (h.held hE).var 3 (by decide)
  clear h hE hs
  go_enter Tryz.func56, Tryz.ntmps56
  go_wp2_with fail
  refine (flies_is s false H.out HB.out).mono ?_
  rintro e w1 ⟨rfl, hx⟩
  subst w1
  go_wp2_with fail
  go_ret
  exact ⟨rfl, rfl⟩
theorem XI.twice {k : Nat} {f : F9} (h : XI zs V m) (hf : f ∈ V.fly) : XI zs (twiceX V k f) (m + 1) := by
  refine ⟨h.he, fun i hi => (h.nd i hi).mono (Nat.le_succ _), fun x hx => ?_, ?_, h.ev⟩
  · rcases List.mem_append.1 hx with g | g
    · exact h.fr x (List.mem_of_mem_take g)
    · rcases List.mem_cons.1 g with g | g
      · rw [g]; exact h.fr f hf
      · exact h.fr x (List.mem_of_mem_drop g)
  · have := h.fl
    show (V.fly.take k ++ f :: V.fly.drop k).length ≤ _
    rw [List.length_append, List.length_take, List.length_cons, List.length_drop]; omega
/-- The frame was inserted and the slice stored. -/
theorem WD.twiced {k g o c g' o' G : Nat} {f : F9} {W : World} (h : WD w0 w C X zs V m) (hv : X.fv = .slice (some ⟨g, o, none⟩) V.fly.length c) (hk : k < V.fly.length) (hf : f ∈ V.fly) (hb : Below w.heap.size w W) (hown : OwnF w' w0.heap.size (.slice (some ⟨g', o', none⟩) (V.fly.length + 1) G) (insL V.fly k f)) (hkk : Kept (In1 g) W w') (hg : g' = g ∨ g' = W.heap.size) :
    WOut w0 w (w'.setCell ⟨X.xb, 3, none⟩ (.slice (some ⟨g', o', none⟩) (V.fly.length + 1) G)) C X zs (twiceX V k f) (m + 1) := by
  have hW := h.later hb
  have cg : C g = 1005 := h.cf g (by rw [hv]; rfl)
  have hcx := h.cx
  have hgx : g ≠ X.xb := fun e => by rw [e] at cg; omega
  have hrow : w'.heap[X.xb]? = some (.cells (wdC X zs.length).toArray 73 (0, 0)) := hkk.row hW.row (fun e => hgx (show X.xb = g from e).symm)
  have hxl := row_ltJ hW.row
  have hS : ∀ x, (x = X.xb ∨ x = g) → C x = 1001 ∨ C x = 1005 ∨ C x = 1006 := fun x hx => by
    rcases hx with rfl | rfl
    · exact .inl h.cx
    · exact .inr (.inl cg)
  have hK2 : Kept (fun x => x = X.xb ∨ x = g) W (w'.setCell ⟨X.xb, 3, none⟩ (.slice (some ⟨g', o', none⟩) (V.fly.length + 1) G)) := (hkk.mono (fun x hx => .inr hx)).setCell (.inl rfl) _
  have hg'lt : g' < w'.heap.size := (hown.lt _ rfl).2
  have hg'x : g' ≠ X.xb := fun e => by rcases hg with q | q <;> omega
  obtain ⟨C1, hC1, hl1, hcg1⟩ : ∃ C1 : Nat → Nat, (∀ x, x < W.heap.size → C1 x = C x) ∧ (∀ x, W.heap.size ≤ x → C1 x < 2000 → x < (w'.setCell ⟨X.xb, 3, none⟩ (.slice (some ⟨g', o', none⟩) (V.fly.length + 1) G)).heap.size) ∧ C1 g' = 1005 := by
    rcases hg with q | q
    · exact ⟨C, fun _ _ => rfl, fun x hx hc => by have := hW.lt x hc; omega, by rw [q]; exact cg⟩
    · refine ⟨paint C g' 1005, fun x hx => paint_ne (by omega), fun x hx hc => ?_, paint_at _ _ _⟩
      by_cases e : x = g'
      · rw [e]; simpa using hg'lt
      · rw [paint_ne e] at hc
        have := hW.lt x hc; omega
  have hl : (V.fly.take k ++ f :: V.fly.drop k).length = V.fly.length + 1 := by rw [List.length_append, List.length_take, List.length_cons, List.length_drop]; omega
  refine WOut.step (C1 := C) (X1 := X) rfl (Kept.of_below hb) (fun _ _ => rfl) ?_
  refine ⟨C1, { X with fv := .slice (some ⟨g', o', none⟩) (V.fly.length + 1) G }, ?_, rfl, hK2.mono (fun x hx => by show C x < 2000; rcases hS x hx with q | q | q <;> omega), hC1⟩
  refine hW.own (ev := X.ev) (E := V.evs) (F := V.fly.take k ++ f :: V.fly.drop k) hK2 hS hC1 hl1 ?_ ?_ ?_ ?_ ?_ (Nat.le_succ _) (h.inv.twice hf)
  · rw [heap_setCell_same w' X.xb 3 _ _ _ hrow]; rfl
  · exact hown.kept ((Kept.refl (In1 X.xb) w').set1 3 _) (fun y hy e => by
      have : g' = y := Option.some.inj hy
      rw [← this] at e
      exact hg'x e)
  · exact own_kept hW.evs hK2 (fun y hy e => by
      have h6 := h.ce y hy
      rcases e with rfl | rfl
      · omega
      · omega)
  · intro y hy
    have : g' = y := Option.some.inj hy
    rw [← this]; exact hcg1
  · intro y hy
    rw [hC1 y (own_lt hW.evs hy)]
    exact h.ce y hy
set_option maxHeartbeats 2000000 in
set_option maxRecDepth 100000 in
theorem twice_ok (j : Nat) (F : F9) (h : WD w0 w C X zs V m) (hj : j < V.fly.length) (hF : V.fly[j]'hj = F) (hm : m < 1000000) :
    Calls Tryz.prog 56 #[.pointer (some ⟨X.xb, 0, none⟩), .int .i64 (j : Int)] w fun e w' => e = .returned .nilIface ∧ WOut w0 w w' C X zs (twiceX V j F) (m + 1) := by
  obtain ⟨g, o, cap, cur, hv, h2, h3, h4, h5, h6, h7⟩ := h.flyForm (by omega)
  have hcl := fly_cells h3 h7 hj
  rw [hF] at hcl
  obtain ⟨b0, b1, b2, b3, b4, b5, b6, b7, b8⟩ := nineO (o := o + j * 9) hcl
  obtain ⟨-, -, -, c3, -⟩ := h.cells
  have cg : C g = 1005 := h.cf g (by rw [hv]; rfl)
  have HMem : Hid (F ∈ V.fly) := by rw [← hF]; exact List.getElem_mem _
  have H := hid h
  have HB : Hid (decide (0 ≤ (j : Int) ∧ (j : Int) < V.fly.length) = true) := decide_eq_true (by omega)
  have hbig : V.fly.length ≤ 1000000000000 := by have := h.inv.fl; omega
  obtain ⟨n, hn⟩ : ∃ n, Hid (V.fly.length = n) := ⟨_, rfl⟩
  have HV := hid hv
  rw [hv] at c3
  obtain ⟨W, HW⟩ : ∃ W, Hid (w.drew.alloc (.cells (f9L F).toArray 93) = W) := ⟨_, rfl⟩
  have HBW : Hid (Below w.heap.size w W) := by rw [← HW.out]; exact (Below.refl _ _).drew.alloc (Nat.le_refl _) _
  have HRW : Hid (W.heap[w.heap.size]? = some (.cells (f9L F).toArray 93 (0, 0))) := by rw [← HW.out]; exact heap_alloc_new w.drew _
  have hW := HW.out
  have c3W := cell_later HBW.out c3
  have HIns := hid (ins_any w0.heap.size g o n cap j w.heap.size cur V.fly F W ((HBW.out.block _ (row_ltJ h3)).trans h3) h2 hn.out (by rw [← hn.out]; exact h4) h5 h6 (by rw [← hn.out]; exact h7) (by rw [← hn.out]; exact hbig) (by rw [← hn.out]; exact hj) HRW.out (by have := row_ltJ h3; omega))
  have HJ := hid hj
  rw [hn.out] at c3 c3W hbig hj
  have HX : Hid (∀ w', Kept (In1 g) W w' → w'.cell? ⟨X.xb, 3, none⟩ = some (.slice (some ⟨g, o, none⟩) n cap) ∧ w'.frozen? ⟨X.xb, 3, none⟩ = false) := by
    intro w' hkk
    have hr := hkk.row (H.out.later HBW.out).row (fun e => by have h1 := H.out.cx; rw [show X.xb = g from e, cg] at h1; omega)
    exact ⟨by rw [cell_of_row _ _ _ _ _ _ hr, ← hn.out, ← HV.out]; rfl, frozen_of_row _ _ _ _ _ hr⟩
  obtain ⟨ff, ft, fd, fk, fa, fy, fp1, fp2, fp3⟩ := F
  simp only at b0 b1 b2 b3 b4 b5 b6 b7 b8
  have e0 := cell_later HBW.out b0
  have hW' : w.drew.alloc (.cells #[.int .i64 ff, .int .i64 ft, .int .i64 fd, .int .i64 fk, .int .i64 fa, .bool fy, .int .i64 fp1, .int .i64 fp2, .int .i64 fp3] 93) = W := hW
  have HXB : Hid (X.xb < W.heap.size) := by have := row_ltJ (H.out.later HBW.out).row; exact this
  clear h hv h2 h3 h4 h5 h6 h7 cg hcl hF hW
  go_enter Tryz.func56, Tryz.ntmps56
  go_wp2_with fail
  refine (flies_is (j : Int) true H.out HB.out).mono ?_
  rintro e w1 ⟨rfl, hx⟩
  subst w1
  go_wp2_with fail
  go_region_with ((go_at_call 86; (with_reducible refine HIns.out.mono ?_); rintro e w2 ⟨g', o', G, rfl, ho2, hk2, hg2⟩; obtain ⟨q3, qz⟩ := HX.out w2 hk2; have HO := hid (And.intro ho2 (And.intro hk2 hg2)); clear ho2 hk2 hg2))
  all_goals go_wp2_with fail
  all_goals go_ret
  all_goals refine ⟨rfl, ?_⟩
  all_goals rw [← hn.out] at HO ⊢
  all_goals exact H.out.twiced HV.out HJ.out HMem.out HBW.out HO.out.1 HO.out.2.1 HO.out.2.2
end
end Go.Proofs.YtdpemmmbkjmplabGreatDoor
namespace Go.Proofs.YtdpemmmbkjmplabGreatDoor
open Go.RowKit

section
variable {zs : List Int} {V V' : PX} {m : Nat} {g g' : Gh}
theorem XI.hear {i : Nat} {f : F9} (hX : XI zs V m) (hu : (V.nd i).l ≠ -2) (hF : FI zs.length f) (hm : m < 4000000000) (hi : i < zs.length) : XI zs (hearX V i f) (m + 1) := by
  have hh := hearN_hf (hX.nd i hi) hu hF hm
  refine ⟨hX.he, fun k hk => ?_, hX.fr, by have h1 : V.fly.length ≤ 1000 * m := hX.fl; show V.fly.length ≤ 1000 * (m + 1); omega, ?_⟩
  · show NI zs.length ((setNd V i (hearN (V.nd i) f)).nd k) (m + 1)
    by_cases e : k = i
    · subst e; rw [nd_at]; exact hh.ni
    · rw [nd_ne _ _ _ e]; exact (hX.nd k hk).mono (Nat.le_succ _)
  · show (noteE V.evs i f.d.toNat (stN (V.nd i) f.d.toNat).ph (stN (hearN (V.nd i) f) f.d.toNat).ph).length ≤ 500
    have := hX.ev
    unfold noteE
    split
    · rename_i hc
      rw [List.length_append, List.length_singleton]
      have := hc.2.2
      omega
    · exact this
theorem leadX_some {i d : Nat} {f : F9} {x : Int × PL} (hx : (V.nd i).ld d = some x) : leadX zs V i d f = setNd V i (setLd (V.nd i) d (x.1, (phear zs i d x.1 x.2 f).1)) ∧ leadO zs V i d f = outL i d x.1 zs.length (phear zs i d x.1 x.2 f).2 := by
  unfold leadX leadO
  rw [hx]
  exact ⟨rfl, rfl⟩
theorem leadX_none {i d : Nat} {f : F9} (hx : (V.nd i).ld d = none) : leadX zs V i d f = V ∧ leadO zs V i d f = [] := by
  unfold leadX leadO
  rw [hx]
  exact ⟨rfl, rfl⟩
theorem XI.lead {i d : Nat} {f : F9} (hX : XI zs V m) (hF : FI zs.length f) (hi : i < zs.length) (hd : d < 6) : XI zs (sendX (leadX zs V i d f) (leadO zs V i d f)) (m + 1) := by
  have n7 := (errW_zero hX.he).2.1
  cases hx : (V.nd i).ld d with
  | none =>
    rw [(leadX_none hx).1, (leadX_none hx).2, sendX_nil]
    exact hX.mono (Nat.le_succ _)
  | some x =>
    rw [(leadX_some hx).1, (leadX_some hx).2]
    obtain ⟨h1, h2, h3, h4, h5⟩ := (hX.nd i hi).ld d x hx
    have hp := hF.ok.2.2.2.2.2.2.1
    refine XI.send (hX.node ((hX.nd i hi).leadHear hx (phear_st h3) (phear_seen h4.1 h4.2 (by omega) (by omega)) (h5.hear n7)) (Nat.le_refl _)) (outL_fi hi n7 hd h2) ?_
    have := outL_le i d x.1 zs.length (phear zs i d x.1 x.2 f).2
    omega
/-- A lead hears a frame, and sends. -/
theorem AX.lead {i d : Nat} {f : F9} (h : AX zs V) (hX : XI zs V m) (hi : i < zs.length) (hfr : ∀ g, GX zs V d g → Fr zs (stD V d) g f) :
    AX zs (sendX (leadX zs V i d f) (leadO zs V i d f)) ∧ Mo zs V (sendX (leadX zs V i d f) (leadO zs V i d f)) := by
  cases hx : (V.nd i).ld d with
  | none =>
    rw [(leadX_none hx).1, (leadX_none hx).2, sendX_nil]
    exact ⟨h, Mo.same hX fun _ _ => rfl⟩
  | some x =>
    rw [(leadX_some hx).1, (leadX_some hx).2]
    have hst : ∀ k e, stN ((sendX (setNd V i (setLd (V.nd i) d (x.1, (phear zs i d x.1 x.2 f).1))) (outL i d x.1 zs.length (phear zs i d x.1 x.2 f).2)).nd k) e = stN (V.nd k) e := fun k e => setLd_st V i d _ k e
    refine ⟨⟨fun e he => ?_, h.ex.same hst rfl⟩, Mo.same hX hst⟩
    obtain ⟨g, hg⟩ := h.gx e he
    by_cases c : e = d
    · subst c
      obtain ⟨-, -, -, -, hpw⟩ := (hX.nd i hi).ld e x hx
      obtain ⟨g', k1, k2⟩ := lead_gx hg hX.he hx hpw hi hX.fr (hfr g hg)
      exact ⟨g', k1.send fun o ho _ => k2 o ho⟩
    · refine ⟨g, (hg.other c).send fun o ho hoe => ?_⟩
      exfalso
      cases hy : (phear zs i d x.1 x.2 f).2 with
      | none => rw [hy] at ho; cases ho
      | some y =>
        rw [hy] at ho
        have := (toL_mem ho).2.2.2.2.2
        omega
theorem AX.take (h : AX zs V) (k : Nat) : AX zs (takeX V k) := h.quiet (fun _ _ => rfl) (fun _ _ _ _ x => x) (fun _ hf => List.mem_of_mem_eraseIdx hf) rfl
theorem AX.deliver {k : Nat} {f : F9} (h : AX zs V) (hX : XI zs V m) (hm : m < 4000000000) (hf : f ∈ V.fly) : AX zs (deliverX zs V k f) ∧ Mo zs V (deliverX zs V k f) := by
  have hF := hX.fr f hf
  have h1 := h.take k
  have hX1 : XI zs (takeX V k) m := hX.take
  have hmo : Mo zs V (takeX V k) := Mo.same hX fun _ _ => rfl
  have ht : f.t.toNat < zs.length := by have := hF.t0; have := hF.t1; omega
  have hd6 : 0 ≤ f.d ∧ f.d ≤ 5 := hF.ok.2.2.1
  unfold deliverX
  split
  · rename_i hr
    have hu : ((takeX V k).nd f.t.toNat).l ≠ -2 := by
      show (V.nd f.t.toNat).l ≠ -2
      unfold reachB at hr
      rw [Bool.and_eq_true] at hr
      have := hr.1
      unfold upN at this
      simpa using this
    have hfr : ∀ d g, GX zs V d g → f.d = (d : Int) → Fr zs (stD (takeX V k) d) g f := fun d g hg hd => hg.fr f hf hd
    have hfr2 : ∀ d, d < 6 → ∃ g, GX zs (takeX V k) d g ∧ (f.d = (d : Int) → Fr zs (stD (takeX V k) d) g f) := fun d hd => by
      obtain ⟨g, hg⟩ := h.gx d hd
      exact ⟨g, hg.quiet (fun _ => rfl) (fun _ _ _ x => x) (fun _ x => List.mem_of_mem_eraseIdx x), fun e => hg.fr f hf e⟩
    unfold arriveX arriveO
    split
    · -- a lead hears it
      cases hx : ((takeX V k).nd f.t.toNat).ld f.d.toNat with
      | none =>
        rw [(leadX_none hx).1, (leadX_none hx).2, sendX_nil]
        exact ⟨h1, hmo⟩
      | some x =>
        rw [(leadX_some hx).1, (leadX_some hx).2]
        generalize hN : (takeX V k) = V1 at *
        have hst : ∀ j e, stN ((sendX (setNd V1 f.t.toNat (setLd (V1.nd f.t.toNat) f.d.toNat (x.1, (phear zs f.t.toNat f.d.toNat x.1 x.2 f).1))) (outL f.t.toNat f.d.toNat x.1 zs.length (phear zs f.t.toNat f.d.toNat x.1 x.2 f).2)).nd j) e = stN (V1.nd j) e := fun j e => setLd_st V1 f.t.toNat f.d.toNat _ j e
        refine ⟨⟨fun e he => ?_, h1.ex.same hst rfl⟩, hmo.trans (Mo.same hX1 hst)⟩
        obtain ⟨g, hg, hgf⟩ := hfr2 e he
        by_cases c : e = f.d.toNat
        · have ce : f.d = (e : Int) := by omega
          obtain ⟨-, -, -, -, hpw⟩ := (hX1.nd _ ht).ld _ x hx
          rw [← c] at hx ⊢
          obtain ⟨g', k1, k2⟩ := lead_gx hg hX.he hx hpw ht hX1.fr (hgf ce)
          exact ⟨g', k1.send fun o ho _ => k2 o ho⟩
        · refine ⟨g, (hg.other c).send fun o ho hoe => ?_⟩
          exfalso
          cases hy : (phear zs f.t.toNat f.d.toNat x.1 x.2 f).2 with
          | none => rw [hy] at ho; cases ho
          | some y =>
            rw [hy] at ho
            have := (toL_mem ho).2.2.2.2.2
            omega
    · -- the site hears it
      have he := hear_ex (f := f) h1.ex (hX1.nd _ ht) hu hF hm ht hX1
      refine ⟨⟨fun d hd => ?_, he.1.same (fun _ _ => rfl) rfl⟩, hmo.trans he.2⟩
      obtain ⟨g, hg, hgf⟩ := hfr2 d hd
      obtain ⟨g', k1, -, -, k4⟩ := hear_gx hg (hX1.nd _ ht) hu hF hm ht hX1.fr hgf
      exact ⟨g', k1.send k4⟩
  · exact ⟨h1, hmo⟩
theorem fr_plain {s : Nat → St} {f : F9} (hk : f.k = 1 ∨ f.k = 3) : Fr zs s g f :=
  ⟨fun e => by omega, fun e => by omega, fun e => by omega, fun e => by omega, fun e => by omega, fun e => by omega, fun e => by omega⟩
theorem AX.begin {s d : Nat} (h : AX zs V) (hX : XI zs V m) : AX zs (beginX zs V s d) ∧ Mo zs V (beginX zs V s d) := by
  have hst : ∀ k e, stN ((beginX zs V s d).nd k) e = stN (V.nd k) e := fun k e => setLd_st V s d _ k e
  refine ⟨⟨fun e he => ?_, h.ex.same hst rfl⟩, Mo.same hX hst⟩
  obtain ⟨g, hg⟩ := h.gx e he
  refine ⟨g, GX.send ?_ fun f hf _ => fr_plain (.inl (toL_mem hf).1)⟩
  by_cases c : e = d
  · subst c; exact hg.newLead (le_new0 _ _ _)
  · exact hg.other c
theorem attempt_mod {n s : Nat} (hn : 1 ≤ n ∧ n ≤ 7) (hs : s < n) {a : Int} (ha : 0 ≤ a) : (attemptX n s a).toNat % n = s := by
  have h7 : n = 1 ∨ n = 2 ∨ n = 3 ∨ n = 4 ∨ n = 5 ∨ n = 6 ∨ n = 7 := by omega
  unfold attemptX
  rcases h7 with rfl | rfl | rfl | rfl | rfl | rfl | rfl <;> omega
theorem XI.try {s d : Nat} (hX : XI zs V m) (hs : s < zs.length) (hd : d < 6) (hu : (V.nd s).l ≠ -2) (hm : m < 1000000) : XI zs (tryX zs V s d (attemptX zs.length s (aboveN (V.nd s) d))) (m + 7) := by
  have n7 := (errW_zero hX.he).2.1
  have hbd := aboveN_bd (hX.nd s hs) hd
  have hat := attemptX_bd zs.length s (aboveN (V.nd s) d) (by omega)
  generalize attemptX zs.length s (aboveN (V.nd s) d) = a at hat
  by_cases hf : 1048576 < a
  · unfold tryX
    rw [if_pos hf]
    exact hX.mono (by omega)
  · have hF := electF_fi (a := a) hs n7 hd (by omega)
    have hh := hX.hear hu hF (by omega) hs
    rcases elect_ans (hX.nd s hs) hu hF (by omega) with ⟨u, -⟩ | ⟨u, f0, e⟩
    · unfold tryX
      rw [if_neg hf, if_pos u]
      exact hh.mono (by omega)
    · have hf0 : FI zs.length f0 := ansN_fi (hX.nd s hs) hu hF (by omega) rfl f0 (by rw [e]; exact List.mem_singleton.2 rfl)
      rw [← try_eq s d a f0 e hf u]
      have hu2 : ((hearX V s (electF s d a)).nd s).l ≠ -2 := by
        rw [hearX_nd]
        unfold upN at u
        simpa using u
      have h2 := hh.node (i := s) ((hh.nd s hs).putLead (d := d) (a := a) (P := P0) hu2 (by omega) (by decide) (by decide) (P0_w _)) (Nat.le_refl _)
      have h3 := XI.send h2 (electL_fi (a := a) hs n7 hd (by omega)).1 (electL_fi (a := a) hs n7 hd (by omega)).2
      exact (h3.lead hf0 hs hd).mono (by omega)
theorem AX.try {s d : Nat} (h : AX zs V) (hX : XI zs V m) (hs : s < zs.length) (hd : d < 6) (hu : (V.nd s).l ≠ -2) (hm : m < 1000000) :
    AX zs (tryX zs V s d (attemptX zs.length s (aboveN (V.nd s) d))) ∧ Mo zs V (tryX zs V s d (attemptX zs.length s (aboveN (V.nd s) d))) := by
  have n7 := errW_zero hX.he
  have hbd := aboveN_bd (hX.nd s hs) hd
  have hat := attemptX_bd zs.length s (aboveN (V.nd s) d) (by omega)
  have hmod := attempt_mod (n := zs.length) ⟨by omega, n7.2.1⟩ hs hbd.1
  have hpr : ((stN (V.nd s) d).pr : Int) ≤ aboveN (V.nd s) d := by
    unfold aboveN
    split
    · exact Int.le_refl _
    · exact Int.le_max_left _ _
  generalize attemptX zs.length s (aboveN (V.nd s) d) = a at hat hmod
  by_cases hf : 1048576 < a
  · unfold tryX
    rw [if_pos hf]
    exact ⟨h, Mo.same hX fun _ _ => rfl⟩
  · have hF := electF_fi (a := a) hs n7.2.1 hd (by omega)
    have hXh := hX.hear hu hF (by omega) hs
    have hh := hearN_hf (hX.nd s hs) hu hF (by omega : m < 4000000000)
    have hex := hear_ex (f := electF s d a) h.ex (hX.nd s hs) hu hF (by omega) hs hX
    have hgx : ∀ e, e < 6 → ∃ g g', GX zs V e g ∧ GX zs (hearX V s (electF s d a)) e g' ∧ g'.val = g.val ∧ ∀ b, b ∈ ansN s (V.nd s) (electF s d a) → b.d = (e : Int) → Fr zs (stD (hearX V s (electF s d a)) e) g' b := fun e he => by
      obtain ⟨g, hg⟩ := h.gx e he
      obtain ⟨g', k1, -, k3, k4⟩ := hear_gx hg (hX.nd s hs) hu hF (by omega) hs hX.fr fun _ => fr_plain (.inr rfl)
      exact ⟨g, g', hg, k1, k3, k4⟩
    rcases elect_ans (hX.nd s hs) hu hF (by omega) with ⟨u, -⟩ | ⟨u, f0, hans⟩
    · unfold tryX
      rw [if_neg hf, if_pos u]
      exact ⟨⟨fun e he => by obtain ⟨-, g', -, k1, -⟩ := hgx e he; exact ⟨g', k1⟩, hex.1⟩, hex.2⟩
    · have hf0 : FI zs.length f0 := ansN_fi (hX.nd s hs) hu hF (by omega) rfl f0 (by rw [hans]; exact List.mem_singleton.2 rfl)
      have hmem : f0 ∈ ansN s (V.nd s) (electF s d a) := by rw [hans]; exact List.mem_singleton.2 rfl
      have hfd : f0.d = (d : Int) := by
        have hm2 := hmem
        unfold ansN at hm2
        split at hm2
        · rw [List.mem_singleton] at hm2; rw [hm2]; rfl
        · cases hm2
      rw [← try_eq s d a f0 hans hf u]
      have hu2 : ((hearX V s (electF s d a)).nd s).l ≠ -2 := by
        rw [hearX_nd]
        unfold upN at u
        simpa using u
      have hc0 : (oHN (V.nd s) (electF s d a)).c = 0 := by
        have := hh.up
        rw [u] at this
        exact of_decide_eq_true this.symm
      have hnew : (stN ((hearX V s (electF s d a)).nd s) d).pr = a.toNat := by
        rw [hearX_nd]
        have := hh.yes hc0
        rw [show (electF s d a).d.toNat = d from Int.toNat_natCast d] at this
        rw [this]
        unfold gHN hearL
        rw [if_neg (by show ¬ ((3 : Int).toNat = 1); decide), if_pos (by show (3 : Int).toNat = 3; decide), if_pos ?_]
        · rfl
        · show (stN (V.nd s) ((d : Int).toNat)).pr < a.toNat
          rw [Int.toNat_natCast]
          omega
      have h2 := hXh.node (i := s) ((hXh.nd s hs).putLead (d := d) (a := a) (P := P0) hu2 (by omega) (by decide) (by decide) (P0_w _)) (Nat.le_refl _)
      have h3 := XI.send h2 (electL_fi (a := a) hs n7.2.1 hd (by omega)).1 (electL_fi (a := a) hs n7.2.1 hd (by omega)).2
      generalize hV1 : hearX V s (electF s d a) = V1 at *
      have hst6 : ∀ k e, stN ((sendX (setNd V1 s (setLd (V1.nd s) d (a, P0))) (electsL s d a zs.length)).nd k) e = stN (V1.nd k) e := fun k e => setLd_st V1 s d _ k e
      -- deal by deal: the lead is there, and hears its own site's answer
      have hx6 : ((sendX (setNd V1 s (setLd (V1.nd s) d (a, P0))) (electsL s d a zs.length)).nd s).ld d = some (a, P0) := by
        show ((setNd V1 s (setLd (V1.nd s) d (a, P0))).nd s).ld d = _
        rw [nd_at, ld_at]
      have hg6 : ∀ e, e < 6 → ∃ g', GX zs (sendX (setNd V1 s (setLd (V1.nd s) d (a, P0))) (electsL s d a zs.length)) e g' ∧ (e = d → Fr zs (stD (sendX (setNd V1 s (setLd (V1.nd s) d (a, P0))) (electsL s d a zs.length)) e) g' f0) := fun e he => by
        obtain ⟨g, g', hg, k1, k3, k4⟩ := hgx e he
        have hes : stD (sendX (setNd V1 s (setLd (V1.nd s) d (a, P0))) (electsL s d a zs.length)) e = stD V1 e := funext fun k => hst6 k e
        refine ⟨g', GX.send ?_ fun f hf _ => fr_plain (.inr ?_), fun c => ?_⟩
        · by_cases c : e = d
          · subst c
            refine k1.newLead (le_new1 (by omega) ?_ hmod ?_)
            · rw [k3]
              by_cases hv : g.val a.toNat = 0
              · exact hv
              · have := hg.co.ow _ hv (by omega)
                rw [hmod] at this
                have this2 : a.toNat ≤ (stN (V.nd s) e).pr := this
                omega
            · show a.toNat ≤ (stN (V1.nd s) e).pr
              omega
          · exact k1.other c
        · unfold electsL at hf
          exact (toL_mem (List.mem_of_mem_eraseIdx hf)).1
        · rw [hes]
          exact k4 f0 hmem (by rw [hfd, c])
      generalize hV6 : sendX (setNd V1 s (setLd (V1.nd s) d (a, P0))) (electsL s d a zs.length) = V6 at *
      have he6 : V6.evs = V1.evs := by rw [← hV6]; rfl
      have hst7 : ∀ k e, stN ((sendX (leadX zs V6 s d f0) (leadO zs V6 s d f0)).nd k) e = stN (V6.nd k) e := fun k e => by
        rw [(leadX_some hx6).1]
        exact setLd_st V6 s d _ k e
      have hst8 : ∀ k e, stN ((sendX (leadX zs V6 s d f0) (leadO zs V6 s d f0)).nd k) e = stN (V1.nd k) e := fun k e => (hst7 k e).trans (hst6 k e)
      refine ⟨⟨fun e he => ?_, hex.1.same hst8 (by rw [(leadX_some hx6).1]; exact he6)⟩, hex.2.trans (Mo.same hXh hst8)⟩
      obtain ⟨g', k1, k2⟩ := hg6 e he
      rw [(leadX_some hx6).1, (leadX_some hx6).2]
      by_cases c : e = d
      · subst c
        obtain ⟨g2, q1, q2⟩ := lead_gx k1 hX.he hx6 (P0_w _) hs h3.fr (k2 rfl)
        exact ⟨g2, q1.send fun o ho _ => q2 o ho⟩
      · refine ⟨g', (k1.other c).send fun o ho hoe => ?_⟩
        exfalso
        cases hy : (phear zs s d a P0 f0).2 with
        | none => rw [hy] at ho; cases ho
        | some y =>
          rw [hy] at ho
          have := (toL_mem ho).2.2.2.2.2
          omega
theorem XI.ticks {s d : Nat} (hX : XI zs V m) (hs : s < zs.length) (hd : d < 6) (hu : (V.nd s).l ≠ -2) (hm : m < 1000000) : XI zs (tickD zs V s d) (m + 7) := by
  have n7 := (errW_zero hX.he).2.1
  have hg := (hX.nd s hs).gd d hd
  unfold tickD
  split
  · exact hX.mono (by omega)
  · split
    · have := hg.1
      have := hg.2.1
      refine (XI.send hX (toL_fi hs n7 hd (by decide) (by unfold stN; omega) (by unfold stN; omega) _ (Nat.le_refl _)) (by rw [toL_length]; omega)).mono (by omega)
    · exact hX.try hs hd hu hm
theorem AX.ticks {s d : Nat} (h : AX zs V) (hX : XI zs V m) (hs : s < zs.length) (hd : d < 6) (hu : (V.nd s).l ≠ -2) (hm : m < 1000000) : AX zs (tickD zs V s d) ∧ Mo zs V (tickD zs V s d) := by
  unfold tickD
  split
  · exact ⟨h, Mo.same hX fun _ _ => rfl⟩
  · split
    · refine ⟨⟨fun e he => ?_, h.ex.same (fun _ _ => rfl) rfl⟩, Mo.same hX fun _ _ => rfl⟩
      obtain ⟨g, hg⟩ := h.gx e he
      refine ⟨g, hg.send fun f hf hfe => ?_⟩
      have hfd := (toL_mem hf).2.2.2.2.2
      have c : e = d := by omega
      subst c
      exact fr_dec (fun q => hg.co.s2 s hs (by show (stN (V.nd s) e).ph = 2; omega)) (fun q => hg.co.s3 s hs (by show (stN (V.nd s) e).ph = 3; omega)) f hf
    · exact h.try hX hs hd hu hm
theorem AX.tick {s : Nat} (hs : s < zs.length) : ∀ (k d : Nat) (V : PX) (m : Nat), d + k ≤ 6 → AX zs V → XI zs V m → (V.nd s).l ≠ -2 → m + 7 * k < 1000000 → AX zs (tickX zs s k d V) ∧ Mo zs V (tickX zs s k d V)
  | 0, _, V, _, _, h, hX, _, _ => ⟨h, Mo.same hX fun _ _ => rfl⟩
  | k + 1, d, V, m, hk, h, hX, hu, hm => by
    have h1 := h.ticks hX hs (d := d) (by omega) hu (by omega)
    have hX1 := hX.ticks hs (d := d) (by omega) hu (by omega)
    unfold tickX
    split
    · rename_i hup
      have h2 := AX.tick hs k (d + 1) _ (m + 7) (by omega) h1.1 hX1 (by unfold upN at hup; simpa using hup) (by omega)
      exact ⟨h2.1, h1.2.trans h2.2⟩
    · exact h1
theorem AX.new : AX zs newX :=
  ⟨fun d hd => ⟨_, Co.zero (fun i _ => by
      show (dealL (zeroB 512).data.toList d).2.ph = 0
      rw [deal_zero 512 d (by omega)]; rfl), fun f hf => (by cases hf), fun i x _ hx => (by cases hx)⟩, ⟨fun e he => (by cases he), List.Pairwise.nil⟩⟩
end
end Go.Proofs.YtdpemmmbkjmplabGreatDoor
namespace Go.Proofs.YtdpemmmbkjmplabGreatDoor
open Go.RowKit

section
variable {w0 w w' : World} {C C' : Nat → Nat} {K : NB} {X : XB} {i m m' : Nat} {zs : List Int} {N : PN} {V V' : PX} {A : Nat → Addr}
theorem pkey_inj {a b a' b' : Nat} {l : Lit} (h1 : keyOf Tryz.prog 115 (pairV a b) = some l) (h2 : keyOf Tryz.prog 115 (pairV a' b') = some l) : a = a' ∧ b = b' := by
  have := plaw.inj h1 h2
  unfold pairV at this
  simp at this
  omega
/-- The map of broken links was written. -/
theorem WD.linked {a b : Nat} {whole : Bool} (h : WD w0 w C X zs V m) (hk : Kept (In1 X.mb) w w') (hD : ∃ D : DataW Unit, w'.ownsMap Tryz.prog 115 unitElem X.mb (m + 1) D ∧ ∀ x y, x < 7 → y < 7 → ∀ l, keyOf Tryz.prog 115 (pairV x y) = some l → Maps.has D l = (linkX V a b whole).br x y) :
    WOut w0 w w' C X zs (linkX V a b whole) (m + 1) := by
  have n7 := h.n7.2
  have cx := h.cx; have cw := h.cw; have cn := h.cn; have cm := h.cm
  have hlow : ∀ x, In1 X.mb x → w0.heap.size ≤ x := fun x hx => by rw [show x = _ from hx]; exact h.low _ (by omega)
  have nS : ∀ x, C x ≠ 1004 → ¬ In1 X.mb x := fun x g hx => by rw [show x = X.mb from hx] at g; exact g cm
  refine ⟨C, X, ⟨hk.below h.bel.size hlow h.bel, hk.row h.row (nS _ (by omega)), fun e he => cell_kept (h.ws e he) hk (nS _ (by show C X.wb ≠ _; omega)), fun e he => cell_kept (h.ns e he) hk (nS _ (by show C X.nb ≠ _; omega)), fun e he => ((h.nds e he).kept hk (fun x _ hx => nS x (by omega)) hlow).mono (Nat.le_succ _), hD, h.fly.kept hk (fun g hg => nS g (by have := h.cf g hg; omega)), own_kept h.evs hk (fun g hg => nS g (by have := h.ce g hg; omega)), h.cx, h.cw, h.cn, h.cm, h.cf, h.ce, fun x hx => Nat.lt_of_lt_of_le (h.lt x hx) hk.size, h.low, ?_⟩, rfl, hk.mono (fun x hx => by rw [show x = _ from hx]; show C _ < 2000; omega), fun _ _ => rfl⟩
  exact ⟨h.inv.he, fun i hi => (h.inv.nd i hi).mono (Nat.le_succ _), h.inv.fr, by have := h.inv.fl; show V.fly.length ≤ _; omega, h.inv.ev⟩
theorem turned_kept {b : Nat} (h : w.mapTurned w' b) : Kept (In1 b) w w' := by
  obtain ⟨es, cl, es', cl', hb, rfl⟩ := h
  refine ⟨rfl, rfl, rfl, ?_, fun k hk hs => ?_⟩
  · show w.heap.size ≤ (w.heap.setIfInBounds b (.map es' cl')).size
    simp
  · show (w.heap.setIfInBounds b (.map es' cl'))[k]? = w.heap[k]?
    rw [Array.getElem?_setIfInBounds_ne (fun e => hs (show k = b from e.symm))]
/-- A link breaks. -/
theorem WD.breaks {a b : Nat} (h : WD w0 w C X zs V m) (hm : m < 1000000) (ha : a < 7) (hb : b < 7) :
    ∃ w4, (Instr.mapUpdate 70 (.map (some X.mb)) (pairV (min a b) (max a b)) (.agg #[])).run Tryz.prog w = .ok () w4 ∧ w4.cell? ⟨X.xb, 2, none⟩ = some (.map (some X.mb)) ∧ WOut w0 w w4 C X zs (linkX V a b false) (m + 1) := by
  obtain ⟨D, hD, hh⟩ := h.brk
  obtain ⟨l, hl⟩ := pkey_some (min a b) (max a b) (by omega) (by omega)
  obtain ⟨w4, hr, ho, ht⟩ := hD.store plaw Tryz.underlying70 (by unfold maxLen; omega) hl unitElem_mk
  refine ⟨w4, hr, cell_kept h.cells.2.2.1 (turned_kept ht) (fun e => by have h1 := h.cx; have h2 := h.cm; rw [show X.xb = X.mb from e] at h1; omega), h.linked (turned_kept ht) ⟨_, ho, fun x y hx hy l2 hl2 => ?_⟩⟩
  show _ = if x = min a b ∧ y = max a b then !false else V.br x y
  by_cases g : x = min a b ∧ y = max a b
  · rw [if_pos g]
    rw [g.1, g.2, hl] at hl2
    obtain rfl := Option.some.inj hl2
    exact Maps.has_put_same hD.isMap (plaw.key hl) _
  · rw [if_neg g, Maps.has_put_other (fun e => g ?_)]
    · exact hh x y hx hy l2 hl2
    · rw [e] at hl2
      exact pkey_inj hl2 hl
/-- A link is whole again. -/
theorem WD.mends {a b : Nat} (h : WD w0 w C X zs V m) (ha : a < 7) (hb : b < 7) (ty : TypeId) :
    ∃ w4, (Builtin.delete_ #[70, 115] ty #[.map (some X.mb), pairV (min a b) (max a b)]).run Tryz.prog w = .ok (.tuple #[]) w4 ∧ w4.cell? ⟨X.xb, 2, none⟩ = some (.map (some X.mb)) ∧ WOut w0 w w4 C X zs (linkX V a b true) (m + 1) := by
  obtain ⟨D, hD, hh⟩ := h.brk
  obtain ⟨l, hl⟩ := pkey_some (min a b) (max a b) (by omega) (by omega)
  obtain ⟨w4, hr, ho, ht⟩ := hD.drop plaw Tryz.underlying70 hl ty
  refine ⟨w4, hr, cell_kept h.cells.2.2.1 (turned_kept ht) (fun e => by have h1 := h.cx; have h2 := h.cm; rw [show X.xb = X.mb from e] at h1; omega), h.linked (turned_kept ht) ⟨_, ho.mono (Nat.le_succ _), fun x y hx hy l2 hl2 => ?_⟩⟩
  show _ = if x = min a b ∧ y = max a b then !true else V.br x y
  by_cases g : x = min a b ∧ y = max a b
  · rw [if_pos g]
    rw [g.1, g.2, hl] at hl2
    obtain rfl := Option.some.inj hl2
    exact Maps.has_del_same
  · rw [if_neg g, Maps.has_del_other (fun e => g ?_)]
    · exact hh x y hx hy l2 hl2
    · rw [e] at hl2
      exact pkey_inj hl2 hl
/-- Its answer. -/
def cLink (n : Nat) (a b : Int) : Nat := if (0 ≤ a ∧ a < n) ∧ 0 ≤ b ∧ b < n then 0 else 2
set_option maxHeartbeats 1000000 in
set_option maxRecDepth 100000 in
theorem link_ok (a b : Nat) (whole : Bool) (h : WD w0 w C X zs V m) (ha : a < zs.length) (hb : b < zs.length) (hm : m < 1000000) :
    Calls Tryz.prog 29 #[.pointer (some ⟨X.xb, 0, none⟩), .int .i64 (a : Int), .int .i64 (b : Int), .bool whole] w fun e w' => e = .returned .nilIface ∧ WOut w0 w w' C X zs (linkX V a b whole) (m + 1) := by
  have H := hid h
  have n7 := h.n7
  obtain ⟨-, -, c2, -, -⟩ := h.cells
  have HA := hid (has_is (a : Int) true h (decide_eq_true (by omega)))
  have HB := hid (has_is (b : Int) true h (decide_eq_true (by omega)))
  have h7 : a < 7 ∧ b < 7 := by omega
  clear h
  cases whole with
  | true =>
    have HM : Hid (∀ w3, Below w.heap.size w w3 → ∃ w4, (Builtin.delete_ #[70, 115] 0 #[.map (some X.mb), pairV (min a b) (max a b)]).run Tryz.prog w3 = .ok (.tuple #[]) w4 ∧ w4.cell? ⟨X.xb, 2, none⟩ = some (.map (some X.mb)) ∧ WOut w0 w w4 C X zs (linkX V a b true) (m + 1)) := by
      intro w3 hb3
      obtain ⟨w4, h1, h0, h2⟩ := (H.out.later hb3).mends h7.1 h7.2 0
      exact ⟨w4, h1, h0, WOut.step (C1 := C) (X1 := X) rfl (Kept.of_below hb3) (fun _ _ => rfl) h2⟩
    go_enter Tryz.func29, Tryz.ntmps29
    go_wp2_with (first | (go_at_call 63; (with_reducible refine HA.out.mono ?_); rintro e w1 ⟨rfl, hx⟩; subst w1) | (go_at_call 63; (with_reducible refine HB.out.mono ?_); rintro e w1 ⟨rfl, hx⟩; subst w1))
    go_region_held3 (fun V => V.cell? ⟨X.xb, 2, none⟩ = some (.map (some X.mb))) (go_keep) (first | (go_at_call 64; (with_reducible refine (between_p a b _).mono ?_); rintro e w3 ⟨rfl, hb3⟩; have q0 := cell_later hb3 c2; obtain ⟨w4, hr4, q4, ho4⟩ := HM.out w3 ((Below.refl _ _).drew.trans hb3); have HO4 := hid ho4; clear hb3 ho4))
    all_goals go_wp2_with fail
    all_goals go_ret
    all_goals exact ⟨rfl, HO4.out⟩
  | false =>
    have HM : Hid (∀ w3, Below w.heap.size w w3 → ∃ w4, (Instr.mapUpdate 70 (.map (some X.mb)) (pairV (min a b) (max a b)) (.agg #[])).run Tryz.prog w3 = .ok () w4 ∧ w4.cell? ⟨X.xb, 2, none⟩ = some (.map (some X.mb)) ∧ WOut w0 w w4 C X zs (linkX V a b false) (m + 1)) := by
      intro w3 hb3
      obtain ⟨w4, h1, h0, h2⟩ := (H.out.later hb3).breaks hm h7.1 h7.2
      exact ⟨w4, h1, h0, WOut.step (C1 := C) (X1 := X) rfl (Kept.of_below hb3) (fun _ _ => rfl) h2⟩
    go_enter Tryz.func29, Tryz.ntmps29
    go_wp2_with (first | (go_at_call 63; (with_reducible refine HA.out.mono ?_); rintro e w1 ⟨rfl, hx⟩; subst w1) | (go_at_call 63; (with_reducible refine HB.out.mono ?_); rintro e w1 ⟨rfl, hx⟩; subst w1))
    go_region_held3 (fun V => V.cell? ⟨X.xb, 2, none⟩ = some (.map (some X.mb))) (go_keep) (first | (go_at_call 64; (with_reducible refine (between_p a b _).mono ?_); rintro e w3 ⟨rfl, hb3⟩; have q0 := cell_later hb3 c2; obtain ⟨w4, hr4, q4, ho4⟩ := HM.out w3 ((Below.refl _ _).drew.trans hb3); have HO4 := hid ho4; clear hb3 ho4))
    all_goals go_wp2_with fail
    all_goals go_ret
    all_goals exact ⟨rfl, HO4.out⟩
set_option maxRecDepth 100000 in
theorem link_no (a b : Int) (whole : Bool) (h : WD w0 w C X zs V m) (hE : Held9 w0 A) (hs : ¬ ((0 ≤ a ∧ a < zs.length) ∧ 0 ≤ b ∧ b < zs.length)) :
    Calls Tryz.prog 29 #[.pointer (some ⟨X.xb, 0, none⟩), .int .i64 a, .int .i64 b, .bool whole] w fun e w' => e = .returned (ev A 2) ∧ w' = w := by
  have g1 : w.cell? ⟨3, 0, none⟩ = some (.iface 222 (.pointer (some (A 1)))) := (h.held hE).var 1 (by decide)
  have HA := hid (fun x => has_is a x h)
  have HB := hid (fun x => has_is b x h)
  clear h
  by_cases ha : 0 ≤ a ∧ a < zs.length
  · have hb : ¬ (0 ≤ b ∧ b < zs.length) := fun g => hs ⟨ha, g⟩
    have HA1 := hid (HA.out true (decide_eq_true ha))
    have HB1 := hid (HB.out false (decide_eq_false hb))
    clear HA HB ha hb hs
    go_enter Tryz.func29, Tryz.ntmps29
    go_wp2_with (first | (go_at_call 63; (with_reducible refine HA1.out.mono ?_); rintro e w1 ⟨rfl, hx⟩; subst w1) | (go_at_call 63; (with_reducible refine HB1.out.mono ?_); rintro e w1 ⟨rfl, hx⟩; subst w1))
    go_ret
    exact ⟨rfl, rfl⟩
  · have HA1 := hid (HA.out false (decide_eq_false ha))
    clear HA HB ha hs
    go_enter Tryz.func29, Tryz.ntmps29
    go_wp2_with (first | (go_at_call 63; (with_reducible refine HA1.out.mono ?_); rintro e w1 ⟨rfl, hx⟩; subst w1))
    go_ret
    exact ⟨rfl, rfl⟩
end
end Go.Proofs.YtdpemmmbkjmplabGreatDoor
namespace Go.Proofs.YtdpemmmbkjmplabGreatDoor
open Go.RowKit

/-- What a step of a law makes of a world. -/
def Stp (zs : List Int) (V V' : PX) : Prop :=
  V' = V ∨ (∃ s d : Nat, s < zs.length ∧ d < 6 ∧ cBeg zs.length V (s : Int) (d : Int) = 0 ∧ V' = beginX zs V s d) ∨ (∃ s d, s < zs.length ∧ upN (V.nd s) = true ∧ V' = refuseX V s d) ∨ (∃ s, s < zs.length ∧ upN (V.nd s) = true ∧ V' = tickX zs s 6 0 V) ∨
  (∃ s, s < zs.length ∧ upN (V.nd s) = true ∧ V' = downX V s) ∨ (∃ s, s < zs.length ∧ upN (V.nd s) = false ∧ V' = upX V s) ∨ (∃ k, V' = takeX V k) ∨ (∃ k f, f ∈ V.fly ∧ V' = twiceX V k f) ∨ (∃ a b x, V' = linkX V a b x) ∨ (∃ s n, s < zs.length ∧ V' = cutX V s n) ∨ (∃ k f, V.fly[k]? = some f ∧ V' = deliverX zs V k f)
section
variable {zs : List Int} {V : PX}
theorem Stp.same : Stp zs V V := .inl rfl
theorem Stp.begin (s d : Nat) (hs : s < zs.length) (hd : d < 6) (hc : cBeg zs.length V s d = 0) : Stp zs V (beginX zs V s d) := .inr (.inl ⟨s, d, hs, hd, hc, rfl⟩)
theorem Stp.refuse (s d : Nat) (hs : s < zs.length) (hu : upN (V.nd s) = true) : Stp zs V (refuseX V s d) := .inr (.inr (.inl ⟨s, d, hs, hu, rfl⟩))
theorem Stp.tick (s : Nat) (hs : s < zs.length) (hu : upN (V.nd s) = true) : Stp zs V (tickX zs s 6 0 V) := .inr (.inr (.inr (.inl ⟨s, hs, hu, rfl⟩)))
theorem Stp.down (s : Nat) (hs : s < zs.length) (hu : upN (V.nd s) = true) : Stp zs V (downX V s) := .inr (.inr (.inr (.inr (.inl ⟨s, hs, hu, rfl⟩))))
theorem Stp.wake (s : Nat) (hs : s < zs.length) (hu : upN (V.nd s) = false) : Stp zs V (upX V s) := .inr (.inr (.inr (.inr (.inr (.inl ⟨s, hs, hu, rfl⟩)))))
theorem Stp.take (k : Nat) : Stp zs V (takeX V k) := .inr (.inr (.inr (.inr (.inr (.inr (.inl ⟨k, rfl⟩))))))
theorem Stp.twice (k : Nat) (f : F9) (hf : f ∈ V.fly) : Stp zs V (twiceX V k f) := .inr (.inr (.inr (.inr (.inr (.inr (.inr (.inl ⟨k, f, hf, rfl⟩)))))))
theorem Stp.link (a b : Nat) (x : Bool) : Stp zs V (linkX V a b x) := .inr (.inr (.inr (.inr (.inr (.inr (.inr (.inr (.inl ⟨a, b, x, rfl⟩))))))))
theorem Stp.cut (s : Nat) (n : Int) (hs : s < zs.length) : Stp zs V (cutX V s n) := .inr (.inr (.inr (.inr (.inr (.inr (.inr (.inr (.inr (.inl ⟨s, n, hs, rfl⟩)))))))))
theorem Stp.deliver (k : Nat) (f : F9) (hk : V.fly[k]? = some f) : Stp zs V (deliverX zs V k f) := .inr (.inr (.inr (.inr (.inr (.inr (.inr (.inr (.inr (.inr ⟨k, f, hk, rfl⟩)))))))))
end
theorem nd_keep {V : PX} {s : Nat} {N : PN} (hst : ∀ d, stN N d = stN (V.nd s) d) : ∀ i d, stN ((setNd V s N).nd i) d = stN (V.nd i) d := by
  intro i d
  by_cases e : i = s
  · subst e; rw [nd_at]; exact hst d
  · rw [nd_ne _ _ _ e]
theorem ld_keep {V : PX} {s : Nat} {N : PN} (hld : ∀ d x, N.ld d = some x → (V.nd s).ld d = some x) : ∀ i d x, ((setNd V s N).nd i).ld d = some x → (V.nd i).ld d = some x := by
  intro i d x
  by_cases e : i = s
  · subst e; rw [nd_at]; exact hld d x
  · rw [nd_ne _ _ _ e]; exact id
theorem Stp.ax {zs : List Int} {V V' : PX} {m : Nat} (h : Stp zs V V') (hA : AX zs V) (hX : XI zs V m) (hm : m < 900000) : AX zs V' ∧ Mo zs V V' := by
  rcases h with rfl | ⟨s, d, hs, hd, hc, rfl⟩ | ⟨s, d, hs, hu, rfl⟩ | ⟨s, hs, hu, rfl⟩ | ⟨s, hs, hu, rfl⟩ | ⟨s, hs, hu, rfl⟩ | ⟨k, rfl⟩ | ⟨k, f, hf, rfl⟩ | ⟨a, b, x, rfl⟩ | ⟨s, n, hs, rfl⟩ | ⟨k, f, hk, rfl⟩
  · exact ⟨hA, Mo.same hX fun _ _ => rfl⟩
  · exact hA.begin hX
  · exact ⟨hA.quiet (nd_keep fun _ => rfl) (fun i e x _ => ld_keep (V := V) (s := s) (N := { V.nd s with R := updR (V.nd s).R d }) (fun _ _ y => y) i e x) (fun _ y => y) rfl, Mo.same hX (nd_keep fun _ => rfl)⟩
  · exact AX.tick hs 6 0 V m (by decide) hA hX (by unfold upN at hu; simpa using hu) (by omega)
  · exact ⟨hA.quiet (nd_keep fun _ => rfl) (fun i d x _ => ld_keep (fun _ _ y => by cases y) i d x) (fun _ y => y) rfl, Mo.same hX (nd_keep fun _ => rfl)⟩
  · exact ⟨hA.quiet (nd_keep fun _ => rfl) (fun i d x _ => ld_keep (V := V) (s := s) (N := { V.nd s with l := -1, over := false, R := fun _ => false }) (fun _ _ y => y) i d x) (fun _ y => y) rfl, Mo.same hX (nd_keep fun _ => rfl)⟩
  · exact ⟨hA.take k, Mo.same hX fun _ _ => rfl⟩
  ·
    refine ⟨hA.quiet (fun _ _ => rfl) (fun _ _ _ _ y => y) (fun g hg => ?_) rfl, Mo.same hX fun _ _ => rfl⟩
    have hg2 : g ∈ V.fly.take k ++ f :: V.fly.drop k := hg
    rcases List.mem_append.1 hg2 with y | y
    · exact List.mem_of_mem_take y
    · rcases List.mem_cons.1 y with rfl | y
      · exact hf
      · exact List.mem_of_mem_drop y
  · exact ⟨hA.quiet (fun _ _ => rfl) (fun _ _ _ _ y => y) (fun _ y => y) rfl, Mo.same hX fun _ _ => rfl⟩
  · exact ⟨hA.quiet (nd_keep fun _ => rfl) (fun i d x _ => ld_keep (V := V) (s := s) (N := { V.nd s with l := cL (V.nd s).l n }) (fun _ _ y => y) i d x) (fun _ y => y) rfl, Mo.same hX (nd_keep fun _ => rfl)⟩
  · exact hA.deliver hX (by omega) (List.mem_iff_getElem?.2 ⟨k, hk⟩)
section
variable {w0 w : World} {C : Nat → Nat} {X : XB} {m : Nat} {zs : List Int} {V : PX} {A : Nat → Addr}
def StpOut (w0 w w' : World) (C : Nat → Nat) (X : XB) (zs : List Int) (V : PX) (m : Nat) : Prop := ∃ V', Stp zs V V' ∧ WOut w0 w w' C X zs V' (m + 42)
theorem StpOut.back {W w' : World} (hb : Below w.heap.size w W) (h : StpOut w0 W w' C X zs V m) : StpOut w0 w w' C X zs V m := by
  obtain ⟨V', h1, h2⟩ := h
  exact ⟨V', h1, WOut.step (C1 := C) (X1 := X) rfl (Kept.of_below hb) (fun _ _ => rfl) h2⟩
theorem cUp_zero {n : Nat} {V : PX} {s : Int} (h : cUp n V s = 0) : s.toNat < n ∧ upN (V.nd s.toNat) = true := by
  unfold cUp at h
  split at h
  · rename_i h1
    split at h
    · rename_i h2; exact ⟨by omega, h2⟩
    · cases h
  · cases h
theorem s_begin (s d : Int) (h : WD w0 w C X zs V m) (hE : Held9 w0 A) (hm : m < 800000) : Calls Tryz.prog 14 #[.pointer (some ⟨X.xb, 0, none⟩), .int .i64 s, .int .i64 d] w fun e w' => (∃ v, e = .returned v) ∧ StpOut w0 w w' C X zs V m := by
  refine (begin_any s d _ h hE (by omega) rfl).mono ?_
  rintro e w' ⟨rfl, ho⟩
  refine ⟨⟨_, rfl⟩, ?_⟩
  by_cases hc : cBeg zs.length V s d = 0
  · rw [if_pos hc] at ho
    refine ⟨_, ?_, ho.mono (by omega)⟩
    have h1 : (0 ≤ s ∧ s < zs.length) ∧ 0 ≤ d ∧ d < 6 := by
      unfold cBeg at hc
      split at hc
      · assumption
      · cases hc
    refine .begin s.toNat d.toNat (by omega) (by omega) ?_
    rw [Int.toNat_of_nonneg h1.1.1, Int.toNat_of_nonneg h1.2.1]
    exact hc
  · rw [if_neg hc] at ho
    exact ⟨V, .same, ho.mono (by omega)⟩
theorem s_refuse (s d : Int) (h : WD w0 w C X zs V m) (hE : Held9 w0 A) (hm : m < 800000) : Calls Tryz.prog 13 #[.pointer (some ⟨X.xb, 0, none⟩), .int .i64 s, .int .i64 d] w fun e w' => (∃ v, e = .returned v) ∧ StpOut w0 w w' C X zs V m := by
  refine (refuse_any s d _ h hE (by omega) rfl).mono ?_
  rintro e w' ⟨rfl, ho⟩
  refine ⟨⟨_, rfl⟩, ?_⟩
  by_cases hc : cRef zs.length V s d = 0
  · rw [if_pos hc] at ho
    refine ⟨_, ?_, ho.mono (by omega)⟩
    unfold cRef at hc
    split at hc
    · rename_i h1
      split at hc
      · rename_i h2; exact .refuse s.toNat d.toNat (by omega) h2
      · cases hc
    · cases hc
  · rw [if_neg hc] at ho
    exact ⟨V, .same, ho.mono (by omega)⟩
theorem s_tick (s : Int) (h : WD w0 w C X zs V m) (hE : Held9 w0 A) (hm : m < 800000) : Calls Tryz.prog 55 #[.pointer (some ⟨X.xb, 0, none⟩), .int .i64 s] w fun e w' => (∃ v, e = .returned v) ∧ StpOut w0 w w' C X zs V m := by
  refine (tick_any s _ h hE (by omega) rfl).mono ?_
  rintro e w' ⟨rfl, ho⟩
  refine ⟨⟨_, rfl⟩, ?_⟩
  by_cases hc : cUp zs.length V s = 0
  · rw [if_pos hc] at ho
    exact ⟨_, .tick s.toNat (cUp_zero hc).1 (cUp_zero hc).2, ho⟩
  · rw [if_neg hc] at ho
    exact ⟨V, .same, ho⟩
theorem s_down (s : Int) (h : WD w0 w C X zs V m) (hE : Held9 w0 A) : Calls Tryz.prog 30 #[.pointer (some ⟨X.xb, 0, none⟩), .int .i64 s] w fun e w' => (∃ v, e = .returned v) ∧ StpOut w0 w w' C X zs V m := by
  refine (down_any s _ h hE rfl).mono ?_
  rintro e w' ⟨rfl, ho⟩
  refine ⟨⟨_, rfl⟩, ?_⟩
  by_cases hc : cUp zs.length V s = 0
  · rw [if_pos hc] at ho
    exact ⟨_, .down s.toNat (cUp_zero hc).1 (cUp_zero hc).2, ho.mono (by omega)⟩
  · rw [if_neg hc] at ho
    exact ⟨V, .same, ho.mono (by omega)⟩
theorem s_wake (s : Int) (h : WD w0 w C X zs V m) (hE : Held9 w0 A) : Calls Tryz.prog 31 #[.pointer (some ⟨X.xb, 0, none⟩), .int .i64 s] w fun e w' => (∃ v, e = .returned v) ∧ StpOut w0 w w' C X zs V m := by
  refine (wake_any s _ h hE rfl).mono ?_
  rintro e w' ⟨rfl, ho⟩
  refine ⟨⟨_, rfl⟩, ?_⟩
  by_cases hc : cWake zs.length V s = 0
  · rw [if_pos hc] at ho
    refine ⟨_, ?_, ho.mono (by omega)⟩
    unfold cWake at hc
    split at hc
    · rename_i h1
      split at hc
      · cases hc
      · rename_i h2
        refine .wake s.toNat (by omega) ?_
        cases hu : upN (V.nd s.toNat) with
        | false => rfl
        | true => exact absurd hu h2
    · cases hc
  · rw [if_neg hc] at ho
    exact ⟨V, .same, ho.mono (by omega)⟩
theorem s_drop (n : Int) (h : WD w0 w C X zs V m) (hE : Held9 w0 A) (hm : m < 800000) : Calls Tryz.prog 34 #[.pointer (some ⟨X.xb, 0, none⟩), .int .i64 n] w fun e w' => (∃ v, e = .returned v) ∧ StpOut w0 w w' C X zs V m := by
  by_cases hn : 0 ≤ n ∧ n < V.fly.length
  · obtain ⟨k, rfl⟩ := Int.eq_ofNat_of_zero_le hn.1
    refine (drop_ok k h (by omega) (by omega)).mono ?_
    rintro e w' ⟨rfl, ho⟩
    exact ⟨⟨_, rfl⟩, _, .take k, ho.mono (by omega)⟩
  · refine (drop_no n h hE hn).mono ?_
    rintro e w' ⟨rfl, rfl⟩
    exact ⟨⟨_, rfl⟩, V, .same, h.out (Below.refl _ _) (by omega)⟩
theorem s_twice (n : Int) (h : WD w0 w C X zs V m) (hE : Held9 w0 A) (hm : m < 800000) : Calls Tryz.prog 56 #[.pointer (some ⟨X.xb, 0, none⟩), .int .i64 n] w fun e w' => (∃ v, e = .returned v) ∧ StpOut w0 w w' C X zs V m := by
  by_cases hn : 0 ≤ n ∧ n < V.fly.length
  · obtain ⟨k, rfl⟩ := Int.eq_ofNat_of_zero_le hn.1
    have hk : k < V.fly.length := by omega
    refine (twice_ok k _ h hk rfl (by omega)).mono ?_
    rintro e w' ⟨rfl, ho⟩
    exact ⟨⟨_, rfl⟩, _, .twice k _ (List.getElem_mem hk), ho.mono (by omega)⟩
  · refine (twice_no n h hE hn).mono ?_
    rintro e w' ⟨rfl, rfl⟩
    exact ⟨⟨_, rfl⟩, V, .same, h.out (Below.refl _ _) (by omega)⟩
theorem s_deliver (n : Int) (h : WD w0 w C X zs V m) (hE : Held9 w0 A) (hm : m < 800000) : Calls Tryz.prog 16 #[.pointer (some ⟨X.xb, 0, none⟩), .int .i64 n] w fun e w' => (∃ v, e = .returned v) ∧ StpOut w0 w w' C X zs V m := by
  by_cases hn : 0 ≤ n ∧ n < V.fly.length
  · obtain ⟨k, rfl⟩ := Int.eq_ofNat_of_zero_le hn.1
    have hk : k < V.fly.length := by omega
    refine (deliver_ok k _ h hE hk rfl (by omega)).mono ?_
    rintro e w' ⟨rfl, ho⟩
    exact ⟨⟨_, rfl⟩, _, .deliver k _ (List.getElem?_eq_getElem hk), ho.mono (by omega)⟩
  · refine (deliver_no n h hE hn).mono ?_
    rintro e w' ⟨rfl, rfl⟩
    exact ⟨⟨_, rfl⟩, V, .same, h.out (Below.refl _ _) (by omega)⟩
theorem s_link (a b : Int) (x : Bool) (h : WD w0 w C X zs V m) (hE : Held9 w0 A) (hm : m < 800000) : Calls Tryz.prog 29 #[.pointer (some ⟨X.xb, 0, none⟩), .int .i64 a, .int .i64 b, .bool x] w fun e w' => (∃ v, e = .returned v) ∧ StpOut w0 w w' C X zs V m := by
  by_cases hn : (0 ≤ a ∧ a < zs.length) ∧ 0 ≤ b ∧ b < zs.length
  · obtain ⟨k, rfl⟩ := Int.eq_ofNat_of_zero_le hn.1.1
    obtain ⟨l, rfl⟩ := Int.eq_ofNat_of_zero_le hn.2.1
    refine (link_ok k l x h (by omega) (by omega) (by omega)).mono ?_
    rintro e w' ⟨rfl, ho⟩
    exact ⟨⟨_, rfl⟩, _, .link k l x, ho.mono (by omega)⟩
  · refine (link_no a b x h hE hn).mono ?_
    rintro e w' ⟨rfl, rfl⟩
    exact ⟨⟨_, rfl⟩, V, .same, h.out (Below.refl _ _) (by omega)⟩
theorem s_cut (s n : Int) (h : WD w0 w C X zs V m) (hE : Held9 w0 A) (hn : n ≤ 9223372036854775807) : Calls Tryz.prog 57 #[.pointer (some ⟨X.xb, 0, none⟩), .int .i64 s, .int .i64 n] w fun e w' => (∃ v, e = .returned v) ∧ StpOut w0 w w' C X zs V m := by
  refine (cut_any s n _ h hE hn rfl).mono ?_
  rintro e w' ⟨rfl, ho⟩
  refine ⟨⟨_, rfl⟩, ?_⟩
  by_cases hs : 0 ≤ s ∧ s < zs.length
  · rw [if_pos hs] at ho
    exact ⟨_, .cut s.toNat n (by omega), ho.mono (by omega)⟩
  · rw [if_neg hs] at ho
    exact ⟨V, .same, ho.mono (by omega)⟩
end
end Go.Proofs.YtdpemmmbkjmplabGreatDoor
namespace Go.Proofs.YtdpemmmbkjmplabGreatDoor
open Go.RowKit

theorem four_cells {w : World} {b : Nat} {a c e g : Value} {t : TypeId} {f : Nat × Nat} (h : w.heap[b]? = some (.cells #[a, c, e, g] t f)) : w.cell? ⟨b, 0, none⟩ = some a ∧ w.cell? ⟨b, 1, none⟩ = some c ∧ w.cell? ⟨b, 2, none⟩ = some e ∧ w.cell? ⟨b, 3, none⟩ = some g :=
  ⟨by rw [cell_of_row _ _ _ _ _ _ h]; rfl, by rw [cell_of_row _ _ _ _ _ _ h]; rfl, by rw [cell_of_row _ _ _ _ _ _ h]; rfl, by rw [cell_of_row _ _ _ _ _ _ h]; rfl⟩
section
variable {w0 w : World} {C : Nat → Nat} {X : XB} {m : Nat} {zs : List Int} {V : PX} {A : Nat → Addr}
set_option maxHeartbeats 2000000 in
set_option maxRecDepth 100000 in
theorem act_any (xk : ByteArray) (xs xd xn : Int) (h : WD w0 w C X zs V m) (hE : Held9 w0 A) (hm : m < 800000) (hn : xn ≤ 9223372036854775807) :
    Calls Tryz.prog 21 #[.pointer (some ⟨X.xb, 0, none⟩), .agg #[.string xk, .int .i64 xs, .int .i64 xd, .int .i64 xn]] w fun e w' => e = .returned (.tuple #[]) ∧ StpOut w0 w w' C X zs V m := by
  obtain ⟨W, HW⟩ : ∃ W, Hid (w.alloc (.cells #[.string xk, .int .i64 xs, .int .i64 xd, .int .i64 xn] 51) = W) := ⟨_, rfl⟩
  have hW := HW.out
  have HB : Hid (Below w.heap.size w W) := by rw [← HW.out]; exact (Below.refl _ _).alloc (Nat.le_refl _) _
  have HR := hid (heap_alloc_new w (.cells #[.string xk, .int .i64 xs, .int .i64 xd, .int .i64 xn] 51))
  rw [HW.out] at HR
  obtain ⟨b0, b1, b2, b3⟩ := four_cells HR.out
  have H := hid (h.later HB.out)
  have HE := hid hE
  have HN := hid hn
  clear h hE hn
  rcases kbegin : (xk.toList == [98, 101, 103, 105, 110]) with _ | _
  rotate_left
  · go_enter Tryz.func21, Tryz.ntmps21
    go_wp2_with fail
    refine (s_begin xs xd H.out HE.out (by omega)).mono ?_
    rintro e w1 ⟨⟨v, rfl⟩, ho⟩
    have HO := hid (ho.back HB.out)
    clear ho
    go_wp2_with fail
    go_end0
    exact ⟨rfl, HO.out⟩
  rcases krefuse : (xk.toList == [114, 101, 102, 117, 115, 101]) with _ | _
  rotate_left
  · go_enter Tryz.func21, Tryz.ntmps21
    go_wp2_with fail
    refine (s_refuse xs xd H.out HE.out (by omega)).mono ?_
    rintro e w1 ⟨⟨v, rfl⟩, ho⟩
    have HO := hid (ho.back HB.out)
    clear ho
    go_wp2_with fail
    go_end0
    exact ⟨rfl, HO.out⟩
  rcases ktick : (xk.toList == [116, 105, 99, 107]) with _ | _
  rotate_left
  · go_enter Tryz.func21, Tryz.ntmps21
    go_wp2_with fail
    refine (s_tick xs H.out HE.out (by omega)).mono ?_
    rintro e w1 ⟨⟨v, rfl⟩, ho⟩
    have HO := hid (ho.back HB.out)
    clear ho
    go_wp2_with fail
    go_end0
    exact ⟨rfl, HO.out⟩
  rcases kdown : (xk.toList == [100, 111, 119, 110]) with _ | _
  rotate_left
  · go_enter Tryz.func21, Tryz.ntmps21
    go_wp2_with fail
    refine (s_down xs H.out HE.out ).mono ?_
    rintro e w1 ⟨⟨v, rfl⟩, ho⟩
    have HO := hid (ho.back HB.out)
    clear ho
    go_wp2_with fail
    go_end0
    exact ⟨rfl, HO.out⟩
  rcases kup : (xk.toList == [117, 112]) with _ | _
  rotate_left
  · go_enter Tryz.func21, Tryz.ntmps21
    go_wp2_with fail
    refine (s_wake xs H.out HE.out ).mono ?_
    rintro e w1 ⟨⟨v, rfl⟩, ho⟩
    have HO := hid (ho.back HB.out)
    clear ho
    go_wp2_with fail
    go_end0
    exact ⟨rfl, HO.out⟩
  rcases kdrop : (xk.toList == [100, 114, 111, 112]) with _ | _
  rotate_left
  · go_enter Tryz.func21, Tryz.ntmps21
    go_wp2_with fail
    refine (s_drop xn H.out HE.out (by omega)).mono ?_
    rintro e w1 ⟨⟨v, rfl⟩, ho⟩
    have HO := hid (ho.back HB.out)
    clear ho
    go_wp2_with fail
    go_end0
    exact ⟨rfl, HO.out⟩
  rcases ktwice : (xk.toList == [116, 119, 105, 99, 101]) with _ | _
  rotate_left
  · go_enter Tryz.func21, Tryz.ntmps21
    go_wp2_with fail
    refine (s_twice xn H.out HE.out (by omega)).mono ?_
    rintro e w1 ⟨⟨v, rfl⟩, ho⟩
    have HO := hid (ho.back HB.out)
    clear ho
    go_wp2_with fail
    go_end0
    exact ⟨rfl, HO.out⟩
  rcases klink : (xk.toList == [108, 105, 110, 107]) with _ | _
  rotate_left
  · go_enter Tryz.func21, Tryz.ntmps21
    go_wp2_with fail
    refine (s_link xs xd true H.out HE.out (by omega)).mono ?_
    rintro e w1 ⟨⟨v, rfl⟩, ho⟩
    have HO := hid (ho.back HB.out)
    clear ho
    go_wp2_with fail
    go_end0
    exact ⟨rfl, HO.out⟩
  rcases kbreak : (xk.toList == [98, 114, 101, 97, 107]) with _ | _
  rotate_left
  · go_enter Tryz.func21, Tryz.ntmps21
    go_wp2_with fail
    refine (s_link xs xd false H.out HE.out (by omega)).mono ?_
    rintro e w1 ⟨⟨v, rfl⟩, ho⟩
    have HO := hid (ho.back HB.out)
    clear ho
    go_wp2_with fail
    go_end0
    exact ⟨rfl, HO.out⟩
  rcases kcut : (xk.toList == [99, 117, 116]) with _ | _
  rotate_left
  · go_enter Tryz.func21, Tryz.ntmps21
    go_wp2_with fail
    refine (s_cut xs xn H.out HE.out HN.out).mono ?_
    rintro e w1 ⟨⟨v, rfl⟩, ho⟩
    have HO := hid (ho.back HB.out)
    clear ho
    go_wp2_with fail
    go_end0
    exact ⟨rfl, HO.out⟩
  go_enter Tryz.func21, Tryz.ntmps21
  go_wp2_with fail
  refine (s_deliver xn H.out HE.out (by omega)).mono ?_
  rintro e w1 ⟨⟨v, rfl⟩, ho⟩
  have HO := hid (ho.back HB.out)
  clear ho
  go_wp2_with fail
  go_end0
  exact ⟨rfl, HO.out⟩
end
end Go.Proofs.YtdpemmmbkjmplabGreatDoor
namespace Go.Proofs.YtdpemmmbkjmplabGreatDoor
open Go.RowKit

theorem Tryz.infoME : (Tryz.prog.info? 112).map (fun i => (i.zero, i.size, i.bytes)) = some (some (.agg #[.int .i64 0, .int .i64 0, .int .i64 0]), 3, 24) := by kernel_rfl
theorem me3_one (x : E3) : ∀ u ∈ e3L x, u.oneCell' = true := by
  intro u hu
  simp [e3L] at hu
  rcases hu with rfl | rfl | rfl <;> rfl
theorem step_append_me1 {w : World} {ops : Array Oper} {o : Oper} {a : Act} {K : Act → World → Prop} {Q : Exit → Act → World → Prop} {E : Prop} (hgd : o.guard = none) (s x : Operand)
    (ho : o.op = .call { callee := .builtin .append, args := #[s, x], argTypes := #[57, 57] })
    (base n : Nat) (v : Value) (xs : List Value) (ad : Addr) (c : Nat) (F : E3) (hs : a.eval s = v) (hx : a.eval x = .slice (some ad) 1 c) (hown : w.ownsRow base 112 3 v n xs) (hu : ∀ j u, (e3L F)[j]? = some u → w.cell? (ad.add j) = some u) (hn : n ≤ 1000000000000) (hb : base ≤ w.heap.size)
    (h : ∀ ad' cap' w', w'.ownsRow base 112 3 (.slice ad' (n + 1) cap') (n + 1) (xs ++ e3L F) → w.grownBy w' v.ownBlock → K (a.put o.dst (.slice ad' (n + 1) cap')) w') :
    if Region.wanted o (yielded ops a.tmps) = true then Oper.wp Tryz.prog o a w K Q else E := by
  have hw : Region.wanted o (yielded ops a.tmps) = true := by simp [Region.wanted, hgd]
  rw [if_pos hw]
  obtain ⟨i0, hi0, hz0, hz1, hz2⟩ := info_parts Tryz.infoME
  obtain ⟨v', w', hr, h2, h3, -, -⟩ := run_append_own_at (P := Tryz.prog) w base 57 o.type 112 i0 _ 3 24 Tryz.underlying57 hi0 hz0 hz1 hz2 rfl (by decide) v n xs hown ad 1 c (e3L F) rfl hu (me3_one F) (by unfold maxLen; omega) (by omega) hb
  obtain ⟨ad', cap', rfl⟩ : ∃ ad' cap', v' = .slice ad' (n + 1) cap' := by
    rcases h2.2 with ⟨e, h0⟩ | ⟨g, cap, cur, e, -⟩
    · omega
    · exact ⟨_, _, e⟩
  unfold Oper.wp execOp
  simp only [ho, resolve, invoke, builtin, Sem.run_bind, Sem.run_pure, Result.andThen_ok, List.map_toArray, List.map_cons, List.map_nil, hs, hx, hr]
  exact h ad' cap' w' h2 h3
theorem lit_cellsM (w : World) (t : TypeId) (L : List Value) : ∀ j u, L[j]? = some u → (w.alloc (.cells L.toArray t)).cell? ((⟨w.heap.size, 0, none⟩ : Addr).add j) = some u := by
  intro j u h
  rw [addr_add, cell_of_row _ _ _ _ _ _ (heap_alloc_new w _), List.getElem?_toArray, Nat.zero_add]
  exact h
theorem evs_take (L : List E3) (k : Nat) (h : k < L.length) : evCells (L.take (k + 1)) = evCells (L.take k) ++ e3L (L[k]'h) := by
  unfold evCells
  rw [take_snoc L k h, List.flatMap_append, List.flatMap_singleton]
set_option maxHeartbeats 4000000 in
set_option maxRecDepth 100000 in
theorem backEvents_any (ad : Option Addr) (cap : Nat) (L : List E3) (w : World) (hL : EL w ad L) (hl : L.length ≤ 1000) :
    Calls Tryz.prog 26 #[.slice ad L.length cap] w fun e w' => ∃ ad' cap', e = .returned (.slice ad' L.length cap') ∧ EL w' ad' L ∧ Below w.heap.size w w' := by
  have HL := hid hL
  clear hL
  go_enter Tryz.func26, Tryz.ntmps26
  go_wp2_with fail
  go_loopw [3, 4] (fun v i wr => ∃ k : Nat, k ≤ L.length ∧ i = .int .i64 (k : Int) ∧ wr.ownsRow w.heap.size 112 3 v k (evCells (L.take k)) ∧ Below w.heap.size w wr) (fun _ i _ => L.length - (intOf i).toNat)
  case atStart => exact ⟨0, Nat.zero_le _, rfl, World.ownsRow_nil _ _ _ _, Below.refl _ _⟩
  case round =>
    obtain ⟨k, hk, rfl, hown, hb⟩ := hrel
    have HB := hid hb
    by_cases hlt : k < L.length
    · obtain ⟨b, o, rfl, y0, y1, y2⟩ := HL.out k hlt
      obtain ⟨⟨es, ed, ep⟩, HS⟩ : ∃ e, Hid (L[k]'hlt = e) := ⟨_, rfl⟩
      rw [HS.out] at y0 y1 y2
      replace y0 := cell_later hb y0
      replace y1 := cell_later hb y1
      replace y2 := cell_later hb y2
      obtain ⟨W2, HW2⟩ : ∃ W2, Hid (wr.drew.alloc (.cells #[.int .i64 es, .int .i64 ed, .int .i64 ep] 112) = W2) := ⟨_, rfl⟩
      have hW2 := HW2.out
      have HB2 : Hid (Below wr.heap.size wr W2) := by rw [← HW2.out]; exact (Below.refl _ _).drew.alloc (Nat.le_refl _) _
      have HO : Hid (W2.ownsRow w.heap.size 112 3 u3 k (evCells (L.take k))) := own_later hown HB2.out (Nat.le_refl _)
      have HLit : Hid (∀ j u, (e3L ⟨es, ed, ep⟩)[j]? = some u → W2.cell? ((⟨wr.heap.size, 0, none⟩ : Addr).add j) = some u) := by rw [← HW2.out]; exact lit_cellsM wr.drew 112 (e3L ⟨es, ed, ep⟩)
      have HTk := hid (evs_take L k hlt)
      rw [HS.out] at HTk
      have hbs : w.heap.size ≤ W2.heap.size := Nat.le_trans hb.size HB2.out.size
      have hk60 : k ≤ 1000000000000 := by omega
      have HBo : Hid (∀ w', W2.grownBy w' u3.ownBlock → Below w.heap.size w w') := fun w' hg => Below.grown (below_trans HB.out HB2.out) hg hbs (fun q hq => (HO.out.lt q hq).1)
      clear hb hown
      go_wp2_with fail
      go_region_law ((refine step_append_me1 (by rfl) _ _ (by rfl) w.heap.size k u3 (evCells (L.take k)) ⟨wr.heap.size, 0, none⟩ 1 ⟨es, ed, ep⟩ (by rfl) (by rfl) (by exact HO.out) (by exact HLit.out) hk60 hbs ?_; intro ad' cap' w' hown hg; have HS2 := hid (And.intro hown (HBo.out w' hg)); clear hown hg))
      all_goals go_wp2_with fail
      all_goals go_roundw
      all_goals first | (simp [intOf]; omega) | skip
      all_goals exact ⟨k + 1, by omega, by go_num, by rw [HTk.out]; exact HS2.out.1, HS2.out.2⟩
    · obtain rfl : k = L.length := by omega
      rw [List.take_length] at hown
      obtain ⟨adO, capO, rfl, -, -, hO⟩ := own_el hown
      have HOw := hid hO
      have hk2 : ¬ ((L.length : Int) < (L.length : Int)) := by omega
      clear hown hb hO
      go_wp2_with fail
      go_ret
      exact ⟨_, ⟨_, rfl⟩, HOw.out, HB.out⟩
end Go.Proofs.YtdpemmmbkjmplabGreatDoor
namespace Go.Proofs.YtdpemmmbkjmplabGreatDoor
open Go.RowKit

theorem Tryz.infoS3 : (Tryz.prog.info? 43).map (fun i => (i.zero, i.size, i.bytes)) = some (some (.agg #[.int .i64 0, .int .i64 0, .int .i64 0]), 3, 24) := by kernel_rfl
def stCells (L : List S3) : List Value := L.flatMap fun s => [.int .i64 s.p, .int .i64 s.r, .int .i64 s.a]
theorem stCells_cons (s : S3) (L : List S3) : stCells (s :: L) = .int .i64 s.p :: .int .i64 s.r :: .int .i64 s.a :: stCells L := rfl
theorem stCells_append (L M : List S3) : stCells (L ++ M) = stCells L ++ stCells M := by simp [stCells, List.flatMap_append]
theorem stCells_length : ∀ L : List S3, (stCells L).length = L.length * 3
  | [] => rfl
  | s :: L => by rw [stCells_cons]; simp [stCells_length L]; omega
theorem stCells_get : ∀ (L : List S3) (i : Nat) (h : i < L.length), (stCells L)[i * 3]? = some (.int .i64 (L[i]'h).p) ∧ (stCells L)[i * 3 + 1]? = some (.int .i64 (L[i]'h).r) ∧ (stCells L)[i * 3 + 2]? = some (.int .i64 (L[i]'h).a)
  | [], i, h => absurd h (Nat.not_lt_zero _)
  | s :: L, 0, _ => ⟨rfl, rfl, rfl⟩
  | s :: L, i + 1, h => by
    have ih := stCells_get L i (by simpa using h)
    rw [stCells_cons, show (i + 1) * 3 = i * 3 + 1 + 1 + 1 by omega]
    simpa using ih
theorem stCells_one (L : List S3) : ∀ u ∈ stCells L, u.oneCell' = true := by
  intro u hu
  obtain ⟨s, -, hs⟩ := List.mem_flatMap.1 hu
  simp at hs
  rcases hs with rfl | rfl | rfl <;> rfl
theorem SL.cells {w : World} {ad : Addr} {L : List S3} (h : SL w (some ad) L) : ∀ j u, (stCells L)[j]? = some u → w.cell? (ad.add j) = some u := by
  intro j u hj
  have hlt : j < (stCells L).length := (List.getElem?_eq_some_iff.1 hj).1
  rw [stCells_length] at hlt
  have hi : j / 3 < L.length := by omega
  obtain ⟨b, off, e, h0, h1, h2⟩ := h (j / 3) hi
  obtain ⟨g0, g1, g2⟩ := stCells_get L (j / 3) hi
  obtain rfl := Option.some.inj e
  rw [addr_add]
  rcases (by omega : j = j / 3 * 3 ∨ j = j / 3 * 3 + 1 ∨ j = j / 3 * 3 + 2) with e | e | e
  · rw [← e] at g0 h0; rw [g0] at hj; rw [← hj]; exact h0
  · rw [← e] at g1; rw [Nat.add_assoc, ← e] at h1; rw [g1] at hj; rw [← hj]; exact h1
  · rw [← e] at g2; rw [Nat.add_assoc, ← e] at h2; rw [g2] at hj; rw [← hj]; exact h2
/-- A row of one's own of states is a slice of them. -/
theorem SL.owned {w : World} {base : Nat} {v : Value} {L : List S3} (h : w.ownsRow base 43 3 v L.length (stCells L)) : ∃ a cap, v = .slice a L.length cap ∧ (a = none → cap = 0) ∧ SL w a L := by
  have hc := h
  rcases h.2 with ⟨rfl, h0⟩ | ⟨g, cap, cur, rfl, hb, hg, hle, hcap, hsz, htk⟩
  · have e : L = [] := List.length_eq_zero_iff.1 h0
    subst e
    exact ⟨none, 0, rfl, fun _ => rfl, SL.nil _ _⟩
  · refine ⟨_, cap, rfl, (fun h => by cases h), fun i hi => ⟨g, 0, rfl, ?_, ?_, ?_⟩⟩
    · have := hc.cellAt (i * 3) (by omega)
      rw [Nat.zero_add, this]; exact (stCells_get L i hi).1
    · have := hc.cellAt (i * 3 + 1) (by omega)
      rw [Nat.zero_add, this]; exact (stCells_get L i hi).2.1
    · have := hc.cellAt (i * 3 + 2) (by omega)
      rw [Nat.zero_add, this]; exact (stCells_get L i hi).2.2
/-- States appended to a row of one's own. -/
theorem wp_append_states {ops : Array Oper} {rest : List Oper} {o : Oper} {a : Act} {Q : Exit → Act → World → Prop} {w : World} (hgd : o.guard = none) (s x : Operand)
    (ho : o.op = .call { callee := .builtin .append, args := #[s, x], argTypes := #[37, 37] }) (base : Nat)
    (v : Value) (M : List S3) (hs : a.eval s = v) (hown : w.ownsRow base 43 3 v M.length (stCells M)) (ad : Option Addr) (n cap : Nat) (L : List S3) (hx : a.eval x = .slice ad n cap) (hn : n = L.length) (hno : ad = none → cap = 0)
    (hL : SL w ad L) (h1 : M.length ≤ 100) (h2 : L.length ≤ 100) (hbase : base ≤ w.heap.size)
    (h : ∀ v' w', w'.ownsRow base 43 3 v' (M ++ L).length (stCells (M ++ L)) → Below base w w' → wpList Tryz.prog ops Q rest (a.put o.dst v') w') : wpList Tryz.prog ops Q (o :: rest) a w := by
  obtain ⟨i0, hi, hz0, hz1, hz2⟩ := info_parts Tryz.infoS3
  subst hn
  cases ad with
  | none =>
    have hc := hno rfl
    subst hc
    have hz : L = [] := by
      cases L with
      | nil => rfl
      | cons y r => obtain ⟨b, off, e, _⟩ := hL 0 (by simp); cases e
    subst hz
    refine wpList_append_own_none hgd s x 37 ho base 43 i0 3 Tryz.underlying37 hi v M.length (stCells M) hs hown hx ?_
    exact h v w (by rw [List.append_nil]; exact hown) (Below.refl _ _)
  | some ad =>
    refine wpList_append_own _ hgd s x 37 ho base 43 i0 _ 3 24 Tryz.underlying37 hi hz0 hz1 hz2 rfl (by decide) v M.length (stCells M) hs hown ad L.length cap (stCells L) hx (stCells_length L) hL.cells (stCells_one L) (by unfold maxLen; omega) (by omega) hbase ?_
    intro v' w' h3 h4 _
    refine h v' w' (by rw [List.length_append, stCells_append]; exact h3) ((Below.refl _ _).grown h4 hbase fun k hk => ?_)
    rcases hown.2 with ⟨rfl, _⟩ | ⟨g, cap', cur, rfl, hb, _⟩
    · cases hk
    · simp [Value.ownBlock] at hk; omega
/-- Where a slice's tail begins. -/
def cutA (a : Option Addr) (cap k : Nat) : Option Addr := if cap = k then a else a.map (·.add (k * 3))
theorem slice_tail (a : Option Addr) (len cap k : Nat) (w : World) (h : k ≤ len) : (Instr.slice 37 (.slice a len cap) (some (.int .i64 (k : Int))) none none).run Tryz.prog w = .ok (.slice (cutA a cap k) (len - k) (cap - k)) w := by
  have ht : Tryz.prog.underlying 37 = some (.slice (Tryz.prog.elem 37)) := by kernel_rfl
  have hs : (sizeOf (Tryz.prog.elem 37)).run Tryz.prog w = .ok 3 w := by kernel_rfl
  rw [run_slice_l (P := Tryz.prog) (w := w) (t := 37) (a := a) (len := len) (cap := cap) (ht := ht) (kl := .i64) (l := (k : Int)) (h0 := by omega) (h1 := by omega), hs]
  simp [Result.andThen, sliced, cutA]
theorem SL.tail {w : World} {a : Option Addr} {L : List S3} (h : SL w a L) (cap k : Nat) (hc : L.length ≤ cap) : SL w (cutA a cap k) (L.drop k) := by
  intro i hi
  have hi2 : k + i < L.length := by rw [List.length_drop] at hi; omega
  obtain ⟨b, off, rfl, h0, h1, h2⟩ := h (k + i) hi2
  refine ⟨b, off + k * 3, ?_, ?_, ?_, ?_⟩
  · unfold cutA; rw [if_neg (by omega)]; simp [addr_add]
  · rw [List.getElem_drop, show off + k * 3 + i * 3 = off + (k + i) * 3 by omega]; exact h0
  · rw [List.getElem_drop, show off + k * 3 + i * 3 + 1 = off + (k + i) * 3 + 1 by omega]; exact h1
  · rw [List.getElem_drop, show off + k * 3 + i * 3 + 2 = off + (k + i) * 3 + 2 by omega]; exact h2
theorem cutA_none {a : Option Addr} {cap k : Nat} (h : a = none → cap = 0) : cutA a cap k = none → cap - k = 0 := by
  intro e
  cases a with
  | none => have := h rfl; omega
  | some x => unfold cutA at e; split at e <;> simp at e
end Go.Proofs.YtdpemmmbkjmplabGreatDoor
namespace Go.Proofs.YtdpemmmbkjmplabGreatDoor
open Go.RowKit

theorem rmay_yes (a b : Nat) (w : World) (h : mayN a b) : Calls Tryz.prog 23 #[.int .i64 (a : Int), .int .i64 (b : Int)] w fun e w' => e = .returned (.bool true) ∧ w' = w := by
  obtain ⟨ha, hb, h⟩ := h
  have a5 : (a : Int) ≤ 5 := by omega
  have b5 : (b : Int) ≤ 5 := by omega
  by_cases e : a = b
  · subst e
    clear h
    go_enter Tryz.func23, Tryz.ntmps23
    go_wp2_with fail
    go_ret
    exact ⟨rfl, rfl⟩
  · have ne : ¬ (a : Int) = (b : Int) := by omega
    rcases (by omega : a = 0 ∨ (a = 1 ∧ ¬ b = 0) ∨ (a = 4 ∧ ¬ b = 0 ∧ ¬ b = 1) ∨ (a = 5 ∧ ¬ b = 0 ∧ ¬ b = 1)) with rfl | ⟨rfl, h0⟩ | ⟨rfl, h0, h1⟩ | ⟨rfl, h0, h1⟩
    · clear h
      have ne2 : ¬ (0 : Int) = (b : Int) := by omega
      go_enter Tryz.func23, Tryz.ntmps23
      go_wp2_with fail
      go_ret
      exact ⟨rfl, rfl⟩
    · clear h
      have ne2 : ¬ (1 : Int) = (b : Int) := by omega
      have n0 : ¬ (b : Int) = 0 := by omega
      have e0 : ((b : Int) != 0) = true := bne_iff_ne.2 n0
      go_enter Tryz.func23, Tryz.ntmps23
      go_wp2_with fail
      go_ret
      exact ⟨by simp [*], rfl⟩
    · clear h
      have ne2 : ¬ (4 : Int) = (b : Int) := by omega
      have n0 : ¬ (b : Int) = 0 := by omega
      have n1 : ¬ (b : Int) = 1 := by omega
      have e0 : ((b : Int) != 0) = true := bne_iff_ne.2 n0
      have e1 : ((b : Int) != 1) = true := bne_iff_ne.2 n1
      go_enter Tryz.func23, Tryz.ntmps23
      go_wp2_with fail
      go_ret
      exact ⟨by simp [*], rfl⟩
    · clear h
      have ne2 : ¬ (5 : Int) = (b : Int) := by omega
      have n0 : ¬ (b : Int) = 0 := by omega
      have n1 : ¬ (b : Int) = 1 := by omega
      have e0 : ((b : Int) != 0) = true := bne_iff_ne.2 n0
      have e1 : ((b : Int) != 1) = true := bne_iff_ne.2 n1
      go_enter Tryz.func23, Tryz.ntmps23
      go_wp2_with fail
      go_ret
      exact ⟨by simp [*], rfl⟩
end Go.Proofs.YtdpemmmbkjmplabGreatDoor
namespace Go.Proofs.YtdpemmmbkjmplabGreatDoor
open Go.RowKit

def bdB (n : Int) (e : E3) : Bool := decide ((0 ≤ e.s ∧ e.s < n) ∧ (0 ≤ e.d ∧ e.d < 6) ∧ (e.p = 2 ∨ e.p = 3))
def spB (P : List E3) (e : E3) : Bool := P.any fun q => decide (q.d = e.d ∧ q.p ≠ e.p)
def heB (P : List E3) (e : E3) : Bool := P.any fun q => decide (q.d = e.d ∧ q.s = e.s)
/-- The number of an event's fault, behind others. -/
def evC (n : Int) (P : List E3) (e : E3) : Nat := if bdB n e = false then 2 else if spB P e = true then 9 else if heB P e = true then 8 else 0
theorem evC_le (n : Int) (P : List E3) (e : E3) : evC n P e ≤ 9 := by
  unfold evC
  repeat' split
  all_goals omega
/-- All of the first k are well. -/
def EvW (n : Int) (L : List E3) (k : Nat) : Prop := ∀ j (h : j < L.length), j < k → evC n (L.take j) (L[j]'h) = 0
theorem EvW.succ {n : Int} {L : List E3} {k : Nat} (h : EvW n L k) (hk : k < L.length) (hc : evC n (L.take k) (L[k]'hk) = 0) : EvW n L (k + 1) := by
  intro j hj hlt
  rcases Nat.lt_succ_iff_lt_or_eq.1 hlt with x | rfl
  · exact h j hj x
  · exact hc
/-- The first fault: its number and place; 0: none. -/
def EvF (n : Int) (L : List E3) (c k : Nat) : Prop := EvW n L k ∧ ((c = 0 ∧ k = L.length) ∨ ∃ h : k < L.length, c ≠ 0 ∧ evC n (L.take k) (L[k]'h) = c)
theorem evF_ex (n : Int) (L : List E3) : ∃ c k, EvF n L c k := by
  have gen : ∀ r k, k + r = L.length → EvW n L k → ∃ c k, EvF n L c k := by
    intro r
    induction r with
    | zero => intro k hk hw; exact ⟨0, k, hw, .inl ⟨rfl, hk⟩⟩
    | succ r ih =>
      intro k hk hw
      have hlt : k < L.length := by omega
      by_cases hc : evC n (L.take k) (L[k]'hlt) = 0
      · exact ih (k + 1) (by omega) (hw.succ hlt hc)
      · exact ⟨_, k, hw, .inr ⟨hlt, hc, rfl⟩⟩
  exact gen L.length 0 (by omega) (fun j _ h => absurd h (Nat.not_lt_zero _))
theorem EvF.le {n : Int} {L : List E3} {c k : Nat} (h : EvF n L c k) : c ≤ 9 := by
  obtain ⟨-, g⟩ := h
  rcases g with ⟨g, -⟩ | ⟨_, _, g⟩
  · omega
  · rw [← g]; exact evC_le _ _ _
/-- What is kept of a deal: its end, and the set of its sites. -/
def endL (P : List E3) (d : Nat) : Int := P.foldl (fun x e => if e.d = (d : Int) then e.p else x) 0
def sitL (P : List E3) (d : Nat) : Int := P.foldl (fun x e => if e.d = (d : Int) then bits .or .i64 x (2 ^ e.s.toNat) else x) 0
theorem endL_snoc (P : List E3) (e : E3) (d : Nat) : endL (P ++ [e]) d = if e.d = (d : Int) then e.p else endL P d := by simp [endL, List.foldl_append]
theorem sitL_snoc (P : List E3) (e : E3) (d : Nat) : sitL (P ++ [e]) d = if e.d = (d : Int) then bits .or .i64 (sitL P d) (2 ^ e.s.toNat) else sitL P d := by simp [sitL, List.foldl_append]
/-- What stands of events that are all well. -/
structure EvK (n : Int) (P : List E3) : Prop where
  bd : ∀ q, q ∈ P → bdB n q = true
  en : ∀ q, q ∈ P → ∀ d : Nat, q.d = (d : Int) → endL P d = q.p
  e0 : ∀ d : Nat, endL P d ≠ 0 → ∃ q, q ∈ P ∧ q.d = (d : Int)
  s0 : ∀ d : Nat, 0 ≤ sitL P d ∧ sitL P d < 128
  si : ∀ (d i : Nat), i < 7 → bit (sitL P d) i = P.any fun q => decide (q.d = (d : Int) ∧ q.s = (i : Int))
theorem EvK.nil (n : Int) : EvK n [] := ⟨fun _ h => (by cases h), fun _ h => (by cases h), fun _ h => absurd rfl h, fun _ => ⟨(show (0 : Int) ≤ 0 by omega), (show (0 : Int) < 128 by omega)⟩, fun d i _ => by show bit 0 i = false; unfold bit; simp⟩
theorem orAllE : ((List.range 128).all fun s => (List.range 7).all fun q => (decide (s ||| 2 ^ q < 128)) && (List.range 7).all fun j => (Nat.testBit (s ||| 2 ^ q) j == (Nat.testBit s j || decide (q = j)))) = true := by decide +kernel
theorem bit_orE {x : Int} {q : Nat} (h0 : 0 ≤ x) (h1 : x < 128) (hq : q < 7) : (0 ≤ bits .or .i64 x (2 ^ q) ∧ bits .or .i64 x (2 ^ q) < 128) ∧ ∀ j, j < 7 → bit (bits .or .i64 x (2 ^ q)) j = (bit x j || decide (q = j)) := by
  obtain ⟨s, rfl⟩ := Int.eq_ofNat_of_zero_le h0
  have hs : s < 128 := by omega
  have h := List.all_eq_true.1 (List.all_eq_true.1 orAllE s (List.mem_range.2 hs)) q (List.mem_range.2 hq)
  rw [Bool.and_eq_true] at h
  have h3 : (2 : Nat) ^ q < 9223372036854775808 := Nat.lt_of_lt_of_le (Nat.pow_lt_pow_right (by decide) hq) (by decide)
  have h4 := of_decide_eq_true h.1
  rw [pow_nat, bits_or_nat s (2 ^ q) (by omega) h3]
  refine ⟨by omega, fun j hj => ?_⟩
  have := List.all_eq_true.1 h.2 j (List.mem_range.2 hj)
  unfold bit
  rw [Int.toNat_natCast, Int.toNat_natCast]
  exact eq_of_beq this
theorem evC_zero {n : Int} {P : List E3} {e : E3} (h : evC n P e = 0) : bdB n e = true ∧ spB P e = false ∧ heB P e = false := by
  unfold evC at h
  split at h
  · cases h
  · rename_i h1
    split at h
    · cases h
    · rename_i h2
      split at h
      · cases h
      · rename_i h3
        refine ⟨?_, ?_, ?_⟩
        · cases hb : bdB n e with
          | true => rfl
          | false => exact absurd hb h1
        · cases hb : spB P e with
          | false => rfl
          | true => exact absurd hb h2
        · cases hb : heB P e with
          | false => rfl
          | true => exact absurd hb h3
theorem EvK.snoc {n : Int} {P : List E3} {e : E3} (hn : n ≤ 7) (h : EvK n P) (hc : evC n P e = 0) : EvK n (P ++ [e]) := by
  obtain ⟨c1, c2, c3⟩ := evC_zero hc
  have b := of_decide_eq_true c1
  refine ⟨fun q hq => ?_, fun q hq d hd => ?_, fun d hd => ?_, fun d => ?_, fun d i hi => ?_⟩
  · rcases List.mem_append.1 hq with x | x
    · exact h.bd q x
    · rw [List.mem_singleton] at x; rw [x]; exact c1
  · rw [endL_snoc]
    rcases List.mem_append.1 hq with x | x
    · split
      · rename_i he
        have := List.any_eq_false.1 c2 q x
        simp only [decide_eq_true_eq, not_and] at this
        have h2 := this (by omega)
        omega
      · exact h.en q x d hd
    · rw [List.mem_singleton] at x
      subst x
      rw [if_pos hd]
  · rw [endL_snoc] at hd
    split at hd
    · rename_i he
      exact ⟨e, List.mem_append.2 (.inr (List.mem_singleton.2 rfl)), he⟩
    · obtain ⟨q, h1, h2⟩ := h.e0 d hd
      exact ⟨q, List.mem_append.2 (.inl h1), h2⟩
  · rw [sitL_snoc]
    split
    · exact (bit_orE (h.s0 d).1 (h.s0 d).2 (by omega)).1
    · exact h.s0 d
  · rw [sitL_snoc, List.any_append, List.any_cons, List.any_nil, Bool.or_false]
    split
    · rename_i he
      rw [(bit_orE (h.s0 d).1 (h.s0 d).2 (by omega)).2 i hi, h.si d i hi]
      congr 1
      refine decide_eq_decide.2 ?_
      omega
    · rename_i he
      rw [h.si d i hi, decide_eq_false (fun x => he x.1), Bool.or_false]
theorem EvW.kept {n : Int} {L : List E3} (hn : n ≤ 7) : ∀ {k : Nat}, k ≤ L.length → EvW n L k → EvK n (L.take k)
  | 0, _, _ => by rw [List.take_zero]; exact EvK.nil n
  | k + 1, hk, h => by
    rw [take_snoc L k hk]
    exact (EvW.kept hn (Nat.le_of_succ_le hk) (fun j hj hlt => h j hj (Nat.lt_succ_of_lt hlt))).snoc hn (h k hk (Nat.lt_succ_self _))
/-- The program's tests, by what it keeps. -/
theorem EvK.split {n : Int} {P : List E3} (h : EvK n P) {e : E3} {d : Nat} (hd : e.d = (d : Int)) : spB P e = (endL P d != 0 && endL P d != e.p) := by
  rw [Bool.eq_iff_iff, Bool.and_eq_true, bne_iff_ne, bne_iff_ne]
  unfold spB
  rw [List.any_eq_true]
  constructor
  · rintro ⟨q, hq, hx⟩
    have hx := of_decide_eq_true hx
    have h1 := h.en q hq d (by omega)
    have h2 := of_decide_eq_true (h.bd q hq)
    omega
  · rintro ⟨h1, h2⟩
    obtain ⟨q, hq, hqd⟩ := h.e0 d h1
    have h3 := h.en q hq d hqd
    exact ⟨q, hq, decide_eq_true ⟨by omega, by omega⟩⟩
theorem EvK.held {n : Int} {P : List E3} (h : EvK n P) {e : E3} {d i : Nat} (hd : e.d = (d : Int)) (hi : e.s = (i : Int)) (h7 : i < 7) : heB P e = bit (sitL P d) i := by
  rw [h.si d i h7]
  unfold heB
  rw [hd, hi]
end Go.Proofs.YtdpemmmbkjmplabGreatDoor
