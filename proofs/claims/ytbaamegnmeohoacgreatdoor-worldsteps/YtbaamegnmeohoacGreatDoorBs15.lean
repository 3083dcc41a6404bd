/-
  On the way to WStepsProof: VD VB.
-/
import Derived.Test.YtbaamegnmeohoacGreatDoorBs12
import Derived.Test.YtbaamegnmeohoacGreatDoorBs14
import Derived.Deep.RegionLaw
import Derived.Deep.MidRow
import Derived.Laws.IdiomCopy
import Derived.Lib.SliceRun
import Derived.DeepKeys4
namespace Go.Proofs.YtbaamegnmeohoacGreatDoor
open Go.RowKit
theorem row_setCells {g : Nat} {t : TypeId} : ∀ (vs : List Value) (o : Nat) (w : World) (cur : Array Value), w.heap[g]? = some (.cells cur t (0, 0)) → o + vs.length ≤ cur.size →
    (w.setCells g o vs).heap[g]? = some (.cells (cur.toList.take o ++ vs ++ cur.toList.drop (o + vs.length)).toArray t (0, 0))
  | [], o, w, cur, h, _ => by simpa [World.setCells] using h
  | v :: r, o, w, cur, h, hl => by
    have h1 := heap_setCell_same w g o _ _ v h
    have hl' : o + (r.length + 1) ≤ cur.size := by simpa using hl
    have h2 := row_setCells r (o + 1) (w.setCell ⟨g, o, none⟩ v) _ h1 (by simp; omega)
    show ((w.setCell ⟨g, o, none⟩ v).setCells g (o + 1) r).heap[g]? = _
    rw [h2]
    congr 2
    apply Array.ext'
    simp only [Array.toList_setIfInBounds]
    rw [List.take_set, List.drop_set_of_lt (by omega), List.take_add_one]
    have hg : cur.toList[o]? = some (cur.toList[o]'(by simp; omega)) := List.getElem?_eq_getElem _
    rw [hg]
    simp only [Option.toList, List.set_append, List.length_take, Array.length_toList]
    rw [if_neg (by omega), show o - min o cur.size = 0 by omega]
    simp
    congr 1
    omega
theorem kept_setCells (g : Nat) : ∀ (vs : List Value) (o : Nat) (w : World), Kept (In1 g) w (w.setCells g o vs)
  | [], _, w => Kept.refl _ w
  | v :: r, o, w => ((Kept.refl _ w).set1 o v).trans (kept_setCells g r (o + 1) _)
def zF : List Value := [.int .i64 0, .int .i64 0, .int .i64 0, .int .i64 0, .int .i64 0, .bool false, .int .i64 0, .int .i64 0, .int .i64 0]
theorem zF_len : zF.length = 9 := rfl
theorem zF_one : ∀ u ∈ zF, u.oneCell' = true := by
  intro u hu
  simp [zF] at hu
  rcases hu with rfl | rfl | rfl <;> rfl
theorem run_clear1 (w : World) (ty : TypeId) (b o c : Nat) (hc : ∀ j, j < 9 → (w.cell? ⟨b, o + j, none⟩).isSome = true) (hf : ∀ j, j < 9 → w.frozen? ⟨b, o + j, none⟩ = false) :
    (Builtin.clear_ #[49] ty #[.slice (some ⟨b, o, none⟩) 1 c]).run Tryz.prog w = .ok (.tuple #[]) (w.setCells b o zF) := by
  have hzc : (Builtin.zeroCells (frV 0 0 0 0 0 false 0 0 0).cells 1).toList = zF := by first | rfl | kernel_rfl
  have hst := run_storeCells_cells (P := Tryz.prog) b o zF 0 w (by simpa [zF] using hc) (by simpa [zF] using hf) zF_one
  simp only [Nat.add_zero] at hst
  simp [Builtin.clear_, run_underlying Tryz.underlying49, hzc, hst]
theorem frCells_take (L : List F9) (k : Nat) : frCells (L.take k) = (frCells L).take (k * 9) := by
  induction L generalizing k with
  | nil => simp [frCells]
  | cons x r ih =>
    cases k with
    | zero => simp [frCells]
    | succ k =>
      simp only [List.take_succ_cons, frCells, List.flatMap_cons] at *
      rw [ih, List.take_append, f9L_length, List.take_of_length_le (l := f9L x) (by rw [f9L_length]; omega), show (k + 1) * 9 - 9 = k * 9 by omega]
theorem frCells_drop (L : List F9) (k : Nat) : frCells (L.drop k) = (frCells L).drop (k * 9) := by
  induction L generalizing k with
  | nil => simp [frCells]
  | cons x r ih =>
    cases k with
    | zero => simp [frCells]
    | succ k =>
      simp only [List.drop_succ_cons, frCells, List.flatMap_cons] at *
      rw [ih, List.drop_append, f9L_length, List.drop_of_length_le (l := f9L x) (by rw [f9L_length]; omega), show (k + 1) * 9 - 9 = k * 9 by omega]
      simp
set_option maxHeartbeats 4000000 in
set_option maxRecDepth 100000 in
theorem del_frs (base g cap k j n : Nat) (cur : Array Value) (L : List F9) (w : World) (hg : w.heap[g]? = some (.cells cur 130 (0, 0))) (hb : base ≤ g) (hn : L.length = n) (h1 : n ≤ cap) (h2 : cap ≤ maxLen) (hs : cur.size = cap * 9) (ht : cur.toList.take (n * 9) = frCells L) (hk : k < n) (hj : j = k + 1) :
    Calls Tryz.prog 141 #[.slice (some ⟨g, 0, none⟩) n cap, .int .i64 (k : Int), .int .i64 (j : Int)] w fun e w' => e = .returned (.slice (some ⟨g, 0, none⟩) (n - 1) cap) ∧ w'.ownsRow base 130 9 (.slice (some ⟨g, 0, none⟩) (n - 1) cap) (n - 1) (frCells (L.eraseIdx k)) ∧ Kept (In1 g) w w' := by
  obtain ⟨i0, hi0, hz0, hz1, hz2⟩ := info_parts Tryz.infoFq
  have hmul : n * 9 ≤ cap * 9 := Nat.mul_le_mul_right 9 h1
  have hcell : ∀ x, x < n * 9 → w.cell? ⟨g, x, none⟩ = (frCells L)[x]? := fun x hx => by
    rw [cell_of_row _ _ _ _ _ _ hg, ← ht, List.getElem?_take_of_lt hx, Array.getElem?_toList]
  have hsome : ∀ x, x < cap * 9 → (w.cell? ⟨g, x, none⟩).isSome = true := fun x hx => by
    rw [cell_of_row _ _ _ _ _ _ hg, Array.getElem?_eq_getElem (by rw [hs]; exact hx)]; rfl
  have hfz : ∀ x, w.frozen? ⟨g, x, none⟩ = false := fun x => frozen_of_row _ _ _ _ _ hg
  have hLl := frCells_length L
  obtain ⟨news, HN⟩ : ∃ news, Hid (news = frCells (L.drop j)) := ⟨_, rfl⟩
  have HL : Hid (news.length = (n - j) * 9) := by rw [HN.out, frCells_length, List.length_drop, hn]; exact rfl
  obtain ⟨a0, hA, hsrc⟩ : ∃ a0 : Addr, (if cap = j then some (⟨g, 0, none⟩ : Addr) else some ⟨g, j * 9, none⟩) = some a0 ∧ Hid (∀ t u, news[t]? = some u → w.drew.cell? (a0.add t) = some u) := by
    by_cases h : cap = j
    · refine ⟨⟨g, 0, none⟩, by simp [h], fun t u hu => ?_⟩
      have h0 : news.length = 0 := by rw [HL.out]; omega
      rw [List.length_eq_zero_iff.1 h0] at hu
      simp at hu
    · refine ⟨⟨g, j * 9, none⟩, by simp [h], fun t u hu => ?_⟩
      have htt := (List.getElem?_eq_some_iff.1 hu).1
      rw [HL.out] at htt
      rw [addr_add]
      show w.cell? ⟨g, j * 9 + t, none⟩ = some u
      rw [hcell _ (by omega), ← hu, HN.out, frCells_drop, List.getElem?_drop]
  have s2 : Hid (∀ u ∈ news, u.oneCell' = true) := by rw [HN.out]; exact frCells_one _
  have s3 : Hid (∀ t, t < news.length → (w.drew.cell? ⟨g, 0 + k * 9 + t, none⟩).isSome = true ∧ w.drew.frozen? ⟨g, 0 + k * 9 + t, none⟩ = false) := by
    intro t htt
    rw [HL.out] at htt
    exact ⟨hsome _ (by omega), hfz _⟩
  obtain ⟨W1, HW1⟩ : ∃ W1, Hid (w.drew.setCells g (0 + k * 9) news = W1) := ⟨_, rfl⟩
  have HR1 : Hid (W1.heap[g]? = some (.cells (cur.toList.take (0 + k * 9) ++ news ++ cur.toList.drop (0 + k * 9 + news.length)).toArray 130 (0, 0))) := by
    rw [← HW1.out]; exact row_setCells news _ w.drew cur hg (by rw [HL.out, hs]; omega)
  have HK1 : Hid (Kept (In1 g) w W1) := by rw [← HW1.out]; exact (Kept.refl _ w).drew.trans (kept_setCells g news _ _)
  have hsz : (cur.toList.take (0 + k * 9) ++ news ++ cur.toList.drop (0 + k * 9 + news.length)).length = cap * 9 := by
    rw [List.length_append, List.length_append, List.length_take, List.length_drop, HL.out, Array.length_toList, hs]; omega
  have hcl : ∀ ty, (Builtin.clear_ #[49] ty #[.slice (some ⟨g, (k + (n - j)) * 9, none⟩) (n - (k + (n - j))) (cap - (k + (n - j)))]).run Tryz.prog W1 = .ok (.tuple #[]) (W1.setCells g ((k + (n - j)) * 9) zF) := by
    intro ty
    rw [show n - (k + (n - j)) = 1 by omega]
    exact run_clear1 W1 ty g _ _ (fun x hx => by rw [cell_of_row _ _ _ _ _ _ HR1.out, List.getElem?_toArray, List.getElem?_eq_getElem (by rw [hsz]; omega)]; rfl) (fun x _ => frozen_of_row _ _ _ _ _ HR1.out)
  have HF : Hid ((W1.setCells g ((k + (n - j)) * 9) zF).ownsRow base 130 9 (.slice (some ⟨g, 0, none⟩) (n - 1) cap) (n - 1) (frCells (L.eraseIdx k))) := by
    have hr := row_setCells zF ((k + (n - j)) * 9) W1 _ HR1.out (by rw [List.size_toArray, hsz, zF_len]; omega)
    refine ⟨by rw [frCells_length, List.length_eraseIdx_of_lt (by omega), hn], .inr ⟨g, cap, _, rfl, hb, hr, by omega, h2, ?_, ?_⟩⟩
    · rw [List.size_toArray, List.length_append, List.length_append, List.length_take, List.length_drop, List.toList_toArray, hsz, zF_len]
      omega
    · have hE1 : n - 1 = k + (n - j) := by omega
      rw [List.toList_toArray, List.toList_toArray, hE1]
      rw [List.append_assoc, List.take_append_of_le_length (by rw [List.length_take, hsz]; omega), List.take_take, Nat.min_self]
      rw [List.take_append_of_le_length (by rw [List.length_append, List.length_take, Array.length_toList, HL.out, hs]; omega), List.take_of_length_le (by rw [List.length_append, List.length_take, Array.length_toList, HL.out, hs]; omega)]
      rw [HN.out, List.eraseIdx_eq_take_drop_succ, frCells_append, frCells_take, hj, Nat.zero_add, ← ht, List.take_take, Nat.min_eq_left (by omega)]
  have HK2 : Hid (Kept (In1 g) w (W1.setCells g ((k + (n - j)) * 9) zF)) := HK1.out.trans (kept_setCells g _ _ _)
  have HE : Hid (n - 1 = k + (n - j)) := by show n - 1 = k + (n - j); omega
  have h63 : cap ≤ 9223372036854775807 := by unfold maxLen at h2; omega
  have hkc : k ≤ cap := by omega
  have hjc : j ≤ cap := by omega
  have hjn : j ≤ n := by omega
  have hkj : k < j := by omega
  clear hcell hsome hfz hg ht hs hj hLl hsz hmul
  rw [HE.out] at HF ⊢
  go_enter Tryz.func141, Tryz.ntmps141
  go_wp2_with fail
  go_region_law (refine step_append_room rfl (.tmp 22) (.tmp 25) 49 rfl 130 i0 9 Tryz.underlying49 hi0 hz1 g 0 k cap (by simp [Act.eval, Act.put]) a0 (n - j) (cap - j) news (by simp [Act.eval, Act.put]) HL.out hsrc.out s2.out (by omega) s3.out ?_; rw [HW1.out])
  go_wp2
  go_ret
  exact ⟨rfl, HF.out, HK2.out⟩
theorem get_spliced (cur vs : List Value) (o k : Nat) (h : o + vs.length ≤ cur.length) : (cur.take o ++ vs ++ cur.drop (o + vs.length))[k]? = if k < o then cur[k]? else if k < o + vs.length then vs[k - o]? else cur[k]? := by
  by_cases h1 : k < o
  · rw [if_pos h1, List.append_assoc, List.getElem?_append_left (by rw [List.length_take]; omega), List.getElem?_take_of_lt h1]
  · rw [if_neg h1]
    by_cases h2 : k < o + vs.length
    · rw [if_pos h2, List.append_assoc, List.getElem?_append_right (by rw [List.length_take]; omega), List.length_take, show min o cur.length = o by omega, List.getElem?_append_left (by omega)]
    · rw [if_neg h2, List.getElem?_append_right (by rw [List.length_append, List.length_take]; omega), List.length_append, List.length_take, show min o cur.length = o by omega, List.getElem?_drop]
      congr 1
      omega
def OwnF (w : World) (base : Nat) (v : Value) (L : List F9) : Prop :=
  (v = .slice none 0 0 ∧ L = []) ∨ ∃ g o cap, ∃ cur : Array Value, v = .slice (some ⟨g, o, none⟩) L.length cap ∧ base ≤ g ∧ w.heap[g]? = some (.cells cur 130 (0, 0)) ∧ L.length ≤ cap ∧ cap ≤ maxLen ∧ o + cap * 9 ≤ cur.size ∧ ∀ j, j < L.length * 9 → cur[o + j]? = (frCells L)[j]?
section
variable {w w' : World} {base : Nat} {v : Value} {L : List F9}
theorem OwnF.of_own (h : w.ownsRow base 130 9 v L.length (frCells L)) : OwnF w base v L := by
  rcases h.2 with ⟨rfl, h0⟩ | ⟨g, cap, cur, rfl, hb, hg, hle, hcap, hsz, htk⟩
  · exact .inl ⟨rfl, List.length_eq_zero_iff.1 h0⟩
  · refine .inr ⟨g, 0, cap, cur, rfl, hb, hg, hle, hcap, by omega, fun j hj => ?_⟩
    rw [← htk, List.getElem?_take_of_lt hj, Array.getElem?_toList, Nat.zero_add]
theorem OwnF.kept {S : Nat → Prop} (h : OwnF w base v L) (k : Kept S w w') (hs : ∀ g, v.ownBlock = some g → ¬ S g) : OwnF w' base v L := by
  rcases h with h | ⟨g, o, cap, cur, rfl, hb, hg, rest⟩
  · exact .inl h
  · exact .inr ⟨g, o, cap, cur, rfl, hb, k.row hg (hs g rfl), rest⟩
theorem OwnF.lt (h : OwnF w base v L) : ∀ g, v.ownBlock = some g → base ≤ g ∧ g < w.heap.size := by
  intro x hx
  rcases h with ⟨rfl, -⟩ | ⟨g, o, cap, cur, rfl, hb, hg, rest⟩
  · cases hx
  · obtain rfl : g = x := Option.some.inj hx
    exact ⟨hb, row_ltJ hg⟩
theorem OwnF.form (h : OwnF w base v L) : ∃ ad cap, v = .slice ad L.length cap := by
  rcases h with ⟨rfl, rfl⟩ | ⟨g, o, cap, cur, rfl, -⟩
  · exact ⟨none, 0, rfl⟩
  · exact ⟨_, _, rfl⟩
theorem OwnF.isFr (h : OwnF w base v L) : IsFr w v L := by
  rcases h with ⟨rfl, rfl⟩ | ⟨g, o, cap, cur, rfl, hb, hg, hle, hcap, hsz, hc⟩
  · exact IsFr.zero w
  · refine ⟨_, cap, rfl, fun i hi => ⟨g, o, rfl, fun j hj => ?_⟩⟩
    rw [cell_of_row _ _ _ _ _ _ hg, Nat.add_assoc, hc _ (by omega), frCells_get L i j hi hj]
theorem OwnF.splice {g o cap : Nat} {cur : Array Value} {M : List F9} (hb : base ≤ g) (hg : w.heap[g]? = some (.cells cur 130 (0, 0))) (hle : L.length + M.length ≤ cap) (hcap : cap ≤ maxLen) (hsz : o + cap * 9 ≤ cur.size) (hc : ∀ j, j < L.length * 9 → cur[o + j]? = (frCells L)[j]?) :
    OwnF (w.setCells g (o + L.length * 9) (frCells M)) base (.slice (some ⟨g, o, none⟩) (L.length + M.length) cap) (L ++ M) := by
  have hl := frCells_length M
  have hfit : o + L.length * 9 + (frCells M).length ≤ cur.size := by rw [hl]; have := Nat.mul_le_mul_right 9 hle; rw [Nat.add_mul] at this; omega
  have hr := row_setCells (frCells M) (o + L.length * 9) w cur hg hfit
  refine .inr ⟨g, o, cap, _, by rw [List.length_append], hb, hr, by rw [List.length_append]; exact hle, hcap, ?_, fun j hj => ?_⟩
  · rw [List.size_toArray, List.length_append, List.length_append, List.length_take, List.length_drop, Array.length_toList (xs := cur)]; omega
  · rw [List.length_append, Nat.add_mul] at hj
    rw [List.getElem?_toArray, get_spliced _ _ _ _ (by rw [Array.length_toList (xs := cur)]; exact hfit), frCells_append]
    by_cases h1 : j < L.length * 9
    · rw [if_pos (by omega), Array.getElem?_toList, hc j h1, List.getElem?_append_left (by rw [frCells_length]; exact h1)]
    · rw [if_neg (by omega), if_pos (by omega), List.getElem?_append_right (by rw [frCells_length]; omega), frCells_length]
      congr 1
      omega
end
structure NB where
  nd : Nat
  s : Nat
  j : Nat
  mb : Nat
  p : Nat
  q : Nat
  lb : Nat → Nat
  b : Nat → Nat
  cap : Nat → Nat
def ldV (K : NB) (N : PN) (d : Nat) : Value := match N.ld d with
  | none => .pointer none
  | some _ => .pointer (some ⟨K.lb d, 0, none⟩)
theorem ldV_none {K : NB} {N : PN} {d : Nat} (h : N.ld d = none) : ldV K N d = .pointer none := by unfold ldV; rw [h]
theorem ldV_some {K : NB} {N : PN} {d : Nat} {x : Int × PL} (h : N.ld d = some x) : ldV K N d = .pointer (some ⟨K.lb d, 0, none⟩) := by unfold ldV; rw [h]
def ndC (K : NB) (N : PN) : List Value := [.pointer (some ⟨K.s, 0, none⟩), ldV K N 0, ldV K N 1, ldV K N 2, ldV K N 3, ldV K N 4, ldV K N 5]
structure ND (w0 w : World) (C : Nat → Nat) (K : NB) (i : Nat) (zs : List Int) (N : PN) (m : Nat) : Prop where
  row : w.heap[K.nd]? = some (.cells (ndC K N).toArray 92 (0, 0))
  sp : SP w0 w K.s K.j K.mb K.p K.q i N.R m (dlN N) N.over N.B N.l
  lds : ∀ d, d < 6 → ∀ x, N.ld d = some x → LD w (K.lb d) (K.b d) (K.cap d) i d x.1 zs x.2
  cn : C K.nd = 100 * i + 1
  cs : C K.s = 100 * i + 2
  cj : C K.j = 100 * i + 3
  cm : C K.mb = 100 * i + 4
  cp : C K.p = 100 * i + 5
  cq : C K.q = 100 * i + 6
  cl : ∀ d, d < 6 → ∀ x, N.ld d = some x → C (K.lb d) = 100 * i + 10 + d ∧ C (K.b d) = 100 * i + 20 + d
  n0 : w0.heap.size ≤ K.nd
section
variable {w0 w w' : World} {C C' : Nat → Nat} {K : NB} {i m : Nat} {zs : List Int} {N : PN}
theorem ND.kept {S : Nat → Prop} (h : ND w0 w C K i zs N m) (k : Kept S w w') (hS : ∀ x, x < w.heap.size → C x / 100 = i → ¬ S x) (hb : ∀ x, S x → w0.heap.size ≤ x) : ND w0 w' C K i zs N m := by
  obtain ⟨l1, l2, l3, l4, l5⟩ := h.sp.lts
  have e1 := h.cs; have e2 := h.cj; have e3 := h.cm; have e4 := h.cp; have e5 := h.cq; have e6 := h.cn
  refine ⟨k.row h.row (hS _ (row_ltJ h.row) (by omega)), h.sp.far k hb ?_ (hS _ l1 (by omega)) (hS _ l2 (by omega)), fun d hd x hx => ?_, h.cn, h.cs, h.cj, h.cm, h.cp, h.cq, h.cl, h.n0⟩
  · rintro x (rfl | rfl | rfl)
    · exact hS _ l3 (by omega)
    · exact hS _ l4 (by omega)
    · exact hS _ l5 (by omega)
  · have g := h.cl d hd x hx
    have r := h.lds d hd x hx
    have r1 := row_ltJ r.row
    exact r.kept k (hS _ r1 (by omega)) (hS _ (Nat.lt_trans r.bl r1) (by omega))
theorem ND.later (h : ND w0 w C K i zs N m) (hb : Below w.heap.size w w') : ND w0 w' C K i zs N m :=
  h.kept (S := fun _ => False) (Kept.of_below hb) (fun _ _ _ x => x) (fun _ x => x.elim)
theorem ND.col (h : ND w0 w C K i zs N m) (hC : ∀ x, x < w.heap.size → C' x = C x) : ND w0 w C' K i zs N m := by
  obtain ⟨l1, l2, l3, l4, l5⟩ := h.sp.lts
  refine ⟨h.row, h.sp, h.lds, (hC _ (row_ltJ h.row)).trans h.cn, (hC _ l1).trans h.cs, (hC _ l3).trans h.cj, (hC _ l2).trans h.cm, (hC _ l4).trans h.cp, (hC _ l5).trans h.cq, fun d hd x hx => ?_, h.n0⟩
  have g := h.cl d hd x hx
  have r := h.lds d hd x hx
  have r1 := row_ltJ r.row
  exact ⟨(hC _ r1).trans g.1, (hC _ (Nat.lt_trans r.bl r1)).trans g.2⟩
theorem ND.mono {k : Nat} (h : ND w0 w C K i zs N m) (hk : m ≤ k) : ND w0 w C K i zs N k := ⟨h.row, h.sp.mono hk, h.lds, h.cn, h.cs, h.cj, h.cm, h.cp, h.cq, h.cl, h.n0⟩
theorem ND.cell (h : ND w0 w C K i zs N m) (j : Nat) : w.cell? ⟨K.nd, j, none⟩ = (ndC K N)[j]? := by
  rw [cell_of_row w K.nd j _ _ _ h.row, List.getElem?_toArray]
theorem ND.site (h : ND w0 w C K i zs N m) : w.cell? ⟨K.nd, 0, none⟩ = some (.pointer (some ⟨K.s, 0, none⟩)) := h.cell 0
theorem ND.lead (h : ND w0 w C K i zs N m) {d : Nat} (hd : d < 6) : w.cell? ⟨K.nd, 1 + d, none⟩ = some (ldV K N d) := by
  rw [h.cell]
  rcases six hd with rfl | rfl | rfl | rfl | rfl | rfl <;> rfl
theorem ND.fz (h : ND w0 w C K i zs N m) (j : Nat) : w.frozen? ⟨K.nd, j, none⟩ = false := frozen_of_row w K.nd j _ _ h.row
theorem ND.way (h : ND w0 w C K i zs N m) : w.cell? ⟨K.nd, 0, none⟩ = some (.pointer (some ⟨K.s, 0, none⟩)) ∧ w.cell? ⟨K.s, 0, none⟩ = some (.pointer (some ⟨K.j, 0, none⟩)) ∧ w.cell? ⟨K.j, 0, none⟩ = some (.pointer (some ⟨K.p, 0, none⟩)) :=
  ⟨h.site, h.sp.sr.cells.1, h.sp.jp.jr.plate⟩
end
structure XB where
  xb : Nat
  wb : Nat
  wc : Nat
  nb : Nat
  nc : Nat
  mb : Nat
  fv : Value
  ev : Value
  K : Nat → NB
def wdC (X : XB) (n : Nat) : List Value := [.slice (some ⟨X.wb, 0, none⟩) n X.wc, .slice (some ⟨X.nb, 0, none⟩) n X.nc, .map (some X.mb), X.fv, X.ev]
def pairV (a b : Nat) : Value := .agg #[.int .i64 (a : Int), .int .i64 (b : Int)]
structure WD (w0 w : World) (C : Nat → Nat) (X : XB) (zs : List Int) (V : PX) (m : Nat) : Prop where
  bel : Below w0.heap.size w0 w
  row : w.heap[X.xb]? = some (.cells (wdC X zs.length).toArray 81 (0, 0))
  ws : ∀ i, i < zs.length → w.cell? ⟨X.wb, 0 + i, none⟩ = some (.int .i64 (zs.getD i 0))
  ns : ∀ i, i < zs.length → w.cell? ⟨X.nb, i, none⟩ = some (.pointer (some ⟨(X.K i).nd, 0, none⟩))
  nds : ∀ i, i < zs.length → ND w0 w C (X.K i) i zs (V.nd i) m
  brk : ∃ D : DataW Unit, w.ownsMap Tryz.prog 196 unitElem X.mb m D ∧ ∀ a b, a < 7 → b < 7 → ∀ l, keyOf Tryz.prog 196 (pairV a b) = some l → Maps.has D l = V.br a b
  fly : OwnF w w0.heap.size X.fv V.fly
  evs : w.ownsRow w0.heap.size 45 3 X.ev V.evs.length (evCells V.evs)
  cx : C X.xb = 1001
  cw : C X.wb = 1002
  cn : C X.nb = 1003
  cm : C X.mb = 1004
  cf : ∀ g, X.fv.ownBlock = some g → C g = 1005
  ce : ∀ g, X.ev.ownBlock = some g → C g = 1006
  lt : ∀ x, C x < 2000 → x < w.heap.size
  low : ∀ x, C x < 2000 → w0.heap.size ≤ x
  inv : XI zs V m
theorem own_kept {S : Nat → Prop} {w w' : World} {e : TypeId} {size n base : Nat} {v : Value} {xs : List Value} (h : w.ownsRow base e size v n xs) (k : Kept S w w') (hs : ∀ g, v.ownBlock = some g → ¬ S g) : w'.ownsRow base e size v n xs := by
  refine ⟨h.1, ?_⟩
  rcases h.2 with hn | ⟨g, cap, cur, rfl, hb', hgg, rest⟩
  · exact .inl hn
  · exact .inr ⟨g, cap, cur, rfl, hb', k.row hgg (hs g rfl), rest⟩
theorem cell_kept {S : Nat → Prop} {w w' : World} {a : Addr} {v : Value} (h : w.cell? a = some v) (k : Kept S w w') (hs : ¬ S a.block) : w'.cell? a = some v := by
  have hb := cell_lt h
  unfold World.cell? at h ⊢
  rw [k.block _ hb hs]
  exact h
section
variable {w0 w w' : World} {C C' : Nat → Nat} {X : XB} {m : Nat} {zs : List Int} {V V' : PX}
theorem WD.n7 (h : WD w0 w C X zs V m) : 1 ≤ zs.length ∧ zs.length ≤ 7 := ⟨(errW_zero h.inv.he).1, (errW_zero h.inv.he).2.1⟩
theorem WD.later (h : WD w0 w C X zs V m) (hb : Below w.heap.size w w') : WD w0 w' C X zs V m := by
  have k : Kept (fun _ => False) w w' := Kept.of_below hb
  obtain ⟨D, hD, hh⟩ := h.brk
  exact ⟨h.bel.trans (hb.mono h.bel.size), k.row h.row (fun x => x), fun i hi => cell_kept (h.ws i hi) k (fun x => x), fun i hi => cell_kept (h.ns i hi) k (fun x => x), fun i hi => (h.nds i hi).later hb,
    ⟨D, ownsMap_kept hD k (fun x => x), hh⟩, h.fly.kept k (fun _ _ x => x), own_kept h.evs k (fun _ _ x => x), h.cx, h.cw, h.cn, h.cm, h.cf, h.ce, fun x hx => Nat.lt_of_lt_of_le (h.lt x hx) hb.size, h.low, h.inv⟩
theorem WD.drew (h : WD w0 w C X zs V m) : WD w0 w.drew C X zs V m := h.later (Below.refl _ _).drew
theorem WD.cell (h : WD w0 w C X zs V m) (j : Nat) : w.cell? ⟨X.xb, j, none⟩ = (wdC X zs.length)[j]? := by
  rw [cell_of_row w X.xb j _ _ _ h.row, List.getElem?_toArray]
theorem WD.cells (h : WD w0 w C X zs V m) : w.cell? ⟨X.xb, 0, none⟩ = some (.slice (some ⟨X.wb, 0, none⟩) zs.length X.wc) ∧ w.cell? ⟨X.xb, 1, none⟩ = some (.slice (some ⟨X.nb, 0, none⟩) zs.length X.nc) ∧ w.cell? ⟨X.xb, 2, none⟩ = some (.map (some X.mb)) ∧ w.cell? ⟨X.xb, 3, none⟩ = some X.fv ∧ w.cell? ⟨X.xb, 4, none⟩ = some X.ev :=
  ⟨h.cell 0, h.cell 1, h.cell 2, h.cell 3, h.cell 4⟩
theorem WD.fz (h : WD w0 w C X zs V m) (j : Nat) : w.frozen? ⟨X.xb, j, none⟩ = false := frozen_of_row w X.xb j _ _ h.row
def OwnX (C : Nat → Nat) (x : Nat) : Prop := C x < 2000
theorem WD.held {A : Nat → Addr} (h : WD w0 w C X zs V m) (hE : Held9 w0 A) : Held9 w A := hE.later h.bel
theorem WD.node {S : Nat → Prop} {i m' : Nat} {N : PN} {K : NB} (h : WD w0 w C X zs V m) (k : Kept S w w') (hi : i < zs.length) (hS : ∀ x, S x → C x / 100 = i) (hC : ∀ x, x < w.heap.size → C' x = C x) (hl : ∀ x, w.heap.size ≤ x → C' x < 2000 → x < w'.heap.size) (hN : ND w0 w' C' K i zs N m') (hK : K.nd = (X.K i).nd) (hm : m ≤ m') (hI : XI zs (setNd V i N) m') :
    WD w0 w' C' { X with K := fun e => if e = i then K else X.K e } zs (setNd V i N) m' := by
  have n7 := h.n7.2
  have hs0 := h.bel.size
  have hlow : ∀ x, S x → w0.heap.size ≤ x := fun x hx => h.low x (by have := hS x hx; omega)
  have nS : ∀ x, C x / 100 ≠ i → ¬ S x := fun x hx hs => hx (hS x hs)
  obtain ⟨D, hD, hh⟩ := h.brk
  have cx := h.cx; have cw := h.cw; have cn := h.cn; have cm := h.cm
  have o : ∀ {x c : Nat}, C x = c → c < 2000 → C' x = c := fun {x c} e hc => (hC x (h.lt x (by omega))).trans e
  refine ⟨k.below h.bel.size hlow h.bel, k.row h.row (nS X.xb (by omega)), fun e he => cell_kept (h.ws e he) k (nS _ (by show C X.wb / 100 ≠ i; omega)), fun e he => ?_, fun e he => ?_,
    ⟨D, (ownsMap_kept hD k (nS X.mb (by omega))).mono hm, hh⟩, h.fly.kept k (fun g hg => nS g (by have := h.cf g hg; omega)), own_kept h.evs k (fun g hg => nS g (by have := h.ce g hg; omega)), o h.cx (by omega), o h.cw (by omega), o h.cn (by omega), o h.cm (by omega), fun g hg => o (h.cf g hg) (by omega), fun g hg => o (h.ce g hg) (by omega), fun x hx => ?_, fun x hx => ?_, hI⟩
  · have := cell_kept (h.ns e he) k (nS _ (by show C X.nb / 100 ≠ i; omega))
    rw [this]
    by_cases g : e = i
    · subst g; simp [hK]
    · simp [g]
  · by_cases g : e = i
    · subst g
      simpa [setNd] using hN
    · have := (((h.nds e he).col hC).kept k (fun x hlt hx => nS x (by rw [← hC x hlt]; omega)) hlow).mono hm
      simpa [setNd, g] using this
  · rcases Nat.lt_or_ge x w.heap.size with q | q
    · exact Nat.lt_of_lt_of_le q k.size
    · exact hl x q hx
  · rcases Nat.lt_or_ge x w.heap.size with q | q
    · exact h.low x (by rw [← hC x q]; exact hx)
    · omega
theorem WD.grow (h : WD w0 w C X zs V m) (hb : Below w.heap.size w w') (hC : ∀ x, x < w.heap.size → C' x = C x) (hl : ∀ x, w.heap.size ≤ x → C' x < 2000 → x < w'.heap.size) : WD w0 w' C' X zs V m := by
  have g := h.later hb
  obtain ⟨D, hD, hh⟩ := g.brk
  have hs := h.bel.size
  have o : ∀ {x c : Nat}, C x = c → c < 2000 → C' x = c := fun {x c} e hc => (hC x (h.lt x (by omega))).trans e
  refine ⟨g.bel, g.row, g.ws, g.ns, fun i hi => ((h.nds i hi).col hC).later hb, ⟨D, hD, hh⟩, g.fly, g.evs, o h.cx (by omega), o h.cw (by omega), o h.cn (by omega), o h.cm (by omega), fun g hg => o (h.cf g hg) (by omega), fun g hg => o (h.ce g hg) (by omega), fun x hx => ?_, fun x hx => ?_, h.inv⟩
  · rcases Nat.lt_or_ge x w.heap.size with q | q
    · exact Nat.lt_of_lt_of_le q hb.size
    · exact hl x q hx
  · rcases Nat.lt_or_ge x w.heap.size with q | q
    · exact h.low x (by rw [← hC x q]; exact hx)
    · omega
def paint (C : Nat → Nat) (x c : Nat) : Nat → Nat := fun y => if y = x then c else C y
theorem paint_at (C : Nat → Nat) (x c : Nat) : paint C x c x = c := if_pos rfl
theorem paint_ne {C : Nat → Nat} {x c y : Nat} (h : y ≠ x) : paint C x c y = C y := if_neg h
theorem WD.own {fv ev : Value} {F : List F9} {E : List E3} {m' : Nat} {S : Nat → Prop} (h : WD w0 w C X zs V m) (k : Kept S w w') (hS : ∀ x, S x → C x = 1001 ∨ C x = 1005 ∨ C x = 1006) (hC : ∀ x, x < w.heap.size → C' x = C x) (hl : ∀ x, w.heap.size ≤ x → C' x < 2000 → x < w'.heap.size) (hr : w'.heap[X.xb]? = some (.cells (wdC { X with fv := fv, ev := ev } zs.length).toArray 81 (0, 0)))
    (hf : OwnF w' w0.heap.size fv F) (he : w'.ownsRow w0.heap.size 45 3 ev E.length (evCells E)) (cf : ∀ g, fv.ownBlock = some g → C' g = 1005) (ce : ∀ g, ev.ownBlock = some g → C' g = 1006) (hm : m ≤ m') (hI : XI zs { V with fly := F, evs := E } m') :
    WD w0 w' C' { X with fv := fv, ev := ev } zs { V with fly := F, evs := E } m' := by
  have n7 := h.n7.2
  have hs0 := h.bel.size
  have hlow : ∀ x, S x → w0.heap.size ≤ x := fun x hx => h.low x (by rcases hS x hx with g | g | g <;> omega)
  have nS : ∀ x, C x ≠ 1001 → C x ≠ 1005 → C x ≠ 1006 → ¬ S x := fun x h1 h2 h3 hs => by rcases hS x hs with g | g | g <;> omega
  obtain ⟨D, hD, hh⟩ := h.brk
  have cx := h.cx; have cw := h.cw; have cn := h.cn; have cm := h.cm
  have o : ∀ {x c : Nat}, C x = c → c < 2000 → C' x = c := fun {x c} e hc => (hC x (h.lt x (by omega))).trans e
  refine ⟨k.below h.bel.size hlow h.bel, hr, fun e he => cell_kept (h.ws e he) k (nS _ (by show C X.wb ≠ _; omega) (by show C X.wb ≠ _; omega) (by show C X.wb ≠ _; omega)), fun e he => cell_kept (h.ns e he) k (nS _ (by show C X.nb ≠ _; omega) (by show C X.nb ≠ _; omega) (by show C X.nb ≠ _; omega)), fun e he => (((h.nds e he).col hC).kept k (fun x hlt hx => by rw [hC x hlt] at hx; exact nS x (by omega) (by omega) (by omega)) hlow).mono hm,
    ⟨D, (ownsMap_kept hD k (nS X.mb (by omega) (by omega) (by omega))).mono hm, hh⟩, hf, he, o h.cx (by omega), o h.cw (by omega), o h.cn (by omega), o h.cm (by omega), cf, ce, fun x hx => ?_, fun x hx => ?_, hI⟩
  · rcases Nat.lt_or_ge x w.heap.size with q | q
    · exact Nat.lt_of_lt_of_le q k.size
    · exact hl x q hx
  · rcases Nat.lt_or_ge x w.heap.size with q | q
    · exact h.low x (by rw [← hC x q]; exact hx)
    · omega
end
end Go.Proofs.YtbaamegnmeohoacGreatDoor
