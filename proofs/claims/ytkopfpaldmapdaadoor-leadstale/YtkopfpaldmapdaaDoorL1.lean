/-
  FRAMES IN MEMORY: a slice of frames; one appended to a row of one's own; the document's SameFrames of any two lists that are the same.
-/
import Derived.Test.YtkopfpaldmapdaaDoorKV
import Derived.BigRegion
import Derived.RegionTactic
import Derived.Laws.StructEq
import Derived.Laws.AppendOwn
import Derived.Laws.OwnMore
import Derived.Deep.AppendLies
import Derived.Deep.RegionHeldLaw
import Derived.Deep.RegionLawGrows
namespace Go.Proofs.YtkopfpaldmapdaaDoor
open Go.RowKit

structure F9 where
  f : Int
  t : Int
  d : Int
  k : Int
  a : Int
  y : Bool
  ph : Int
  pr : Int
  pa : Int
def f9L (x : F9) : List Value := [.int .i64 x.f, .int .i64 x.t, .int .i64 x.d, .int .i64 x.k, .int .i64 x.a, .bool x.y, .int .i64 x.ph, .int .i64 x.pr, .int .i64 x.pa]
def frCells (L : List F9) : List Value := L.flatMap f9L
theorem f9L_length (x : F9) : (f9L x).length = 9 := rfl
theorem frCells_append (L M : List F9) : frCells (L ++ M) = frCells L ++ frCells M := by simp [frCells, List.flatMap_append]
theorem frCells_cons (x : F9) (L : List F9) : frCells (x :: L) = f9L x ++ frCells L := rfl
theorem frCells_length : ∀ L : List F9, (frCells L).length = L.length * 9
  | [] => rfl
  | x :: L => by rw [frCells_cons, List.length_append, f9L_length, frCells_length L, List.length_cons]; omega
theorem frCells_get : ∀ (L : List F9) (i j : Nat) (h : i < L.length), j < 9 → (frCells L)[i * 9 + j]? = (f9L (L[i]'h))[j]?
  | [], i, _, h, _ => absurd h (Nat.not_lt_zero _)
  | x :: L, 0, j, _, hj => by
    rw [frCells_cons, Nat.zero_mul, Nat.zero_add, List.getElem?_append_left (by rw [f9L_length]; exact hj)]
    rfl
  | x :: L, i + 1, j, h, hj => by
    rw [frCells_cons, List.getElem?_append_right (by rw [f9L_length]; omega), f9L_length, show (i + 1) * 9 + j - 9 = i * 9 + j by omega]
    exact frCells_get L i j (by simpa using h) hj
theorem frCells_one (L : List F9) : ∀ u ∈ frCells L, u.oneCell' = true := by
  intro u hu
  obtain ⟨s, -, hs⟩ := List.mem_flatMap.1 hu
  simp [f9L] at hs
  rcases hs with rfl | rfl | rfl | rfl | rfl | rfl | rfl | rfl | rfl <;> rfl
/-- The frames L lie behind the address. -/
def FL (w : World) (ad : Option Addr) (L : List F9) : Prop := ∀ i (h : i < L.length), ∃ b off, ad = some ⟨b, off, none⟩ ∧ ∀ j, j < 9 → w.cell? ⟨b, off + i * 9 + j, none⟩ = (f9L (L[i]'h))[j]?
theorem FL.later {w w' : World} {ad : Option Addr} {L : List F9} (h : FL w ad L) (hb : Below w.heap.size w w') : FL w' ad L := fun i hi => by
  obtain ⟨b, off, e, hc⟩ := h i hi
  refine ⟨b, off, e, fun j hj => ?_⟩
  have h2 := hc j hj
  have h3 : (f9L (L[i]'hi))[j]? = some ((f9L (L[i]'hi))[j]'(by rw [f9L_length]; exact hj)) := List.getElem?_eq_getElem _
  rw [h3] at h2 ⊢
  exact cell_later hb h2
theorem FL.nil (w : World) (ad : Option Addr) : FL w ad [] := fun _ h => absurd h (Nat.not_lt_zero _)
theorem nineO {w : World} {b o : Nat} {x : F9} (h : ∀ j, j < 9 → w.cell? ⟨b, o + j, none⟩ = (f9L x)[j]?) :
    w.cell? ⟨b, o, none⟩ = some (.int .i64 x.f) ∧ w.cell? ⟨b, o + 1, none⟩ = some (.int .i64 x.t) ∧ w.cell? ⟨b, o + 2, none⟩ = some (.int .i64 x.d) ∧ w.cell? ⟨b, o + 3, none⟩ = some (.int .i64 x.k) ∧ w.cell? ⟨b, o + 4, none⟩ = some (.int .i64 x.a) ∧ w.cell? ⟨b, o + 5, none⟩ = some (.bool x.y) ∧ w.cell? ⟨b, o + 6, none⟩ = some (.int .i64 x.ph) ∧ w.cell? ⟨b, o + 7, none⟩ = some (.int .i64 x.pr) ∧ w.cell? ⟨b, o + 8, none⟩ = some (.int .i64 x.pa) :=
  ⟨h 0 (by omega), h 1 (by omega), h 2 (by omega), h 3 (by omega), h 4 (by omega), h 5 (by omega), h 6 (by omega), h 7 (by omega), h 8 (by omega)⟩
/-- A slice value that holds the frames L. -/
def IsFr (w : World) (v : Value) (L : List F9) : Prop := ∃ ad cap, v = .slice ad L.length cap ∧ FL w ad L
theorem IsFr.later {w w' : World} {v : Value} {L : List F9} (h : IsFr w v L) (hb : Below w.heap.size w w') : IsFr w' v L := by
  obtain ⟨ad, cap, e, hl⟩ := h
  exact ⟨ad, cap, e, hl.later hb⟩
theorem IsFr.zero (w : World) : IsFr w (.slice none 0 0) [] := ⟨none, 0, rfl, FL.nil _ _⟩
theorem IsFr.owned {w : World} {base : Nat} {v : Value} {L : List F9} (h : w.ownsRow base 36 9 v L.length (frCells L)) : IsFr w v L := by
  have hc := h
  rcases h.2 with ⟨rfl, h0⟩ | ⟨g, cap, cur, rfl, hb, hg, hle, hcap, hsz, htk⟩
  · have e : L = [] := List.length_eq_zero_iff.1 h0
    subst e
    exact IsFr.zero w
  · refine ⟨_, cap, rfl, fun i hi => ⟨g, 0, rfl, fun j hj => ?_⟩⟩
    have := hc.cellAt (i * 9 + j) (by omega)
    rw [Nat.zero_add, this, frCells_get L i j hi hj]
end Go.Proofs.YtkopfpaldmapdaaDoor
