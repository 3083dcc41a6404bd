/-
  EVENTS: a site decides; a slice of them in memory.
-/
import Derived.Test.YtadhpkopkkjmfaaDoorTS
import Derived.Laws.OwnMore
namespace Go.Proofs.YtadhpkopkkjmfaaDoor
open Go.RowKit

/-- An event. -/
structure E3 where
  s : Int
  d : Int
  p : Int
def e3L (x : E3) : List Value := [.int .i64 x.s, .int .i64 x.d, .int .i64 x.p]
def evCells (L : List E3) : List Value := L.flatMap e3L
/-- The events that lie at a slice's address. -/
def EL (w : World) (a : Option Addr) (L : List E3) : Prop :=
  ∀ i (h : i < L.length), ∃ b off, a = some ⟨b, off, none⟩ ∧ w.cell? ⟨b, off + i * 3, none⟩ = some (.int .i64 (L[i]'h).s) ∧ w.cell? ⟨b, off + i * 3 + 1, none⟩ = some (.int .i64 (L[i]'h).d) ∧ w.cell? ⟨b, off + i * 3 + 2, none⟩ = some (.int .i64 (L[i]'h).p)
theorem EL.later {w w' : World} {a : Option Addr} {L : List E3} (h : EL w a L) (hb : Below w.heap.size w w') : EL w' a L := fun i hi => by
  obtain ⟨b, off, ha, h0, h1, h2⟩ := h i hi
  exact ⟨b, off, ha, cell_later hb h0, cell_later hb h1, cell_later hb h2⟩
theorem EL.nil (w : World) (a : Option Addr) : EL w a [] := fun _ h => absurd h (Nat.not_lt_zero _)
theorem evCells_get : ∀ (L : List E3) (i j : Nat) (h : i < L.length), j < 3 → (evCells L)[i * 3 + j]? = (e3L (L[i]'h))[j]?
  | [], i, _, h, _ => absurd h (Nat.not_lt_zero _)
  | x :: L, 0, j, _, hj => by
    show (e3L x ++ evCells L)[0 * 3 + j]? = _
    rw [Nat.zero_mul, Nat.zero_add, List.getElem?_append_left (by show j < 3; exact hj)]
    rfl
  | x :: L, i + 1, j, h, hj => by
    show (e3L x ++ evCells L)[(i + 1) * 3 + j]? = _
    rw [List.getElem?_append_right (by show 3 ≤ (i + 1) * 3 + j; omega), show (i + 1) * 3 + j - (e3L x).length = i * 3 + j by show (i + 1) * 3 + j - 3 = i * 3 + j; omega]
    exact evCells_get L i j (by simpa using h) hj
/-- What an own row of events holds. -/
theorem own_el {w : World} {base : Nat} {t : TypeId} {v : Value} {L : List E3} (h : w.ownsRow base t 3 v L.length (evCells L)) : ∃ ad cap, v = .slice ad L.length cap ∧ L.length ≤ cap ∧ cap ≤ maxLen ∧ EL w ad L := by
  have hc := h
  rcases h.2 with ⟨rfl, h0⟩ | ⟨g, cap, cur, rfl, hb, hg, hle, hcap, hsz, htk⟩
  · have e : L = [] := List.length_eq_zero_iff.1 h0
    subst e
    exact ⟨none, 0, rfl, Nat.le_refl _, Nat.zero_le _, EL.nil _ _⟩
  · refine ⟨_, cap, rfl, hle, hcap, fun i hi => ⟨g, 0, rfl, ?_, ?_, ?_⟩⟩
    · have := hc.cellAt (i * 3 + 0) (by omega)
      rw [evCells_get L i 0 hi (by decide)] at this
      rw [Nat.zero_add]; exact this
    · have := hc.cellAt (i * 3 + 1) (by omega)
      rw [evCells_get L i 1 hi (by decide)] at this
      rw [Nat.zero_add]; exact this
    · have := hc.cellAt (i * 3 + 2) (by omega)
      rw [evCells_get L i 2 hi (by decide)] at this
      rw [Nat.zero_add]; exact this
end Go.Proofs.YtadhpkopkkjmfaaDoor
