/-
  STATES IN MEMORY: a slice of them.
-/
import Derived.Test.YtadhpkopkkjmfaaDoorTA
namespace Go.Proofs.YtadhpkopkkjmfaaDoor
open Go.RowKit

/-- The states that lie at a slice's address. -/
def SL (w : World) (a : Option Addr) (L : List S3) : Prop :=
  ∀ i (h : i < L.length), ∃ b off, a = some ⟨b, off, none⟩ ∧ w.cell? ⟨b, off + i * 3, none⟩ = some (.int .i64 (L[i]'h).p) ∧ w.cell? ⟨b, off + i * 3 + 1, none⟩ = some (.int .i64 (L[i]'h).r) ∧ w.cell? ⟨b, off + i * 3 + 2, none⟩ = some (.int .i64 (L[i]'h).a)
theorem SL.later {w w' : World} {a : Option Addr} {L : List S3} (h : SL w a L) (hb : Below w.heap.size w w') : SL w' a L := fun i hi => by
  obtain ⟨b, off, ha, h0, h1, h2⟩ := h i hi
  exact ⟨b, off, ha, cell_later hb h0, cell_later hb h1, cell_later hb h2⟩
theorem SL.nil (w : World) (a : Option Addr) : SL w a [] := fun _ h => absurd h (Nat.not_lt_zero _)
theorem take_snoc {α : Type} (L : List α) (k : Nat) (h : k < L.length) : L.take (k + 1) = L.take k ++ [L[k]] := by
  rw [List.take_add_one, List.getElem?_eq_getElem h]; rfl
theorem gr_take (p : Int) (L : List S3) (k : Nat) (h : k < L.length) : gr p (L.take (k + 1)) = grS p (gr p (L.take k)) L[k] := by rw [take_snoc L k h, gr_snoc]
end Go.Proofs.YtadhpkopkkjmfaaDoor
