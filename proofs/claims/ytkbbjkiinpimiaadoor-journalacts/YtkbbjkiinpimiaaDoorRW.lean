/-
  BOTH JOURNALS ALIKE, side by side.
-/
import Derived.Test.YtkbbjkiinpimiaaDoorRV
namespace Go.Proofs.YtkbbjkiinpimiaaDoor
open Go.RowKit

/-- Both journals alike. -/
def Both (w0 w : World) (p q r j m gn gs : Nat) (E : Nat → Nat × St) (over : Bool) (B : ByteArray) (l : Int) : Prop :=
  JP w0 w j p q E over B l ∧ RK w m gn gs r E over B l ∧ Apart w0 j p q m gn gs r ∧ ∀ d, d < 6 → (E d).1 < 4294967296
section
variable {w0 w w' : World} {p q r j m gn gs : Nat} {E : Nat → Nat × St} {over : Bool} {B : ByteArray} {l : Int}
theorem Both.later (h : Both w0 w p q r j m gn gs E over B l) (hb : Below w.heap.size w w') : Both w0 w' p q r j m gn gs E over B l := ⟨h.1.later hb, h.2.1.later hb, h.2.2.1, h.2.2.2⟩
end
theorem wpAnyH_mono {P : Program} {md : Region.Mode} {ops : Array Oper} {Q : Exit → Act → World → Prop} {S T : World → Prop} (hST : ∀ w, S w → T w) : ∀ (fuel : Nat) (listed : Array Bool) (a : Act) (w : World), wpAnyH P md ops Q S fuel listed a w → wpAnyH P md ops Q T fuel listed a w
  | 0, _, _, _, h => h
  | fuel + 1, _, _, _, h => ⟨h.1, fun i hi => wpOp_mono (fun _ _ h2 => ⟨hST _ h2.1, wpAnyH_mono hST fuel _ _ _ h2.2⟩) (h.2 i hi)⟩
theorem both_new {w0 w : World} {p q r j m gn gs : Nat} {B : ByteArray} {l : Int} (hj : JP w0 w j p q (dealL B.data.toList) false B l) (hm : RK w m gn gs r (dealL B.data.toList) false B l) (ha : Apart w0 j p q m gn gs r) : Both w0 w p q r j m gn gs (dealL B.data.toList) false B l := ⟨hj, hm, ha, fun d _ => deal_lt _ d⟩
theorem apart_new {w0 w : World} {p q r j m gn gs : Nat} (hz : w0.heap.size ≤ w.heap.size) (h1 : j < w.heap.size) (h2 : p < w.heap.size) (h3 : q < w.heap.size) (hr : w0.heap.size ≤ r) (b1 : w.heap.size ≤ m) (b2 : w.heap.size ≤ gn) (b3 : w.heap.size ≤ gs) (d1 : r ≠ j) (d2 : r ≠ p) (d3 : r ≠ q) : Apart w0 j p q m gn gs r := by
  constructor
  · intro x hx hy
    unfold In3 at hx
    unfold In4 at hy
    omega
  · intro x hx
    unfold In4 at hx
    omega
theorem JP.lts {w0 w : World} {p q j : Nat} {E : Nat → Nat × St} {over : Bool} {B : ByteArray} {l : Int} (h : JP w0 w j p q E over B l) : j < w.heap.size ∧ p < w.heap.size ∧ q < w.heap.size := ⟨h.jr.lt, row_lt h.pl.head, row_lt h.pl.row⟩

end Go.Proofs.YtkbbjkiinpimiaaDoor
