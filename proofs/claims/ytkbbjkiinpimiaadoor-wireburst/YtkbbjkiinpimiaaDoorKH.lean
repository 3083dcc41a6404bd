/-
  THE WALK of the law WireBurst.
-/
import Derived.Test.YtkbbjkiinpimiaaDoorKG
namespace Go.Proofs.YtkbbjkiinpimiaaDoor
open Go.RowKit

/-- A row of bytes that '[]byte(s)' laid: at least 22, behind them a mark. -/
def ByR (w : World) (g : Nat) (b : List UInt8) : Prop := b.length = 22 ∧ ∃ cs n, w.heap[g]? = some (.cells cs 5 (n, n + 1)) ∧ 22 ≤ n ∧ n = cs.size ∧ ∀ j (h : j < b.length), cs[j]? = some (.int .u8 ((b[j]'h).toNat : Int))
theorem ByR.cell {w : World} {g : Nat} {b : List UInt8} (h : ByR w g b) (j : Nat) (hj : j < b.length) : w.cell? ⟨g, j, none⟩ = some (.int .u8 ((b[j]'hj).toNat : Int)) := by
  obtain ⟨-, cs, n, h1, -, -, h4⟩ := h
  rw [cell_of_row _ _ _ _ _ _ h1]; exact h4 j hj
theorem ByR.free {w : World} {g : Nat} {b : List UInt8} (h : ByR w g b) (j : Nat) (hj : j < 22) : w.frozen? ⟨g, j, none⟩ = false := by
  obtain ⟨-, cs, n, h1, h2, -, -⟩ := h
  simp [World.frozen?, h1]; omega
theorem ByR.set {w : World} {g : Nat} {b : List UInt8} (h : ByR w g b) (j : Nat) (_hj : j < 22) (x : UInt8) (v : Int) (hv : v = (x.toNat : Int)) : ByR (w.setCell ⟨g, j, none⟩ (.int .u8 v)) g (b.set j x) := by
  subst hv
  obtain ⟨h0, cs, n, h1, h2, h3, h4⟩ := h
  refine ⟨by rw [List.length_set]; exact h0, cs.setIfInBounds j (.int .u8 (x.toNat : Int)), n, ?_, h2, by simp [h3], ?_⟩
  · simp [World.setCell, Array.getElem?_modify, h1]
  · intro i hi
    rw [List.length_set] at hi
    rw [Array.getElem?_setIfInBounds]
    by_cases e : j = i
    · subst e
      rw [if_pos rfl, if_pos (by omega)]
      simp
    · rw [if_neg e, h4 i hi]
      simp [List.getElem_set_ne e]
theorem ByR.bytes {w : World} {g : Nat} {b : List UInt8} (h : ByR w g b) : BytesAt w g 0 b := fun j hj => by rw [Nat.zero_add]; exact h.cell j hj
/-- The bits so far: those of the burst's first m that lie within the text are turned. -/
def Turned (s b : List UInt8) (at_ burst m : Nat) : Prop := ∀ n, bitL b n = (bitL s n ^^ (decide (at_ ≤ n ∧ n < at_ + m ∧ n < 176) && burst.testBit (n - at_)))
theorem Turned.zero (s : List UInt8) (at_ burst : Nat) : Turned s s at_ burst 0 := fun n => by
  rw [decide_eq_false (by omega), Bool.false_and, Bool.xor_false]
theorem Turned.skip {s b : List UInt8} {at_ burst m : Nat} (h : Turned s b at_ burst m) (hm : burst / 2 ^ m % 2 ≠ 1 ∨ 176 ≤ at_ + m) : Turned s b at_ burst (m + 1) := fun n => by
  rw [h n]
  congr 1
  by_cases e : n = at_ + m
  · subst e
    rw [decide_eq_false (by omega), Bool.false_and]
    rcases hm with hm | hm
    · rw [show at_ + m - at_ = m by omega, show burst.testBit m = false from by rw [Nat.testBit_eq_decide_div_mod_eq]; exact decide_eq_false hm, Bool.and_false]
    · rw [decide_eq_false (by omega), Bool.false_and]
  · congr 1
    exact decide_eq_decide.2 ⟨fun h => by omega, fun h => by omega⟩
theorem Turned.flip {s b : List UInt8} {at_ burst m : Nat} (h : Turned s b at_ burst m) (hb : b.length = 22) (hm : burst / 2 ^ m % 2 = 1) (hk : at_ + m < 176) (x : UInt8) (hx : x.toNat = (b.getD ((at_ + m) / 8) 0).toNat ^^^ 2 ^ ((at_ + m) % 8)) : Turned s (b.set ((at_ + m) / 8) x) at_ burst (m + 1) := fun n => by
  rw [flip_bit b (at_ + m) x (by omega) hx n, h n, Bool.xor_assoc]
  congr 1
  by_cases e : n = at_ + m
  · subst e
    rw [decide_eq_false (by omega), Bool.false_and, decide_eq_true rfl, decide_eq_true (by omega), show at_ + m - at_ = m by omega, show burst.testBit m = true from by rw [Nat.testBit_eq_decide_div_mod_eq]; exact decide_eq_true hm]
    rfl
  · rw [decide_eq_false e, Bool.xor_false]
    congr 1
    exact decide_eq_decide.2 ⟨fun h => by omega, fun h => by omega⟩
/-- What the law's last step asks: another text is no frame's. -/
theorem Turned.seen {s b : List UInt8} {at_ burst : Nat} (h : Turned s b at_ burst 32) (hs : s.length = 22) (hb : b.length = 22) (ws : wellL s) (hne : b ≠ s) : codeF b = 7 := by
  rw [code_22 b hb, if_neg]
  intro wb
  exact hne (burst_law s b at_ hs hb ws wb (fun n hn => by rw [h n, decide_eq_false (by omega), Bool.false_and, Bool.xor_false]) (fun n hn => by rw [h n, decide_eq_false (by omega), Bool.false_and, Bool.xor_false])).symm
theorem xor8 (a b : Nat) (ha : a < 256) (hb : b < 256) : bits .xor .u8 (a : Int) (b : Int) = ((a ^^^ b : Nat) : Int) := by
  have hx : a ^^^ b < 2 ^ 8 := Nat.xor_lt_two_pow (by omega) (by omega)
  have e : ∀ c : Nat, c < 256 → (BitVec.ofInt 8 (c : Int)).toNat = c := fun c hc => by rw [BitVec.ofInt_natCast, BitVec.toNat_ofNat]; exact Nat.mod_eq_of_lt (by omega)
  show IntKind.u8.wrap ((BitVec.ofInt 8 (a : Int) ^^^ BitVec.ofInt 8 (b : Int)).toNat : Int) = _
  rw [BitVec.toNat_xor, e a ha, e b hb, IntKind.wrap_u8]
  omega
end Go.Proofs.YtkbbjkiinpimiaaDoor
