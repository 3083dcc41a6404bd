/-
  On the way to WStepsProof: J1 JD Err ErrAs0 ErrAs Code P1 P2.
-/
import Derived.Test.YtbaamegnmeohoacGreatDoorBs4
import Derived.Test.YtbaamegnmeohoacGreatDoorProg
import Derived.Test.YtbaamegnmeohoacGreatDoorBs3
import Derived.Test.YtbaamegnmeohoacGreatDoorBs1
import Derived.WalkKit
import Derived.LaidEql
import Derived.Stop.Asserts
import Derived.RowKitTokens
import Derived.Below
import Derived.Laws.CopyRow
import Derived.Laws.Rows
namespace Go.Proofs.YtbaamegnmeohoacGreatDoor
def putL (L : List UInt8) (a : Nat) (S : List UInt8) : List UInt8 := L.take a ++ S ++ L.drop (a + S.length)
theorem putL_length {L S : List UInt8} {a : Nat} (h : a + S.length ≤ L.length) : (putL L a S).length = L.length := by
  simp [putL]; omega
theorem putL_nil (L : List UInt8) (a : Nat) : putL L a [] = L := by simp [putL]
theorem putL_get {L S : List UInt8} {a : Nat} (h : a + S.length ≤ L.length) (j : Nat) : (putL L a S)[j]? = if a ≤ j ∧ j < a + S.length then S[j - a]? else L[j]? := by
  unfold putL
  have e : min a L.length = a := by omega
  simp only [List.getElem?_append, List.length_append, List.length_take, List.getElem?_take, List.getElem?_drop, e]
  rcases Nat.lt_or_ge j a with h1 | h1
  · rw [if_pos (by omega), if_pos h1, if_pos h1, if_neg (by omega)]
  · rcases Nat.lt_or_ge j (a + S.length) with h2 | h2
    · rw [if_pos h2, if_neg (by omega), if_pos ⟨h1, h2⟩]
    · rw [if_neg (by omega), if_neg (by omega)]
      congr 1
      omega
theorem putB_putL {B s : ByteArray} {a k : Nat} (hk : k ≤ s.size) : (putB B a s k).data.toList = putL B.data.toList a (s.data.toList.take k) := by
  rw [putB_list]
  unfold putL
  rw [size_list] at hk
  rw [List.length_take, Nat.min_eq_left hk]
def slotL (L : List UInt8) (k : Nat) : List UInt8 := (L.drop (18 * k)).take 18
theorem slotL_get (L : List UInt8) (k j : Nat) : (slotL L k)[j]? = if j < 18 then L[18 * k + j]? else none := by
  unfold slotL
  rw [List.getElem?_take, List.getElem?_drop]
theorem slotL_length {L : List UInt8} {k : Nat} (h : 18 * (k + 1) ≤ L.length) : (slotL L k).length = 18 := by
  simp [slotL]; omega
def dealL (L : List UInt8) (d : Nat) : Nat × St :=
  if (heldL (2 * d) (slotL L (2 * d))).1 < (heldL (2 * d + 1) (slotL L (2 * d + 1))).1 then heldL (2 * d + 1) (slotL L (2 * d + 1)) else heldL (2 * d) (slotL L (2 * d))
structure Only (L : List UInt8) (k : Nat) (L' : List UInt8) : Prop where
  len : L'.length = L.length
  other : ∀ j, j ≠ k → slotL L' j = slotL L j
theorem Only.refl (L : List UInt8) (k : Nat) : Only L k L := ⟨rfl, fun _ _ => rfl⟩
theorem Only.trans {L L' L'' : List UInt8} {k : Nat} (h : Only L k L') (g : Only L' k L'') : Only L k L'' := ⟨g.len.trans h.len, fun j hj => (g.other j hj).trans (h.other j hj)⟩
theorem only_put {L S : List UInt8} {k i : Nat} (hk : 18 * (k + 1) ≤ L.length) (hi : i + S.length ≤ 18) : Only L k (putL L (18 * k + i) S) := by
  refine ⟨putL_length (by omega), fun j hj => ?_⟩
  apply List.ext_getElem?
  intro m
  rw [slotL_get, slotL_get]
  split
  · rw [putL_get (by omega), if_neg (by omega)]
  · rfl
theorem slot_put {L S : List UInt8} {k i : Nat} (hk : 18 * (k + 1) ≤ L.length) (hi : i + S.length ≤ 18) : slotL (putL L (18 * k + i) S) k = putL (slotL L k) i S := by
  apply List.ext_getElem?
  intro m
  rw [slotL_get, putL_get (by omega), putL_get (by rw [slotL_length hk]; omega), slotL_get]
  by_cases h : m < 18
  · rw [if_pos h, if_pos h]
    by_cases g : i ≤ m ∧ m < i + S.length
    · rw [if_pos (by omega), if_pos g]
      congr 1
      omega
    · rw [if_neg (by omega), if_neg g]
  · rw [if_neg h, if_neg h, if_neg (by omega)]
def Torn (L : List UInt8) (k : Nat) (L' : List UInt8) : Prop := Only L k L' ∧ (slotL L' k = slotL L k ∨ ∃ b : UInt8, b ≠ 165 ∧ (slotL L' k)[17]? = some b)
def Done (L : List UInt8) (k n : Nat) (s : St) (L' : List UInt8) : Prop := Only L k L' ∧ slotL L' k = bodyL n s ++ [165]
def nextK (d m : Nat) : Nat := 2 * d + (m + 1) % 2
theorem last_of_17 {t : List UInt8} {b : UInt8} (hl : t.length = 18) (h : t[17]? = some b) : t.getLast? = some b := by rw [List.getLast?_eq_getElem?, hl]; exact h
theorem deal_other {L L' : List UInt8} {d m e : Nat} (h : Only L (nextK d m) L') (he : e ≠ d) : dealL L' e = dealL L e := by
  unfold nextK at h
  unfold dealL
  rw [h.other (2 * e) (by omega), h.other (2 * e + 1) (by omega)]
theorem deal_torn {L L' : List UInt8} {d : Nat} (hL : 36 * (d + 1) ≤ L.length) (h : Torn L (nextK d (dealL L d).1) L') : dealL L' d = dealL L d := by
  obtain ⟨ho, hs⟩ := h
  rcases hs with hs | ⟨b, hb, hg⟩
  · have all : ∀ j, slotL L' j = slotL L j := fun j => by
      by_cases hj : j = nextK d (dealL L d).1
      · rw [hj]; exact hs
      · exact ho.other j hj
    unfold dealL
    rw [all, all]
  · have hk : 18 * (nextK d (dealL L d).1 + 1) ≤ L'.length := by rw [ho.len]; unfold nextK; omega
    have ht := fun k => heldL_torn k _ b (last_of_17 (slotL_length hk) hg) hb
    have pa := heldL_parity (2 * d) (slotL L (2 * d))
    have pb := heldL_parity (2 * d + 1) (slotL L (2 * d + 1))
    have za := heldL_zero (2 * d) (slotL L (2 * d))
    have zb := heldL_zero (2 * d + 1) (slotL L (2 * d + 1))
    unfold nextK at ho ht
    unfold dealL at ho ht ⊢
    by_cases c : (heldL (2 * d) (slotL L (2 * d))).1 < (heldL (2 * d + 1) (slotL L (2 * d + 1))).1
    · rw [if_pos c] at ho ht ⊢
      have p := pb (by omega)
      have e : ((heldL (2 * d + 1) (slotL L (2 * d + 1))).1 + 1) % 2 = 0 := by omega
      rw [e, Nat.add_zero] at ho ht
      rw [ho.other (2 * d + 1) (by omega), ht (2 * d), if_pos (by show 0 < _; omega)]
    · rw [if_neg c] at ho ht ⊢
      by_cases z : (heldL (2 * d) (slotL L (2 * d))).1 = 0
      · have e : ((heldL (2 * d) (slotL L (2 * d))).1 + 1) % 2 = 1 := by omega
        rw [e] at ho ht
        rw [ho.other (2 * d) (by omega), ht (2 * d + 1), if_neg (by show ¬ _ < 0; omega)]
      · have p := pa z
        have e : ((heldL (2 * d) (slotL L (2 * d))).1 + 1) % 2 = 1 := by omega
        rw [e] at ho ht
        rw [ho.other (2 * d) (by omega), ht (2 * d + 1), if_neg (by show ¬ _ < 0; omega)]
theorem deal_done {L L' : List UInt8} {d : Nat} {s : St} (hn : (dealL L d).1 + 1 < 4294967296) (hs : s.fits) (h : Done L (nextK d (dealL L d).1) ((dealL L d).1 + 1) s L') : dealL L' d = ((dealL L d).1 + 1, s) := by
  obtain ⟨ho, hb⟩ := h
  have le : (heldL (2 * d) (slotL L (2 * d))).1 ≤ (dealL L d).1 ∧ (heldL (2 * d + 1) (slotL L (2 * d + 1))).1 ≤ (dealL L d).1 := by
    unfold dealL; split <;> omega
  have hh := fun k (hk : ((dealL L d).1 + 1) % 2 = k % 2) => heldL_body k ((dealL L d).1 + 1) s (by omega) hn hk hs
  generalize dealL L d = m at *
  unfold nextK at ho hb
  unfold dealL
  rcases Nat.mod_two_eq_zero_or_one (m.1 + 1) with e | e
  · rw [e, Nat.add_zero] at ho hb
    rw [ho.other (2 * d + 1) (by omega), hb, hh (2 * d) (by omega), if_neg (by show ¬ m.1 + 1 < _; omega)]
  · rw [e] at ho hb
    rw [ho.other (2 * d) (by omega), hb, hh (2 * d + 1) (by omega), if_pos (by show _ < m.1 + 1; omega)]
def Wr (L : List UInt8) (a : Nat) (S : List UInt8) (L' : List UInt8) (c : Nat) : Prop := (c = 0 ∧ L' = putL L a S) ∨ (c = 6 ∧ ∃ t, t < S.length ∧ L' = putL L a (S.take t))
def Zeroed (L : List UInt8) (k : Nat) (L' : List UInt8) : Prop := Only L k L' ∧ (slotL L' k)[17]? = some 0
theorem Zeroed.torn {L L' : List UInt8} {k : Nat} (h : Zeroed L k L') : Torn L k L' := ⟨h.1, .inr ⟨0, by decide, h.2⟩⟩
theorem zero_skip {L : List UInt8} {k : Nat} (h : L[18 * k + 17]? = some 0) : Zeroed L k L := ⟨Only.refl _ _, by rw [slotL_get]; exact h⟩
theorem zero_wr {L L' : List UInt8} {k c : Nat} (hk : 18 * (k + 1) ≤ L.length) (h : Wr L (18 * k + 17) [0] L' c) : (c = 0 ∧ Zeroed L k L') ∨ (c = 6 ∧ Torn L k L') := by
  rcases h with ⟨rfl, rfl⟩ | ⟨rfl, t, ht, rfl⟩
  · refine .inl ⟨rfl, only_put hk (by simp), ?_⟩
    rw [slot_put hk (by simp), putL_get (by rw [slotL_length hk]; simp)]
    rfl
  · obtain rfl : t = 0 := by simpa using ht
    rw [List.take_zero, putL_nil]
    exact .inr ⟨rfl, Only.refl _ _, .inl rfl⟩
def Bodied (L : List UInt8) (k n : Nat) (s : St) (L' : List UInt8) : Prop := Only L k L' ∧ slotL L' k = bodyL n s ++ [0]
theorem Bodied.torn {L L' : List UInt8} {k n : Nat} {s : St} (h : Bodied L k n s L') : Torn L k L' := ⟨h.1, .inr ⟨0, by decide, by rw [h.2, List.getElem?_append_right (by rw [bodyL_length]; omega), bodyL_length]; rfl⟩⟩
theorem body_wr {L L0 L' : List UInt8} {k n c : Nat} {s : St} (hk : 18 * (k + 1) ≤ L.length) (h0 : Zeroed L k L0) (h : Wr L0 (18 * k) (bodyL n s) L' c) : (c = 0 ∧ Bodied L k n s L') ∨ (c = 6 ∧ Torn L k L') := by
  have hk0 : 18 * (k + 1) ≤ L0.length := by rw [h0.1.len]; exact hk
  have hb := bodyL_length n s
  rcases h with ⟨rfl, rfl⟩ | ⟨rfl, t, ht, rfl⟩
  · refine .inl ⟨rfl, h0.1.trans (only_put (i := 0) hk0 (by omega)), ?_⟩
    have e := slot_put (S := bodyL n s) (i := 0) hk0 (by omega)
    rw [Nat.add_zero] at e
    rw [e]
    apply List.ext_getElem?
    intro m
    rw [putL_get (by rw [slotL_length hk0]; omega), List.getElem?_append, hb]
    by_cases g : m < 17
    · rw [if_pos (by omega), if_pos g, Nat.sub_zero]
    · rw [if_neg (by omega), if_neg g]
      by_cases g2 : m = 17
      · subst g2; rw [h0.2]; rfl
      · rw [slotL_get, if_neg (by omega), List.getElem?_eq_none (by simp; omega)]
  · refine .inr ⟨rfl, h0.1.trans (only_put (i := 0) hk0 (by simp; omega)), .inr ⟨0, by decide, ?_⟩⟩
    have e := slot_put (S := (bodyL n s).take t) (i := 0) hk0 (by simp; omega)
    rw [Nat.add_zero] at e
    rw [e, putL_get (by rw [slotL_length hk0]; simp; omega), if_neg (by simp; omega)]
    exact h0.2
theorem last_wr {L L1 L' : List UInt8} {k n c : Nat} {s : St} (hk : 18 * (k + 1) ≤ L.length) (h1 : Bodied L k n s L1) (h : Wr L1 (18 * k + 17) [165] L' c) : (c = 0 ∧ Done L k n s L') ∨ (c = 6 ∧ Torn L k L') := by
  have hk1 : 18 * (k + 1) ≤ L1.length := by rw [h1.1.len]; exact hk
  rcases h with ⟨rfl, rfl⟩ | ⟨rfl, t, ht, rfl⟩
  · refine .inl ⟨rfl, h1.1.trans (only_put hk1 (by simp)), ?_⟩
    rw [slot_put hk1 (by simp), h1.2]
    unfold putL
    rw [take_app (bodyL_length n s)]
    simp [bodyL_length]
  · obtain rfl : t = 0 := by simpa using ht
    rw [List.take_zero, putL_nil]
    exact .inr ⟨rfl, h1.torn⟩
def devBit (c : Nat) : Nat := if c % 2 = 1 then (c / 2) ^^^ 3988292384 else c / 2
def devBits (c : Nat) : Nat → Nat
  | 0 => c
  | k + 1 => devBit (devBits c k)
theorem xor_half (x y : Nat) : (x ^^^ y) / 2 = x / 2 ^^^ y / 2 := by
  apply Nat.eq_of_testBit_eq
  intro i
  simp [Nat.testBit_xor, Nat.testBit_div_two]
theorem dev_step (c b k : Nat) : devBit (c ^^^ b / 2 ^ k) = crcBit c b k ^^^ b / 2 ^ (k + 1) := by
  have e : b / 2 ^ k / 2 = b / 2 ^ (k + 1) := by rw [Nat.div_div_eq_div_mul, Nat.pow_succ]
  unfold devBit crcBit
  split
  · rw [xor_half, e, Nat.xor_assoc, Nat.xor_assoc, Nat.xor_comm 3988292384]
  · rw [xor_half, e]
theorem dev_bits (c b : Nat) : ∀ k, devBits (c ^^^ b) k = crcBits c b k ^^^ b / 2 ^ k
  | 0 => by simp [devBits, crcBits]
  | k + 1 => by rw [devBits, dev_bits c b k, dev_step]; rfl
theorem dev_eight (c : Nat) (b : UInt8) : devBits (c ^^^ b.toNat) 8 = crcBits c b.toNat 8 := by
  rw [dev_bits]
  have h := UInt8.toNat_lt b
  rw [show b.toNat / 2 ^ 8 = 0 by omega, Nat.xor_zero]
theorem devBit_lt {c : Nat} (h : c < 4294967296) : devBit c < 4294967296 := by
  unfold devBit
  split
  · exact Nat.xor_lt_two_pow (n := 32) (by omega) (by decide)
  · omega
theorem devBits_lt {c : Nat} (h : c < 4294967296) : ∀ k, devBits c k < 4294967296
  | 0 => h
  | k + 1 => devBit_lt (devBits_lt h k)
end Go.Proofs.YtbaamegnmeohoacGreatDoor
namespace Go.Proofs.YtbaamegnmeohoacGreatDoor
open Go.RowKit Go.Extern.Stop Go.Stop Go.Extern

/-! ### Closed facts on the types that errors.Is meets -/
theorem callTypeOfE (v : Value) (w : World) : (callFunc 149 #[.iface 342 v]).run Tryz.prog w = .ok (.value (.iface 271 (.agg #[.pointer (some ⟨10, 342, none⟩)]))) w := by kernel_rfl
theorem callComparable (w : World) : (callFunc 287 #[.agg #[.pointer (some ⟨10, 342, none⟩)]]).run Tryz.prog w = .ok (.value (.bool true)) w := by kernel_rfl
theorem methodComparable (v : Value) (w : World) : (Go.method 473 271 v "Comparable").run Tryz.prog w = .ok (287, v) w := by kernel_rfl
theorem compErrS : (Tryz.prog.info? 342).map (·.comparable) = some true := by kernel_rfl
theorem sizeErrS : (Tryz.prog.info? 361).map (·.size) = some 1 := by kernel_rfl
theorem noIsE (v : Value) (xT : TypeId) (w : World) : (Instr.typeAssert (.iface 342 v) xT 282 true).run Tryz.prog w = .ok (.tuple #[.nilIface, .bool false]) w := run_typeAssert_lacksB Tryz.underlying282 (by kernel_rfl) (by kernel_rfl) v xT w
theorem noUnwrapE (v : Value) (xT : TypeId) (w : World) : (Instr.typeAssert (.iface 342 v) xT 278 true).run Tryz.prog w = .ok (.tuple #[.nilIface, .bool false]) w := run_typeAssert_lacksB Tryz.underlying278 (by kernel_rfl) (by kernel_rfl) v xT w
theorem noUnwrapsE (v : Value) (xT : TypeId) (w : World) : (Instr.typeAssert (.iface 342 v) xT 280 true).run Tryz.prog w = .ok (.tuple #[.nilIface, .bool false]) w := run_typeAssert_lacksB Tryz.underlying280 (by kernel_rfl) (by kernel_rfl) v xT w
theorem noAsE (v : Value) (xT : TypeId) (w : World) : (Instr.typeAssert (.iface 342 v) xT 275 true).run Tryz.prog w = .ok (.tuple #[.nilIface, .bool false]) w := run_typeAssert_lacksB Tryz.underlying275 (by kernel_rfl) (by kernel_rfl) v xT w
theorem is_same (a : Addr) (w : World) :
    Calls Tryz.prog 90 #[.iface 342 (.pointer (some a)), .iface 342 (.pointer (some a))] w fun e w' => e = .returned (.bool true) ∧ w' = w := by
  obtain ⟨i, hi, hcmp⟩ := Option.map_eq_some_iff.1 compErrS
  obtain ⟨j, hj, hjs⟩ := Option.map_eq_some_iff.1 sizeErrS
  have tT := callTypeOfE
  have cT := callComparable
  have mR := methodComparable
  have heq := run_eql_iface_ptr_same (P := Tryz.prog) w a Tryz.underlying27 Tryz.underlying342 hi hcmp hj
  go_enter Tryz.func90, Tryz.ntmps90
  go_wp2
  refine wp_loop_rounds 1 ?_
  rw [rounds_succ]
  go_wp2
  go_ret
  exact ⟨rfl, rfl⟩
theorem is_other (a b : Addr) (ca cb : Array Value) (ta tb : TypeId) (w : World) (hne : a ≠ b) (ha : w.heap[a.block]? = some (.cells ca ta (0, 0))) (hb : w.heap[b.block]? = some (.cells cb tb (0, 0))) :
    Calls Tryz.prog 90 #[.iface 342 (.pointer (some a)), .iface 342 (.pointer (some b))] w fun e w' => e = .returned (.bool false) ∧ w' = w := by
  obtain ⟨i, hi, hcmp⟩ := Option.map_eq_some_iff.1 compErrS
  obtain ⟨j, hj, hjs⟩ := Option.map_eq_some_iff.1 sizeErrS
  have tT := callTypeOfE
  have cT := callComparable
  have mR := methodComparable
  have nE := noIsE
  have uE := noUnwrapE
  have vE := noUnwrapsE
  have heq := run_eql_iface_ptr_other (P := Tryz.prog) w Tryz.underlying27 Tryz.underlying342 hi hcmp hj (by rw [hjs]; decide) hne ha hb
  go_enter Tryz.func90, Tryz.ntmps90
  go_wp2
  refine wp_loop_rounds 1 ?_
  rw [rounds_succ]
  go_wp2
  go_ret
  exact ⟨rfl, rfl⟩

/-! ### Closed facts on the types that errors.As meets -/
theorem callValueOfT (t : Addr) (w : World) : (callFunc 145 #[.iface 162 (.pointer (some t))]).run Tryz.prog w
    = .ok (.value (.agg #[.pointer (some ⟨10, 162, none⟩), .pointer (some ⟨w.heap.size, 0, none⟩), .int .u64 150])) (w.alloc (.cells #[.pointer (some t)] 162)) := by kernel_rfl
theorem callTypeT (a : Addr) (w : World) : (callFunc 146 #[.agg #[.pointer (some ⟨10, 162, none⟩), .pointer (some a), .int .u64 150]]).run Tryz.prog w
    = .ok (.value (.iface 271 (.agg #[.pointer (some ⟨10, 162, none⟩)]))) w := by kernel_rfl
theorem methodKind (h : Value) (w : World) : (Go.method 473 271 (.agg #[h]) "Kind").run Tryz.prog w = .ok (277, h) w := by kernel_rfl
theorem callKindT (w : World) : (callFunc 277 #[.pointer (some ⟨10, 162, none⟩)]).run Tryz.prog w = .ok (.value (.int .u8 22)) w := by kernel_rfl
theorem callKindF (w : World) : (callFunc 277 #[.pointer (some ⟨10, 125, none⟩)]).run Tryz.prog w = .ok (.value (.int .u8 22)) w := by kernel_rfl
theorem methodElem (h : Value) (w : World) : (Go.method 473 271 (.agg #[h]) "Elem").run Tryz.prog w = .ok (288, .agg #[h]) w := by kernel_rfl
theorem callElemT (w : World) : (callFunc 288 #[.agg #[.pointer (some ⟨10, 162, none⟩)]]).run Tryz.prog w = .ok (.value (.iface 271 (.agg #[.pointer (some ⟨10, 125, none⟩)]))) w := by kernel_rfl
theorem methodImplements (h : Value) (w : World) : (Go.method 473 271 (.agg #[h]) "Implements").run Tryz.prog w = .ok (289, .agg #[h]) w := by kernel_rfl
theorem callImplementsF (w : World) : (callFunc 289 #[.agg #[.pointer (some ⟨10, 125, none⟩)], .iface 271 (.agg #[.pointer (some ⟨10, 27, none⟩)])]).run Tryz.prog w = .ok (.value (.bool true)) w := by kernel_rfl
theorem methodAssignableTo (h : Value) (w : World) : (Go.method 473 271 (.agg #[h]) "AssignableTo").run Tryz.prog w = .ok (286, .agg #[h]) w := by kernel_rfl
theorem callAssignableE (w : World) : (callFunc 286 #[.agg #[.pointer (some ⟨10, 342, none⟩)], .iface 271 (.agg #[.pointer (some ⟨10, 125, none⟩)])]).run Tryz.prog w = .ok (.value (.bool false)) w := by kernel_rfl

/-! ### The entries that read or write memory -/
theorem partsT (a : Addr) (w : World) : (ReflectliteValue.parts (.agg #[.pointer (some ⟨10, 162, none⟩), .pointer (some a), .int .u64 150])).run Tryz.prog w = .ok (some (162, a, 150)) w := by kernel_rfl
theorem callIsNilT (a p : Addr) (W : World) (ha : W.cell? a = some (.pointer (some p))) :
    (callFunc 147 #[.agg #[.pointer (some ⟨10, 162, none⟩), .pointer (some a), .int .u64 150]]).run Tryz.prog W = .ok (.value (.bool false)) W := by
  rw [@run_callFunc_extern Tryz.prog 147 _ (ReflectliteValue.method (ReflectliteValue.valueError "reflectlite.Value.IsNil" 0) ReflectliteValue.isNil) Tryz.func147 (by kernel_rfl) (by kernel_rfl) (by kernel_rfl) (by kernel_rfl)]
  change Result.andThen (Sem.run Tryz.prog (Bind.bind (ReflectliteValue.parts (.agg #[.pointer (some ⟨10, 162, none⟩), .pointer (some a), .int .u64 150])) _) W) _ = _
  simp only [Sem.run_bind, partsT, Result.andThen]
  simp [ReflectliteValue.isNil, loadVar, isAgg, underlying, Tryz.underlying162, ha, Result.andThen]
theorem as_miss (a t : Addr) (w : World) (hg : w.cell? ⟨9, 0, none⟩ = some (.iface 271 (.agg #[.pointer (some ⟨10, 27, none⟩)]))) :
    Calls Tryz.prog 89 #[.iface 342 (.pointer (some a)), .iface 162 (.pointer (some t))] w fun ev w' => ev = .returned (.bool false) ∧ Below w.heap.size w w' := by
  have c1 := callValueOfT
  have c2 := callTypeT
  have c3 := methodKind
  have c4 := callKindT
  have c5 := callKindF
  have c6 := methodElem
  have c7 := callElemT
  have c8 := methodImplements
  have c9 := callImplementsF
  have d1 := methodAssignableTo
  have d2 := callAssignableE
  have d3 := callTypeOfE
  have d4 := noAsE
  have d5 := noUnwrapE
  have d6 := noUnwrapsE
  have n8 := callIsNilT ⟨w.heap.size, 0, none⟩ t ((w.alloc (.cells #[.pointer (some t)] 162)).alloc (.cells #[.pointer (some ⟨10, 162, none⟩), .pointer (some ⟨w.heap.size, 0, none⟩), .int .u64 150] 226)) (by simp)
  have hlt : 9 < w.heap.size := by
    rcases Nat.lt_or_ge 9 w.heap.size with h | h
    · exact h
    · simp [World.cell?, Array.getElem?_eq_none h] at hg
  have hg2 : ((w.alloc (.cells #[.pointer (some t)] 162)).alloc (.cells #[.pointer (some ⟨10, 162, none⟩), .pointer (some ⟨w.heap.size, 0, none⟩), .int .u64 150] 226)).cell? ⟨9, 0, none⟩ = some (.iface 271 (.agg #[.pointer (some ⟨10, 27, none⟩)])) := by
    rw [World.cell?_alloc_lt _ _ ⟨9, 0, none⟩ (by simp; omega), World.cell?_alloc_lt _ _ ⟨9, 0, none⟩ hlt]; exact hg
  go_enter Tryz.func89, Tryz.ntmps89
  go_wp2
  refine wp_loop_rounds 1 ?_
  rw [rounds_succ]
  go_wp2
  go_ret
  exact ⟨rfl, by repeat (first | exact Below.refl _ _ | refine Below.drew ?_ | refine Below.alloc ?_ (by simp; try omega) _)⟩
end Go.Proofs.YtbaamegnmeohoacGreatDoor
namespace Go.Proofs.YtbaamegnmeohoacGreatDoor
open Go.RowKit
def gN : Nat → Nat
  | 0 => 4
  | 1 => 0
  | 2 => 2
  | 3 => 3
  | 4 => 5
  | 5 => 6
  | 6 => 7
  | 7 => 1
  | _ => 8
structure Held9 (w : World) (A : Nat → Addr) : Prop where
  var : ∀ i, i < 9 → w.cell? ⟨gN i, 0, none⟩ = some (.iface 342 (.pointer (some (A i))))
  ne : ∀ i j, i < 9 → j < 9 → i ≠ j → A i ≠ A j
  row : ∀ i, i < 9 → ∃ c t, w.heap[(A i).block]? = some (.cells c t (0, 0))
  hnd : w.cell? ⟨9, 0, none⟩ = some (.iface 271 (.agg #[.pointer (some ⟨10, 27, none⟩)]))
theorem row_later {w w' : World} {b : Nat} {c : Array Value} {t : TypeId} {f : Nat × Nat} (hb : Below w.heap.size w w') (h : w.heap[b]? = some (.cells c t f)) : w'.heap[b]? = some (.cells c t f) := by
  have hlt : b < w.heap.size := by
    rcases Nat.lt_or_ge b w.heap.size with g | g
    · exact g
    · rw [Array.getElem?_eq_none g] at h; cases h
  rw [hb.block b hlt]; exact h
theorem Held9.later {w w' : World} {A : Nat → Addr} (h : Held9 w A) (hb : Below w.heap.size w w') : Held9 w' A :=
  ⟨fun i hi => cell_later hb (h.var i hi), h.ne, fun i hi => by obtain ⟨c, t, g⟩ := h.row i hi; exact ⟨c, t, row_later hb g⟩, cell_later hb h.hnd⟩
theorem Held9.cells {w : World} {A : Nat → Addr} (h : Held9 w A) : w.cell? ⟨4, 0, none⟩ = some (.iface 342 (.pointer (some (A 0)))) ∧ w.cell? ⟨0, 0, none⟩ = some (.iface 342 (.pointer (some (A 1)))) ∧ w.cell? ⟨2, 0, none⟩ = some (.iface 342 (.pointer (some (A 2)))) ∧ w.cell? ⟨3, 0, none⟩ = some (.iface 342 (.pointer (some (A 3)))) ∧ w.cell? ⟨5, 0, none⟩ = some (.iface 342 (.pointer (some (A 4)))) ∧ w.cell? ⟨6, 0, none⟩ = some (.iface 342 (.pointer (some (A 5)))) ∧ w.cell? ⟨7, 0, none⟩ = some (.iface 342 (.pointer (some (A 6)))) ∧ w.cell? ⟨1, 0, none⟩ = some (.iface 342 (.pointer (some (A 7)))) ∧ w.cell? ⟨8, 0, none⟩ = some (.iface 342 (.pointer (some (A 8)))) :=
  ⟨h.var 0 (by decide), h.var 1 (by decide), h.var 2 (by decide), h.var 3 (by decide), h.var 4 (by decide), h.var 5 (by decide), h.var 6 (by decide), h.var 7 (by decide), h.var 8 (by decide)⟩
def errArr (A : Nat → Addr) : Array Value := #[.iface 342 (.pointer (some (A 0))), .iface 342 (.pointer (some (A 1))), .iface 342 (.pointer (some (A 2))), .iface 342 (.pointer (some (A 3))), .iface 342 (.pointer (some (A 4))), .iface 342 (.pointer (some (A 5))), .iface 342 (.pointer (some (A 6))), .iface 342 (.pointer (some (A 7))), .iface 342 (.pointer (some (A 8)))]
theorem errArr_at (A : Nat → Addr) (k : Nat) (hk : k < 9) (w : World) (t : TypeId) : (w.alloc (.cells (errArr A) t)).cell? ⟨w.heap.size, k, none⟩ = some (.iface 342 (.pointer (some (A k)))) := by
  rw [World.cell?_alloc_at _ _ _ _ rfl]
  have : k = 0 ∨ k = 1 ∨ k = 2 ∨ k = 3 ∨ k = 4 ∨ k = 5 ∨ k = 6 ∨ k = 7 ∨ k = 8 := by omega
  rcases this with rfl | rfl | rfl | rfl | rfl | rfl | rfl | rfl | rfl <;> rfl
theorem code_nil (w : World) : Calls Tryz.prog 40 #[.nilIface] w fun e w' => e = .returned (.tuple #[.int .i64 0, .int .i64 (-1)]) ∧ w' = w := by
  go_enter Tryz.func40, Tryz.ntmps40
  go_wp2
  go_ret2
  exact ⟨rfl, rfl⟩
set_option maxRecDepth 100000 in
set_option maxHeartbeats 2000000 in
theorem code_e (A : Nat → Addr) (x : Addr) (c : Nat) (r : Int) (w : World) (hE : Held9 w A) (hrow : ∃ cs t, w.heap[x.block]? = some (.cells cs t (0, 0)))
    (hc : c ≤ 9) (hlo : ∀ k, k < c → x ≠ A k) (hat : c < 9 → x = A c) (hr1 : c < 9 → r = c + 1) (hr2 : c = 9 → r = -1) :
    Calls Tryz.prog 40 #[.iface 342 (.pointer (some x))] w fun e w' => e = .returned (.tuple #[.int .i64 r, .int .i64 (-1)]) ∧ Below w.heap.size w w' := by
  have H := hid hE
  have HR := hid hrow
  have HLO := hid hlo
  have HAT := hid hat
  have HR1 := hid hr1
  have HR2 := hid hr2
  clear hE hrow hlo hat hr1 hr2
  have hb0 : Below w.heap.size w (w.alloc (.cells #[.pointer none] 125)) := (Below.refl _ _).alloc (Nat.le_refl _) _
  go_enter Tryz.func40, Tryz.ntmps40
  go_wp2_with (go_at_call 89; refine (as_miss x _ _ (by exact (H.out.later hb0).hnd)).mono ?_; rintro e w1 ⟨rfl, hb1⟩; obtain ⟨g0, g1, g2, g3, g4, g5, g6, g7, g8⟩ := (H.out.later (hb0.trans (hb1.mono hb0.size))).cells)
  have hB : Below w.heap.size w (w1.alloc (.cells #[.iface 342 (.pointer (some (A 0))), .iface 342 (.pointer (some (A 1))), .iface 342 (.pointer (some (A 2))), .iface 342 (.pointer (some (A 3))), .iface 342 (.pointer (some (A 4))), .iface 342 (.pointer (some (A 5))), .iface 342 (.pointer (some (A 6))), .iface 342 (.pointer (some (A 7))), .iface 342 (.pointer (some (A 8)))] 27)) := (hb0.trans (hb1.mono hb0.size)).alloc (Nat.le_trans hb0.size hb1.size) _
  have hcell : ∀ k, k < 9 → (w1.alloc (.cells #[.iface 342 (.pointer (some (A 0))), .iface 342 (.pointer (some (A 1))), .iface 342 (.pointer (some (A 2))), .iface 342 (.pointer (some (A 3))), .iface 342 (.pointer (some (A 4))), .iface 342 (.pointer (some (A 5))), .iface 342 (.pointer (some (A 6))), .iface 342 (.pointer (some (A 7))), .iface 342 (.pointer (some (A 8)))] 27)).cell? ⟨w1.heap.size, k, none⟩ = some (.iface 342 (.pointer (some (A k)))) := fun k hk => errArr_at A k hk w1 27
  have HC := hid hcell
  clear g0 g1 g2 g3 g4 g5 g6 g7 g8 hcell
  go_loop [3, 27] (fun a i => ∃ k : Nat, k ≤ c ∧ i = .int .i64 k ∧ a = .int .i64 (-1)) (fun _ i => 9 - (intOf i).toNat)
  case atStart => exact ⟨0, Nat.zero_le _, rfl, rfl⟩
  case round =>
    obtain ⟨k, hk, rfl, rfl⟩ := hrel
    by_cases hlt : k < 9
    · have hck := HC.out k hlt
      by_cases hkc : k = c
      · subst hkc
        have hx := HAT.out hlt
        subst hx
        have hR := HR1.out hlt
        subst hR
        go_wp2_with (go_at_call 90; refine (is_same _ _).mono ?_; rintro e w' ⟨rfl, rfl⟩)
        go_ret2
        exact ⟨rfl, hB⟩
      · obtain ⟨cs, t, hr⟩ := HR.out
        obtain ⟨cs', t', hr'⟩ := H.out.row k hlt
        have hr2 := hid (row_later hB hr)
        have hr2' := hid (row_later hB hr')
        clear hr hr'
        go_wp2_with (go_at_call 90; refine (is_other _ _ cs cs' t t' _ (HLO.out k (by omega)) hr2.out hr2'.out).mono ?_; rintro e w' ⟨rfl, rfl⟩)
        go_round
        case rel => exact ⟨k + 1, by omega, by go_num, rfl⟩
        case measure => simp [intOf]; omega
    · have hc9 : c = 9 := by omega
      have hR := HR2.out hc9
      subst hR
      go_wp2
      go_ret2
      exact ⟨rfl, hB⟩
theorem code_at (A : Nat → Addr) (c : Nat) (w : World) (hE : Held9 w A) (hc : c < 9) :
    Calls Tryz.prog 40 #[.iface 342 (.pointer (some (A c)))] w fun e w' => e = .returned (.tuple #[.int .i64 ((c : Int) + 1), .int .i64 (-1)]) ∧ Below w.heap.size w w' :=
  code_e A (A c) c _ w hE (hE.row c hc) (by omega) (fun k hk => hE.ne c k hc (by omega) (by omega)) (fun _ => rfl) (fun _ => rfl) (fun h => by omega)
theorem coded_nil (n : Int) (w : World) : Calls Tryz.prog 13 #[.nilIface, .int .i64 n] w fun e w' => e = .returned (.bool (0 == n)) ∧ w' = w := by
  go_enter Tryz.func13, Tryz.ntmps13
  go_wp2_with (go_at_call 40; refine (code_nil _).mono ?_; rintro e w' ⟨rfl, rfl⟩)
  all_goals go_ret
  all_goals exact ⟨by simp_all, rfl⟩
theorem coded_at (A : Nat → Addr) (c : Nat) (n : Int) (w : World) (hE : Held9 w A) (hc : c < 9) :
    Calls Tryz.prog 13 #[.iface 342 (.pointer (some (A c))), .int .i64 n] w fun e w' => e = .returned (.bool ((c : Int) + 1 == n)) ∧ Below w.heap.size w w' := by
  have H := hid hE
  clear hE
  go_enter Tryz.func13, Tryz.ntmps13
  go_wp2_with (go_at_call 40; refine (code_at A c _ H.out hc).mono ?_; rintro e w1 ⟨rfl, hb⟩)
  all_goals go_ret
  all_goals exact ⟨by simp_all, hb⟩
def cellsB (B : ByteArray) : Array Value := (Lib.strCells B).toArray
theorem cellsB_size (B : ByteArray) : (cellsB B).size = B.size := by simp [cellsB, Lib.strCells_length]
theorem cellsB_at {B : ByteArray} {j : Nat} (h : j < B.size) : (cellsB B)[j]? = some (.int .u8 ((B[j]'h).toNat : Int)) := by
  unfold cellsB
  rw [List.getElem?_toArray]
  exact strCells_at h
structure Pl (w : World) (p q : Nat) (B : ByteArray) (l : Int) : Prop where
  ne : p ≠ q
  head : w.heap[p]? = some (.cells #[.slice (some ⟨q, 0, none⟩) B.size B.size, .int .i64 l] 154 (0, 0))
  row : w.heap[q]? = some (.cells (cellsB B) 5 (0, 0))
theorem Pl.kept {S : Nat → Prop} {w w' : World} {p q : Nat} {B : ByteArray} {l : Int} (h : Pl w p q B l) (k : Kept S w w') (hp : ¬ S p) (hq : ¬ S q) : Pl w' p q B l := ⟨h.ne, k.row h.head hp, k.row h.row hq⟩
theorem Pl.c0 {w : World} {p q : Nat} {B : ByteArray} {l : Int} (h : Pl w p q B l) : w.cell? ⟨p, 0, none⟩ = some (.slice (some ⟨q, 0, none⟩) B.size B.size) := by rw [cell_of_row w p 0 _ _ _ h.head]; rfl
theorem Pl.c1 {w : World} {p q : Nat} {B : ByteArray} {l : Int} (h : Pl w p q B l) : w.cell? ⟨p, 1, none⟩ = some (.int .i64 l) := by rw [cell_of_row w p 1 _ _ _ h.head]; rfl
theorem Pl.f1 {w : World} {p q : Nat} {B : ByteArray} {l : Int} (h : Pl w p q B l) : w.frozen? ⟨p, 1, none⟩ = false := frozen_of_row w p 1 _ _ h.head
theorem Pl.set {w : World} {p q : Nat} {B : ByteArray} {l : Int} (h : Pl w p q B l) (l' : Int) : Pl (w.setCell ⟨p, 1, none⟩ (.int .i64 l')) p q B l' :=
  ⟨h.ne, by rw [heap_setCell_same w p 1 _ _ _ h.head]; rfl, by rw [heap_setCell_other w _ q _ (Ne.symm h.ne)]; exact h.row⟩
theorem Pl.drew {w : World} {p q : Nat} {B : ByteArray} {l : Int} (h : Pl w p q B l) : Pl w.drew p q B l := ⟨h.ne, h.head, h.row⟩
def In2 (p q : Nat) (k : Nat) : Prop := k = p ∨ k = q
theorem kept_set {w : World} (p q : Nat) (v : Value) : Kept (In2 p q) w (w.setCell ⟨p, 1, none⟩ v) := (Kept.refl _ w).setCell (.inl rfl) v
theorem power_any (p q : Nat) (B : ByteArray) (l : Int) (w : World) (h : Pl w p q B l) :
    Calls Tryz.prog 102 #[.pointer (some ⟨p, 0, none⟩)] w fun e w' => e = .returned (.bool (l != -2)) ∧ w' = w := by
  have c1 := h.c1
  clear h
  go_enter Tryz.func102, Tryz.ntmps102
  go_wp2
  go_ret
  exact ⟨rfl, rfl⟩
theorem pon_any (p q : Nat) (B : ByteArray) (l : Int) (w : World) (h : Pl w p q B l) :
    Calls Tryz.prog 109 #[.pointer (some ⟨p, 0, none⟩)] w fun e w' => e = .returned (.tuple #[]) ∧ Pl w' p q B (-1) ∧ Kept (In2 p q) w w' := by
  have c1 := h.c1
  have f1 := h.f1
  have H := hid (h.set (-1))
  clear h
  go_enter Tryz.func109, Tryz.ntmps109
  go_wp2
  go_end0
  exact ⟨rfl, H.out, kept_set p q _⟩
theorem poff_any (p q : Nat) (B : ByteArray) (l : Int) (w : World) (h : Pl w p q B l) :
    Calls Tryz.prog 110 #[.pointer (some ⟨p, 0, none⟩)] w fun e w' => e = .returned (.tuple #[]) ∧ Pl w' p q B (-2) ∧ Kept (In2 p q) w w' := by
  have c1 := h.c1
  have f1 := h.f1
  have H := hid (h.set (-2))
  clear h
  go_enter Tryz.func110, Tryz.ntmps110
  go_wp2
  go_end0
  exact ⟨rfl, H.out, kept_set p q _⟩
theorem Held9.g1 {w : World} {A : Nat → Addr} (h : Held9 w A) : w.cell? ⟨0, 0, none⟩ = some (.iface 342 (.pointer (some (A 1)))) := h.var 1 (by decide)
theorem Held9.g5 {w : World} {A : Nat → Addr} (h : Held9 w A) : w.cell? ⟨6, 0, none⟩ = some (.iface 342 (.pointer (some (A 5)))) := h.var 5 (by decide)
structure HeldE (w : World) (A : Nat → Addr) : Prop where
  g1 : w.cell? ⟨0, 0, none⟩ = some (.iface 342 (.pointer (some (A 1))))
  g2 : w.cell? ⟨2, 0, none⟩ = some (.iface 342 (.pointer (some (A 2))))
  g4 : w.cell? ⟨5, 0, none⟩ = some (.iface 342 (.pointer (some (A 4))))
  g5 : w.cell? ⟨6, 0, none⟩ = some (.iface 342 (.pointer (some (A 5))))
theorem HeldE.later {w w' : World} {A : Nat → Addr} (h : HeldE w A) (hb : Below w.heap.size w w') : HeldE w' A := ⟨cell_later hb h.g1, cell_later hb h.g2, cell_later hb h.g4, cell_later hb h.g5⟩
theorem Held9.toE {w : World} {A : Nat → Addr} (h : Held9 w A) : HeldE w A := ⟨h.var 1 (by decide), h.var 2 (by decide), h.var 4 (by decide), h.var 5 (by decide)⟩
theorem pcheck_bound (A : Nat → Addr) (p q : Nat) (B : ByteArray) (l a n : Int) (w : World) (h : Pl w p q B l) (hE : HeldE w A) (hB : B.size ≤ 1000) (hn : n ≤ 9223372036854775807) (hb : a < 0 ∨ n < 0 ∨ (B.size : Int) - n < a) :
    Calls Tryz.prog 182 #[.pointer (some ⟨p, 0, none⟩), .int .i64 a, .int .i64 n] w fun e w' => e = .returned (.iface 342 (.pointer (some (A 1)))) ∧ w' = w := by
  have c0 := h.c0
  have g1 := hE.g1
  clear h hE
  by_cases h1 : a < 0
  · clear hb
    go_enter Tryz.func182, Tryz.ntmps182
    go_wp2
    go_ret
    exact ⟨rfl, rfl⟩
  · by_cases h2 : n < 0
    · clear hb
      go_enter Tryz.func182, Tryz.ntmps182
      go_wp2
      go_ret
      exact ⟨rfl, rfl⟩
    · have h3 : (B.size : Int) - n < a := by omega
      clear hb
      go_enter Tryz.func182, Tryz.ntmps182
      go_wp2
      go_ret
      exact ⟨rfl, rfl⟩
theorem pcheck_in (A : Nat → Addr) (p q : Nat) (B : ByteArray) (l a n : Int) (w : World) (h : Pl w p q B l) (hE : HeldE w A) (hB : B.size ≤ 1000) (hb : ¬ (a < 0 ∨ n < 0 ∨ (B.size : Int) - n < a)) :
    Calls Tryz.prog 182 #[.pointer (some ⟨p, 0, none⟩), .int .i64 a, .int .i64 n] w fun e w' => e = .returned (if l = -2 then .iface 342 (.pointer (some (A 5))) else .nilIface) ∧ w' = w := by
  have H := hid h
  have c0 := h.c0
  have g5 := hE.g5
  have h1 : ¬ a < 0 := fun g => hb (.inl g)
  have h2 : ¬ n < 0 := fun g => hb (.inr (.inl g))
  have h3 : ¬ (B.size : Int) - n < a := fun g => hb (.inr (.inr g))
  clear h hE hb
  by_cases hl : l = -2
  · subst hl
    go_enter Tryz.func182, Tryz.ntmps182
    go_wp2_with (go_at_call 102; refine (power_any p q B _ _ H.out).mono ?_; rintro e w' ⟨rfl, rfl⟩)
    go_ret
    exact ⟨rfl, rfl⟩
  · rw [if_neg hl]
    have hl' : (l != -2) = true := by simpa using hl
    clear hl
    go_enter Tryz.func182, Tryz.ntmps182
    go_wp2_with (go_at_call 102; refine (power_any p q B _ _ H.out).mono ?_; rintro e w' ⟨rfl, rfl⟩)
    go_ret
    exact ⟨rfl, rfl⟩
theorem pspend_zero (p q : Nat) (B : ByteArray) (w : World) (h : Pl w p q B 0) :
    Calls Tryz.prog 258 #[.pointer (some ⟨p, 0, none⟩)] w fun e w' => e = .returned (.bool false) ∧ Pl w' p q B (-2) ∧ Kept (In2 p q) w w' := by
  have H := hid h
  have c1 := h.c1
  clear h
  go_enter Tryz.func258, Tryz.ntmps258
  go_wp2_with (go_at_call 110; refine (poff_any p q B _ _ H.out).mono ?_; rintro e w' ⟨rfl, h1, h2⟩)
  go_ret
  exact ⟨rfl, h1, h2⟩
theorem pspend_pos (p q : Nat) (B : ByteArray) (l : Int) (w : World) (h : Pl w p q B l) (h0 : 0 < l) (h1 : l ≤ 9223372036854775807) :
    Calls Tryz.prog 258 #[.pointer (some ⟨p, 0, none⟩)] w fun e w' => e = .returned (.bool true) ∧ Pl w' p q B (l - 1) ∧ Kept (In2 p q) w w' := by
  have c1 := h.c1
  have f1 := h.f1
  have H := hid (h.set (l - 1))
  clear h
  go_enter Tryz.func258, Tryz.ntmps258
  go_wp2
  go_ret
  exact ⟨rfl, H.out, kept_set p q _⟩
theorem pspend_neg (p q : Nat) (B : ByteArray) (l : Int) (w : World) (h : Pl w p q B l) (h0 : l < 0) :
    Calls Tryz.prog 258 #[.pointer (some ⟨p, 0, none⟩)] w fun e w' => e = .returned (.bool true) ∧ w' = w := by
  have c1 := h.c1
  clear h
  go_enter Tryz.func258, Tryz.ntmps258
  go_wp2
  go_ret
  exact ⟨rfl, rfl⟩
theorem pcut_bound (A : Nat → Addr) (v : Value) (n : Int) (w : World) (hE : HeldE w A) (hn : n < 0) :
    Calls Tryz.prog 120 #[v, .int .i64 n] w fun e w' => e = .returned (.iface 342 (.pointer (some (A 1)))) ∧ w' = w := by
  have g1 := hE.g1
  clear hE
  go_enter Tryz.func120, Tryz.ntmps120
  go_wp2
  go_ret
  exact ⟨rfl, rfl⟩
theorem pcut_off (A : Nat → Addr) (p q : Nat) (B : ByteArray) (n : Int) (w : World) (h : Pl w p q B (-2)) (hE : HeldE w A) (hn : ¬ n < 0) :
    Calls Tryz.prog 120 #[.pointer (some ⟨p, 0, none⟩), .int .i64 n] w fun e w' => e = .returned (.iface 342 (.pointer (some (A 5)))) ∧ w' = w := by
  have H := hid h
  have g5 := hE.g5
  clear hE h
  go_enter Tryz.func120, Tryz.ntmps120
  go_wp2_with (go_at_call 102; refine (power_any p q B _ _ H.out).mono ?_; rintro e w' ⟨rfl, rfl⟩)
  go_ret
  exact ⟨rfl, rfl⟩
theorem pcut_ok (p q : Nat) (B : ByteArray) (l n : Int) (w : World) (h : Pl w p q B l) (hl : ¬ l = -2) (hn : ¬ n < 0) :
    Calls Tryz.prog 120 #[.pointer (some ⟨p, 0, none⟩), .int .i64 n] w fun e w' => e = .returned .nilIface ∧ Pl w' p q B n ∧ Kept (In2 p q) w w' := by
  have H := hid h
  have c1 := h.c1
  have f1 := h.f1
  have H2 := hid (h.set n)
  have hl' : (l != -2) = true := by simpa using hl
  clear h hl
  go_enter Tryz.func120, Tryz.ntmps120
  go_wp2_with (go_at_call 102; refine (power_any p q B _ _ H.out).mono ?_; rintro e w' ⟨rfl, rfl⟩)
  go_ret
  exact ⟨rfl, H2.out, kept_set p q _⟩
end Go.Proofs.YtbaamegnmeohoacGreatDoor
