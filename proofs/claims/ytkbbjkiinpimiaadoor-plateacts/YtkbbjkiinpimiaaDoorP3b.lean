/-
  WALKS of package plate: From, Bytes, Read.
-/
import Derived.Test.YtkbbjkiinpimiaaDoorP3
import Derived.Test.YtkbbjkiinpimiaaDoorP4
namespace Go.Proofs.YtkbbjkiinpimiaaDoor
open Go.RowKit

/-- 'copy(bytes, text)', both of one length: the row is the text's. -/
theorem run_copy_str {P : Program} {w : World} (dT sT ty elem : TypeId) (hu : P.underlying dT = some (.slice elem)) (hsz : (P.info? elem).map (·.size) = some 1)
    (g cap : Nat) (x : ByteArray) (cur : Array Value) (t : TypeId) (hg : w.heap[g]? = some (.cells cur t (0, 0))) (hfit : cur.size = x.size) :
    (Builtin.copy_ #[dT, sT] ty #[.slice (some ⟨g, 0, none⟩) x.size cap, .string x]).run P w = .ok (goInt x.size) (w.setRow g (cellsB x)) := by
  have hf := Lib.run_firstCells_string (P := P) w 1 x
  have hst := run_storeCells_at P g 0 t (Lib.strCells x) 0 cur w hg (by rw [Lib.strCells_length]; omega) (Lib.strCells_oneCell x)
  rw [Lib.strCells_length] at hst
  have e : cur.toList.drop (0 + 0 + x.size) = [] := List.drop_eq_nil_of_le (by simp; omega)
  rw [e] at hst
  simp only [Nat.add_zero, List.take_zero, List.nil_append, List.append_nil] at hst
  cases hq : P.info? elem with
  | none => simp [hq] at hsz
  | some i =>
    have hi : i.size = 1 := by simpa [hq] using hsz
    simp [Builtin.copy_, run_underlying hu, Builtin.lenOf, sizeOf, typeInfo, hq, hi, hf, hst, cellsB]
theorem byteSize : (Tryd.prog.info? 5).map (·.size) = some 1 := by kernel_rfl
theorem Pl.row_set {w : World} {p q : Nat} {B s : ByteArray} {l : Int} (h : Pl w p q B l) (hs : s.size = B.size) : Pl (w.setRow q (cellsB s)) p q s l :=
  ⟨h.ne, by rw [setRow_other w q p _ h.ne, h.head, hs], setRow_heap w q _ _ _ _ h.row⟩
theorem kept_setRow {w : World} (p q : Nat) (cs : Array Value) : Kept (In2 p q) w (w.setRow q cs) := ⟨rfl, rfl, rfl, by simp, fun k _ hk => setRow_other w q k cs (fun e => hk (.inr e))⟩

theorem pfrom_bound (A : Nat → Addr) (s : ByteArray) (w : World) (hE : HeldE w A) (h : 512 < s.size) (h2 : s.size ≤ 9223372036854775807) :
    Calls Tryd.prog 35 #[.string s] w fun e w' => e = .returned (.tuple #[.pointer none, .iface 107 (.pointer (some (A 1)))]) ∧ Below w.heap.size w w' := by
  have HE := hid hE
  clear hE
  go_enter Tryd.func35, Tryd.ntmps35
  go_wp2_with (go_at_call 33; refine (pnew_bound A _ _ HE.out (by omega)).mono ?_; rintro e w1 ⟨rfl, hb⟩)
  go_ret2
  exact ⟨rfl, hb⟩
set_option maxRecDepth 100000 in
theorem pfrom_ok (s : ByteArray) (w : World) (h : s.size ≤ 512) :
    Calls Tryd.prog 35 #[.string s] w fun e w' => e = .returned (.tuple #[.pointer (some ⟨w.heap.size + 1, 0, none⟩), .nilIface]) ∧ Pl w' (w.heap.size + 1) w.heap.size s (-1) ∧ Below w.heap.size w w' ∧ w'.heap.size = w.heap.size + 2 := by
  go_enter Tryd.func35, Tryd.ntmps35
  go_wp2_with (go_at_call 33; refine (pnew_ok _ _ h).mono ?_; rintro e w1 ⟨rfl, hP, hb, hsz⟩; have c0 := hP.c0; rw [zeroB_size] at c0; have hcp := fun ty => run_copy_str (P := Tryd.prog) 54 9 ty 5 Tryd.underlying54 byteSize w.heap.size s.size s _ _ hP.row (by rw [cellsB_size, zeroB_size]))
  go_ret2
  exact ⟨rfl, hP.row_set (zeroB_size _).symm, Kept.below (kept_setRow (w.heap.size + 1) w.heap.size _) hb.size (fun k hk => by unfold In2 at hk; omega) hb, by simpa using hsz⟩

/-- 'string(bytes[o : o+n])'. -/
theorem conv_cut {w : World} {p q : Nat} {B : ByteArray} {l : Int} (h : Pl w p q B l) (o n cap : Nat) (hn : o + n ≤ B.size) :
    (convert 54 9 (.slice (some ⟨q, o, none⟩) n cap)).run Tryd.prog w = .ok (.string (B.extract o (o + n))) w := by
  have hl : ((B.extract o (o + n)).data.toList).length = n := by
    rw [ext_list]
    rw [size_list] at hn
    simp only [List.length_take, List.length_drop]
    omega
  have := run_convert_bytes_back (P := Tryd.prog) w 54 9 5 ⟨q, o, none⟩ cap (B.extract o (o + n)).data.toList Tryd.underlying54 Tryd.underlying5 Tryd.underlying9 (fun j hj => by
    rw [hl] at hj
    rw [Addr.add_lit, h.cq (by omega), getB (by omega)]
    congr 3
    simp only [ext_list, List.getElem_take, List.getElem_drop])
  rw [hl] at this
  rw [this]
theorem conv_all {w : World} {p q : Nat} {B : ByteArray} {l : Int} (h : Pl w p q B l) :
    (convert 54 9 (.slice (some ⟨q, 0, none⟩) B.size B.size)).run Tryd.prog w = .ok (.string B) w := by
  have := conv_cut h 0 B.size B.size (by omega)
  rw [Nat.zero_add, show B.extract 0 B.size = B by simp] at this
  exact this
theorem pbytes_any (p q : Nat) (B : ByteArray) (l : Int) (w : World) (h : Pl w p q B l) :
    Calls Tryd.prog 34 #[.pointer (some ⟨p, 0, none⟩)] w fun e w' => e = .returned (.string B) ∧ w' = w := by
  have c0 := h.c0
  have hc := conv_all h
  clear h
  go_enter Tryd.func34, Tryd.ntmps34
  go_wp2
  go_ret
  exact ⟨rfl, rfl⟩
end Go.Proofs.YtkbbjkiinpimiaaDoor
