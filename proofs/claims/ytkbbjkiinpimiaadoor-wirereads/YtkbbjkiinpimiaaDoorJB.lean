/-
  WALKS of package journal: add (a number's four bytes behind others), four (a number out of four bytes).
-/
import Derived.Test.YtkbbjkiinpimiaaDoorJA
import Derived.Laws.AppendOwn
import Derived.BigQuiet
namespace Go.Proofs.YtkbbjkiinpimiaaDoor
open Go.RowKit

theorem Tryd.infoB1 : (Tryd.prog.info? 5).map (fun i => (i.zero, i.size, i.bytes)) = some (some (.int .u8 0), 1, 1) := by kernel_rfl
/-- The cells of bytes. -/
def cellsL (l : List UInt8) : List Value := l.map fun b => .int .u8 (b.toNat : Int)
theorem cellsL_length (l : List UInt8) : (cellsL l).length = l.length := by simp [cellsL]
theorem cellsL_one (l : List UInt8) : ∀ u ∈ cellsL l, u.oneCell' = true := by
  intro u hu
  obtain ⟨n, -, rfl⟩ := List.mem_map.1 hu
  rfl
theorem cellsL_append (a b : List UInt8) : cellsL (a ++ b) = cellsL a ++ cellsL b := by simp [cellsL]
theorem wide4 (n : Nat) : wideL n 4 = [UInt8.ofNat (n / 16777216 % 256), UInt8.ofNat (n / 65536 % 256), UInt8.ofNat (n / 256 % 256), UInt8.ofNat (n % 256)] := by
  simp [wideL, Nat.div_div_eq_div_mul]
theorem wide1 (n : Nat) : wideL n 1 = [UInt8.ofNat (n % 256)] := by simp [wideL]
theorem ofNat_cell (n : Nat) : Value.int .u8 ((UInt8.ofNat (n % 256)).toNat : Int) = .int .u8 ((n : Int) % 256) := by
  have : (UInt8.ofNat (n % 256)).toNat = n % 256 := by simp
  rw [this]; congr 1
/-- Bytes that the call owns. -/
def OwnB (w : World) (base : Nat) (v : Value) (l : List UInt8) : Prop := w.ownsRow base 5 1 v l.length (cellsL l)

theorem own_below {B : Nat} {w0 w W w' : World} {e : TypeId} {size n : Nat} {v : Value} {xs : List Value} (hnx : Below B w0 w) (hB : B ≤ w.heap.size) (hW : Below w.heap.size w W) (hown : w.ownsRow B e size v n xs) (hg : W.grownBy w' v.ownBlock) : Below B w0 w' := by
  refine Below.grown (hnx.trans (hW.mono hB)) hg (Nat.le_trans hB hW.size) ?_
  intro g hg
  rcases hown.2 with ⟨rfl, _⟩ | ⟨g', c', cur, rfl, hb', _⟩
  · cases hg
  · have : g' = g := by simpa [Value.ownBlock] using hg
    omega
theorem addrAdd (b off j : Nat) : (⟨b, off, none⟩ : Addr).add j = ⟨b, off + j, none⟩ := by unfold Addr.add; split <;> simp_all
/-- A literal's cells, in the block that was made last. -/
theorem lit_cells (w : World) (cs : List Value) (t : TypeId) : ∀ j u, cs[j]? = some u → (w.alloc (.cells cs.toArray t)).cell? ((⟨w.heap.size, 0, none⟩ : Addr).add j) = some u := by
  intro j u hj
  rw [addrAdd, cell_of_row _ w.heap.size (0 + j) cs.toArray t (0, 0) (heap_alloc_new w _), Nat.zero_add, List.getElem?_toArray]
  exact hj
theorem wide4_cells (n : Nat) (hn : n < 4294967296) : cellsL (wideL n 4) = [.int .u8 ((n : Int) / 16777216), .int .u8 ((n : Int) / 65536 % 256), .int .u8 ((n : Int) / 256 % 256), .int .u8 ((n : Int) % 256)] := by
  rw [wide4]
  simp only [cellsL, List.map_cons, List.map_nil, ofNat_cell]
  have e1 : ((n / 16777216 : Nat) : Int) % 256 = (n : Int) / 16777216 := by omega
  rw [e1]
  rfl

set_option maxRecDepth 100000 in
theorem add_any (base n : Nat) (v : Value) (l : List UInt8) (w : World) (h : OwnB w base v l) (hb : base ≤ w.heap.size) (hl : l.length ≤ 1000) (hn : n < 4294967296) :
    Calls Tryd.prog 100 #[v, .int .u32 (n : Int)] w fun e w' => ∃ v', e = .returned v' ∧ OwnB w' base v' (l ++ wideL n 4) ∧ Below base w w' := by
  obtain ⟨i0, hi, hz0, hz1, hz2⟩ := info_parts Tryd.infoB1
  have H := hid h
  have HW := hid (wide4_cells n hn)
  clear h
  go_enter Tryd.func100, Tryd.ntmps100
  go_wp2_with (at_builtin; refine wpList_append_own _ rfl (.tmp 5) (.tmp 17) 54 rfl base 5 i0 (.int .u8 0) 1 1 Tryd.underlying54 hi hz0 hz1 hz2 rfl (by decide) _ l.length (cellsL l) rfl (by exact World.ownsRow.alloc H.out _) ⟨w.heap.size, 0, none⟩ 4 4 [.int .u8 ((n : Int) / 16777216), .int .u8 ((n : Int) / 65536 % 256), .int .u8 ((n : Int) / 256 % 256), .int .u8 ((n : Int) % 256)] rfl rfl (lit_cells _ _ _) ?c2 ?c3 ?c4 ?c5 ?_)
  case c2 => intro u hu; rw [← HW.out] at hu; exact cellsL_one _ u hu
  case c3 => unfold maxLen; omega
  case c4 => omega
  case c5 => simp; omega
  intro v' w1 hown hg _
  have HO : Hid (OwnB w1 base v' (l ++ wideL n 4)) := by
    unfold Hid OwnB
    rw [cellsL_append, HW.out, List.length_append, wideL_length]; exact hown
  have HB := hid (own_below (Below.refl base w) hb ((Below.refl _ _).alloc (Nat.le_refl _) _) H.out hg)
  clear hown hg
  go_wp2
  go_ret
  exact ⟨v', rfl, HO.out, HB.out⟩

/-- Four bytes as a number. -/
theorem or32 (a b : Nat) (ha : a < 4294967296) (hb : b < 4294967296) : bits .or .u32 (a : Int) (b : Int) = ((a ||| b : Nat) : Int) := by
  have hx : a ||| b < 2 ^ 32 := Nat.or_lt_two_pow (by omega) (by omega)
  show IntKind.u32.wrap ((BitVec.ofInt 32 (a : Int) ||| BitVec.ofInt 32 (b : Int)).toNat : Int) = _
  rw [BitVec.toNat_or, ofInt_nat32 a ha, ofInt_nat32 b hb, IntKind.wrap_u32]
  omega
theorem or_low (a b i : Nat) (hb : b < 2 ^ i) : (a * 2 ^ i) ||| b = a * 2 ^ i + b := by
  rw [Nat.mul_comm]; exact (Nat.two_pow_add_eq_or_of_lt hb a).symm
theorem idx_str (s : ByteArray) (i : Nat) (z : Int) (h : i < s.size) (hz : z = i) (w : World) : (Instr.index 9 (.string s) (.int .i64 z)).run Tryd.prog w = .ok (.int .u8 ((s[i]'h).toNat : Int)) w := by
  subst hz
  rw [run_index_string w 9 s .i64 i Tryd.underlying9, dif_pos ⟨by omega, by omega⟩]
  rfl
theorem take4 : ∀ (l : List UInt8) (h : 4 ≤ l.length), l.take 4 = [l[0]'(by omega), l[1]'(by omega), l[2]'(by omega), l[3]'(by omega)]
  | _ :: _ :: _ :: _ :: _, _ => rfl
theorem first4 (s : ByteArray) (h : 4 ≤ s.size) : s.data.toList.take 4 = [s[0]'(by omega), s[1]'(by omega), s[2]'(by omega), s[3]'(by omega)] := by
  rw [getB, getB, getB, getB]
  exact take4 _ h
theorem or24 (a b : Nat) (h : b < 16777216) : a * 16777216 ||| b = a * 16777216 + b := or_low a b 24 h
theorem or16 (a b : Nat) (h : b < 65536) : a * 65536 ||| b = a * 65536 + b := or_low a b 16 h
theorem or8 (a b : Nat) (h : b < 256) : a * 256 ||| b = a * 256 + b := or_low a b 8 h
theorem four_num (a b c d : Nat) (hb : b < 256) (hc : c < 256) (hd : d < 256) : ((a * 16777216 ||| b * 65536) ||| c * 256) ||| d = 256 * (256 * (256 * a + b) + c) + d := by
  rw [or24 _ _ (by omega), show a * 16777216 + b * 65536 = (a * 256 + b) * 65536 by omega, or16 _ _ (by omega), show (a * 256 + b) * 65536 + c * 256 = ((a * 256 + b) * 256 + c) * 256 by omega, or8 _ _ hd]
  omega
theorem four_or (a b c d : Nat) (ha : a < 256) (hb : b < 256) (hc : c < 256) (hd : d < 256) :
    bits BinOp.or IntKind.u32 (bits BinOp.or IntKind.u32 (bits BinOp.or IntKind.u32 ((a : Int) * 16777216) ((b : Int) * 65536)) ((c : Int) * 256)) (d : Int) = ((256 * (256 * (256 * (256 * 0 + a) + b) + c) + d : Nat) : Int) := by
  have e1 := or32 (a * 16777216) (b * 65536) (by omega) (by omega)
  have n1 := or24 a (b * 65536) (by omega)
  have e2 := or32 (a * 16777216 ||| b * 65536) (c * 256) (by omega) (by omega)
  have n2 : a * 16777216 ||| b * 65536 ||| c * 256 = a * 16777216 + b * 65536 + c * 256 := by
    rw [n1, show a * 16777216 + b * 65536 = (a * 256 + b) * 65536 by omega, or16 _ _ (by omega)]
  have e3 := or32 (a * 16777216 ||| b * 65536 ||| c * 256) d (by omega) (by omega)
  simp only [Int.natCast_mul] at e1 e2
  rw [show ((a : Int) * 16777216) = (a : Int) * ((16777216 : Nat) : Int) from rfl, show ((b : Int) * 65536) = (b : Int) * ((65536 : Nat) : Int) from rfl, show ((c : Int) * 256) = (c : Int) * ((256 : Nat) : Int) from rfl, e1, e2, e3, four_num a b c d hb hc hd]
  congr 1
  omega
set_option maxRecDepth 100000 in
theorem four_any (s : ByteArray) (w : World) (h : 4 ≤ s.size) :
    Calls Tryd.prog 106 #[.string s] w fun e w' => e = .returned (.int .u32 (numL (s.data.toList.take 4) : Nat)) ∧ ∃ m, w' = w.drewN m := by
  have b0 := UInt8.toNat_lt (s[0]'(by omega))
  have b1 := UInt8.toNat_lt (s[1]'(by omega))
  have b2 := UInt8.toNat_lt (s[2]'(by omega))
  have b3 := UInt8.toNat_lt (s[3]'(by omega))
  have x0 := idx_str s 0 0 (by omega) rfl
  have x1 := idx_str s 1 1 (by omega) rfl
  have x2 := idx_str s 2 2 (by omega) rfl
  have x3 := idx_str s 3 3 (by omega) rfl
  rw [first4 s h]
  simp only [numL, List.foldl_cons, List.foldl_nil]
  generalize (s[0]'(by omega)).toNat = a at b0 x0 ⊢
  generalize (s[1]'(by omega)).toNat = b at b1 x1 ⊢
  generalize (s[2]'(by omega)).toNat = c at b2 x2 ⊢
  generalize (s[3]'(by omega)).toNat = d at b3 x3 ⊢
  have HN := hid (four_or a b c d b0 b1 b2 b3)
  clear h
  go_enter Tryd.func106, Tryd.ntmps106
  go_wp2
  go_quiet (fail)
  go_wp2
  go_ret
  exact ⟨ret_int HN.out, _, rfl⟩
end Go.Proofs.YtkbbjkiinpimiaaDoor
