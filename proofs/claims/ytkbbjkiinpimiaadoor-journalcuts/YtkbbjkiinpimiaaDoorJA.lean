/-
  WALKS of package journal: sum (the sum of bytes that are a slice).
-/
import Derived.Test.YtkbbjkiinpimiaaDoorJD
import Derived.Test.YtkbbjkiinpimiaaDoorZ0
import Derived.Test.YtkbbjkiinpimiaaDoorPlain
namespace Go.Proofs.YtkbbjkiinpimiaaDoor
open Go.RowKit

theorem ofInt_nat32 (a : Nat) (ha : a < 4294967296) : (BitVec.ofInt 32 (a : Int)).toNat = a := by
  rw [BitVec.ofInt_natCast, BitVec.toNat_ofNat]; exact Nat.mod_eq_of_lt (by omega)
theorem xor32 (a b : Nat) (ha : a < 4294967296) (hb : b < 4294967296) : bits .xor .u32 (a : Int) (b : Int) = ((a ^^^ b : Nat) : Int) := by
  have hx : a ^^^ b < 2 ^ 32 := Nat.xor_lt_two_pow (by omega) (by omega)
  show IntKind.u32.wrap ((BitVec.ofInt 32 (a : Int) ^^^ BitVec.ofInt 32 (b : Int)).toNat : Int) = _
  rw [BitVec.toNat_xor, ofInt_nat32 a ha, ofInt_nat32 b hb, IntKind.wrap_u32]
  omega
theorem and32_1 (a : Nat) (ha : a < 4294967296) : bits .and .u32 (a : Int) 1 = ((a % 2 : Nat) : Int) := by
  have h := ofInt_nat32 1 (by omega)
  show IntKind.u32.wrap ((BitVec.ofInt 32 (a : Int) &&& BitVec.ofInt 32 ((1 : Nat) : Int)).toNat : Int) = _
  rw [BitVec.toNat_and, ofInt_nat32 a ha, h, IntKind.wrap_u32, Nat.and_one_is_mod]
  omega

/-- Bytes in memory behind a slice's address. -/
def BytesAt (w : World) (b o : Nat) (l : List UInt8) : Prop := ∀ j (h : j < l.length), w.cell? ⟨b, o + j, none⟩ = some (.int .u8 ((l[j]'h).toNat : Int))

theorem idx_strA (s : ByteArray) (i : Nat) (z : Int) (h : i < s.size) (hz : z = i) (w : World) : (Instr.index 9 (.string s) (.int .i64 z)).run Tryd.prog w = .ok (.int .u8 ((s[i]'h).toNat : Int)) w := by
  subst hz
  rw [run_index_string w 9 s .i64 i Tryd.underlying9, dif_pos ⟨by omega, by omega⟩]
  rfl
theorem sum_any (s : ByteArray) (w : World) (hl : s.size ≤ 1000) :
    Calls Tryd.prog 101 #[.string s] w fun e w' => e = .returned (.int .u32 (crcL s.data.toList : Nat)) ∧ w' = w := by
  go_enter Tryd.func101, Tryd.ntmps101
  go_wp2
  go_loop [3, 8] (fun x i => ∃ k : Nat, k ≤ s.size ∧ i = .int .i64 k ∧ x = .int .u32 (crcFold 4294967295 (s.data.toList.take k) : Nat)) (fun _ i => s.size - (intOf i).toNat)
  case atStart => exact ⟨0, Nat.zero_le _, rfl, rfl⟩
  case round =>
    obtain ⟨k, hk, rfl, rfl⟩ := hrel
    have hc : crcFold 4294967295 (s.data.toList.take k) < 4294967296 := crcFold_lt _ (by decide)
    by_cases hlt : k < s.size
    · have ix := idx_strA s k (k : Int) hlt rfl
      have hb := UInt8.toNat_lt (s[k]'hlt)
      have HS : Hid (crcFold 4294967295 (s.data.toList.take (k + 1)) = devBits (crcFold 4294967295 (s.data.toList.take k) ^^^ (s[k]'hlt).toNat) 8) := by
        unfold Hid
        rw [dev_eight, ← crcFold_snoc, List.take_add_one, List.getElem?_eq_getElem hlt, getB hlt]
        rfl
      generalize (s[k]'hlt).toNat = x at ix hb HS
      generalize crcFold 4294967295 (s.data.toList.take k) = c at hc HS ⊢
      have hx := xor32 c x hc (by omega)
      have hcx : c ^^^ x < 4294967296 := Nat.xor_lt_two_pow (n := 32) hc (by omega)
      go_wp2
      go_loop [3, 17] (fun y i => ∃ m : Nat, m ≤ 8 ∧ i = .int .i64 m ∧ y = .int .u32 (devBits (c ^^^ x) m : Nat)) (fun _ i => 8 - (intOf i).toNat)
      case atStart => exact ⟨0, Nat.zero_le _, rfl, rfl⟩
      case round =>
        obtain ⟨m, hm, rfl, rfl⟩ := hrel
        have hd : devBits (c ^^^ x) m < 4294967296 := devBits_lt hcx m
        have HD : Hid (devBits (c ^^^ x) (m + 1) = devBit (devBits (c ^^^ x) m)) := rfl
        have ha := and32_1 _ hd
        have hx2 := xor32 (devBits (c ^^^ x) m / 2) 3988292384 (by omega) (by decide)
        have HX := hid hx2
        clear hx2
        have hpar : devBits (c ^^^ x) m % 2 = 0 ∨ devBits (c ^^^ x) m % 2 = 1 := by omega
        by_cases hlt8 : m < 8
        · generalize devBits (c ^^^ x) m = y at hd HD ha HX hpar ⊢
          rcases hpar with hp | hp
          · rw [hp] at ha
            go_wp2
            go_round
            case rel => exact ⟨m + 1, by omega, by go_num, val_int (by rw [HD.out, devBit, if_neg (by omega)]; omega)⟩
            case measure => simp [intOf]; omega
          · rw [hp] at ha
            go_wp2
            go_round
            case rel => exact ⟨m + 1, by omega, by go_num, val_int (by rw [HD.out, devBit, if_pos hp]; exact HX.out)⟩
            case measure => simp [intOf]; omega
        · obtain rfl : m = 8 := by omega
          go_wp2
          go_round
          case rel => exact ⟨k + 1, by omega, by go_num, val_int (by rw [HS.out])⟩
          case measure => simp [intOf]; omega
    · obtain rfl : k = s.size := by omega
      have htk : s.data.toList.take s.size = s.data.toList := List.take_length
      rw [htk] at hc
      have HC : Hid (bits BinOp.xor IntKind.u32 IntKind.u32.max ((crcFold 4294967295 s.data.toList : Nat) : Int) = ((crcL s.data.toList : Nat) : Int)) := by
        unfold Hid
        rw [show IntKind.u32.max = ((4294967295 : Nat) : Int) by decide, xor32 4294967295 _ (by decide) hc, Nat.xor_comm]
        rfl
      rw [htk]
      go_wp2
      go_ret
      exact ⟨ret_int HC.out, rfl⟩
end Go.Proofs.YtkbbjkiinpimiaaDoor
