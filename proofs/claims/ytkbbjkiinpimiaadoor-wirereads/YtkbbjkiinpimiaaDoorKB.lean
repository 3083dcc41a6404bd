/-
  WALKS of package wire: one, four, tail.
-/
import Derived.Test.YtkbbjkiinpimiaaDoorKA
namespace Go.Proofs.YtkbbjkiinpimiaaDoor
open Go.RowKit

theorem one_is (y : Bool) (w : World) : Calls Tryd.prog 83 #[.bool y] w fun e w' => e = .returned (.int .u8 (y.toNat : Int)) ∧ w' = w := by
  cases y
  all_goals
    go_enter Tryd.func83, Tryd.ntmps83
    go_wp2
    go_ret
    exact ⟨rfl, rfl⟩

set_option maxRecDepth 100000 in
theorem wfour_any (base n : Nat) (v : Value) (l : List UInt8) (w : World) (h : OwnB w base v l) (hb : base ≤ w.heap.size) (hl : l.length ≤ 1000) (hn : n < 4294967296) :
    Calls Tryd.prog 82 #[v, .int .i64 (n : Int)] w fun e w' => ∃ v', e = .returned v' ∧ OwnB w' base v' (l ++ wideL n 4) ∧ Below base w w' := by
  obtain ⟨i0, hi, hz0, hz1, hz2⟩ := info_parts Tryd.infoB1
  have H := hid h
  have HW := hid (wide4_cells n hn)
  clear h
  go_enter Tryd.func82, Tryd.ntmps82
  go_wp2_with (at_builtin; refine wpList_append_own _ rfl (.tmp 5) (.tmp 17) 54 rfl base 5 i0 (.int .u8 0) 1 1 Tryd.underlying54 hi hz0 hz1 hz2 rfl (by decide) _ l.length (cellsL l) rfl (by exact World.ownsRow.alloc H.out _) ⟨w.heap.size, 0, none⟩ 4 4 [.int .u8 ((n : Int) / 16777216), .int .u8 ((n : Int) / 65536 % 256), .int .u8 ((n : Int) / 256 % 256), .int .u8 ((n : Int) % 256)] rfl rfl (lit_cells _ _ _) ?c2 ?c3 ?c4 ?c5 ?_)
  case c2 => intro u hu; rw [← HW.out] at hu; exact cellsL_one _ u hu
  case c3 => unfold maxLen; omega
  case c4 => omega
  case c5 => simp; omega
  intro v' w1 hown hg _
  have HO : Hid (OwnB w1 base v' (l ++ wideL n 4)) := by
    unfold Hid OwnB
    rw [cellsL_append, HW.out, List.length_append, wideL_length]; exact hown
  have HB := hid (own_below (Below.refl base w) hb ((Below.refl _ _).alloc (Nat.le_refl _) _) H.out hg)
  clear hown hg
  go_wp2
  go_ret
  exact ⟨v', rfl, HO.out, HB.out⟩

/-- 'string(bytes)' of a row that was just laid. -/
theorem conv_row (w : World) (l : List UInt8) (n : Nat) (hn : l.length = n) : (convert 54 9 (.slice (some ⟨w.heap.size, 0, none⟩) n n)).run Tryd.prog (w.alloc (.cells (cellsL l).toArray 5)) = .ok (.string (bA l)) (w.alloc (.cells (cellsL l).toArray 5)) := by
  subst hn
  have := run_convert_bytes_back (P := Tryd.prog) (w.alloc (.cells (cellsL l).toArray 5)) 54 9 5 ⟨w.heap.size, 0, none⟩ l.length l Tryd.underlying54 Tryd.underlying5 Tryd.underlying9 (fun j hj => lit_cells w (cellsL l) 5 j _ (by simp [cellsL, hj]))
  rw [this]; rfl
theorem low_cells (n : Nat) (hn : n < 4294967296) : cellsL (lowL n) = [.int .u8 ((n : Int) % 256), .int .u8 ((n : Int) / 256 % 256), .int .u8 ((n : Int) / 65536 % 256), .int .u8 ((n : Int) / 16777216)] := by
  simp only [lowL, cellsL, List.map_cons, List.map_nil, ofNat_cell]
  have e1 : ((n / 16777216 : Nat) : Int) % 256 = (n : Int) / 16777216 := by omega
  rw [e1]
  rfl
theorem tail_is (s : ByteArray) (r : ByteArray) (w : World) (hs : s.size ≤ 1000) (hr : bA (lowL (crcL s.data.toList)) = r) :
    Calls Tryd.prog 84 #[.string s] w fun e w' => e = .returned (.string r) ∧ Below w.heap.size w w' := by
  obtain ⟨c, HC⟩ : ∃ c, Hid (crcL s.data.toList = c) := ⟨_, rfl⟩
  have hc : c < 4294967296 := by rw [← HC.out]; exact crcL_lt _
  rw [HC.out] at hr
  have hcv := conv_row w (lowL c) 4 (lowL_length c)
  rw [low_cells c hc, hr] at hcv
  have HB : Hid (Below w.heap.size w (w.alloc (.cells [.int .u8 ((c : Int) % 256), .int .u8 ((c : Int) / 256 % 256), .int .u8 ((c : Int) / 65536 % 256), .int .u8 ((c : Int) / 16777216)].toArray 5))) := (Below.refl _ _).alloc (Nat.le_refl _) _
  clear hr
  go_enter Tryd.func84, Tryd.ntmps84
  go_wp2_with (go_at_call 101; refine (sum_is s c _ hs HC.out).mono ?_; rintro e wx ⟨rfl, hx⟩; subst wx)
  go_ret
  exact ⟨rfl, HB.out⟩
end Go.Proofs.YtkbbjkiinpimiaaDoor
