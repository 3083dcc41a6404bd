/-
  WALKS of package plate: Write with a cut ahead; Read.
  THE PROGRAM's PLATE, by numbers: a write, a cut, a read.
  WALKS of package journal: sum (the sum of bytes that are a slice).
  WALKS of package journal: add (a number's four bytes behind others), four (a number out of four bytes).
  THE WALK of (journal.entry).slot: a slot's eighteen bytes.
  WALKS of package journal: place, known, attempt, fits, held.
  THE WALK of journal.held: what a slot tells, and whether it is held.
  THE WALK of journal.newest: of a deal's two slots the held one with the greater number.
  A JOURNAL IN MEMORY: its plate, six entries, whether it is over.
  What a write by the plate's own answer is.
  WALKS of package journal: Open, Get.
  A JOURNAL AND ITS PLATE; what the three writes of a slot leave.
-/
import Derived.Test.YtdpemmmbkjmplabGreatDoorBa2
import Derived.Test.YtdpemmmbkjmplabGreatDoorBa1
import Derived.Laws.AppendOwn
import Derived.BigQuiet
import Derived.Deep.RegionHeld3
import Derived.Deep.CutRange
import Derived.RegionTactic
import Derived.Laws.ResultCell
import Derived.BigRegion
import Derived.Deep.MidRow
namespace Go.Proofs.YtdpemmmbkjmplabGreatDoor
open Go.RowKit

set_option maxHeartbeats 1000000 in
/-- A cut ahead, behind all that is written. -/
theorem pwrite_far (A : Nat → Addr) (p q : Nat) (B s : ByteArray) (a : Nat) (l : Int) (w : World) (h : Pl w p q B l) (hE : HeldE w A) (hB : B.size ≤ 1000) (ha : a + s.size ≤ B.size) (hl : (s.size : Int) ≤ l) (hl2 : l ≤ 9223372036854775807) :
    Calls Tryz.prog 149 #[.pointer (some ⟨p, 0, none⟩), .int .i64 a, .string s] w fun e w' => e = .returned .nilIface ∧ Pl w' p q (putB B a s s.size) (l - s.size) ∧ Kept (In2 p q) w w' := by
  have H := hid h
  have HE := hid hE
  have HL : Hid (¬ l = -2) := by unfold Hid; omega
  clear h hE
  go_enter Tryz.func149, Tryz.ntmps149
  go_wp2_with (go_at_call 115; refine (pcheck_in A p q B _ _ _ _ H.out HE.out hB (by omega)).mono ?_; rw [if_neg HL.out]; rintro e wx ⟨rfl, hx⟩; subst wx)
  go_loopw [19] (fun i wr => ∃ k : Nat, k ≤ s.size ∧ i = .int .i64 k ∧ Pl wr p q (putB B a s k) (l - k) ∧ Kept (In2 p q) w wr) (fun i _ => s.size - (intOf i).toNat)
  case atStart => exact ⟨0, Nat.zero_le _, rfl, by rw [putB_zero]; simpa using H.out, Kept.refl _ _⟩
  case round =>
    obtain ⟨k, hk, rfl, hP, hK⟩ := hrel
    have HP := hid hP
    have HK := hid hK
    clear hP hK
    by_cases hlt : k < s.size
    · go_wp2_with (go_at_call 153; refine (pspend_pos p q _ (l - k) _ HP.out (by omega) (by omega)).mono ?_; rintro e w1 ⟨rfl, hP1, hK1⟩; have HP1 := hid hP1; have HK1 := hid hK1; clear hP1 hK1; have c0 := HP1.out.bytes (by omega) (by omega); have cq := HP1.out.cq (j := a + k) (by rw [size_putB (by omega) (by omega)]; omega); have fq := HP1.out.fq (a + k))
      go_region
      all_goals go_wp2
      all_goals go_roundw
      case rel =>
        refine ⟨k + 1, by omega, by go_num, ?_, ((HK.out.trans HK1.out).setCell (.inr rfl) _).drew⟩
        rw [show l - ((k + 1 : Nat) : Int) = l - k - 1 by omega]
        exact (HP1.out.put (by omega) hlt).drew
      case measure => simp [intOf]; omega
    · obtain rfl : k = s.size := by omega
      go_wp2
      go_ret
      exact ⟨rfl, HP.out, HK.out⟩

set_option maxHeartbeats 1000000 in
/-- A cut ahead, within what is written. -/
theorem pwrite_near (A : Nat → Addr) (p q : Nat) (B s : ByteArray) (a l : Nat) (w : World) (h : Pl w p q B l) (hE : HeldE w A) (hB : B.size ≤ 1000) (ha : a + s.size ≤ B.size) (hl : l < s.size) (hp : 5 ≠ p) (hq : 5 ≠ q) :
    Calls Tryz.prog 149 #[.pointer (some ⟨p, 0, none⟩), .int .i64 a, .string s] w fun e w' => e = .returned (.iface 222 (.pointer (some (A 5)))) ∧ Pl w' p q (putB B a s l) (-2) ∧ Kept (In2 p q) w w' := by
  have H := hid h
  have HE := hid hE
  have HL : Hid (¬ (l : Int) = -2) := by unfold Hid; omega
  have HG : Hid (∀ wx, Kept (In2 p q) w wx → wx.cell? ⟨5, 0, none⟩ = some (.iface 222 (.pointer (some (A 5))))) := fun wx hk => by
    rw [World.cell?_of_block (w := w) (hk.block 5 (cell_lt hE.g5) (fun e => e.elim hp hq))]
    exact hE.g5
  clear h hE
  go_enter Tryz.func149, Tryz.ntmps149
  go_wp2_with (go_at_call 115; refine (pcheck_in A p q B _ _ _ _ H.out HE.out hB (by omega)).mono ?_; rw [if_neg HL.out]; rintro e wx ⟨rfl, hx⟩; subst wx)
  go_loopw [19] (fun i wr => ∃ k : Nat, k ≤ l ∧ i = .int .i64 k ∧ Pl wr p q (putB B a s k) (l - k) ∧ Kept (In2 p q) w wr) (fun i _ => l - (intOf i).toNat)
  case atStart => exact ⟨0, Nat.zero_le _, rfl, by rw [putB_zero]; simpa using H.out, Kept.refl _ _⟩
  case round =>
    obtain ⟨k, hk, rfl, hP, hK⟩ := hrel
    have HP := hid hP
    have HK := hid hK
    clear hP hK
    have hks : k < s.size := by omega
    by_cases hlt : k < l
    · go_wp2_with (go_at_call 153; refine (pspend_pos p q _ (l - k) _ HP.out (by omega) (by omega)).mono ?_; rintro e w1 ⟨rfl, hP1, hK1⟩; have HP1 := hid hP1; have HK1 := hid hK1; clear hP1 hK1; have c0 := HP1.out.bytes (by omega) (by omega); have cq := HP1.out.cq (j := a + k) (by rw [size_putB (by omega) (by omega)]; omega); have fq := HP1.out.fq (a + k))
      go_region
      all_goals go_wp2
      all_goals go_roundw
      case rel =>
        refine ⟨k + 1, by omega, by go_num, ?_, ((HK.out.trans HK1.out).setCell (.inr rfl) _).drew⟩
        rw [show (l : Int) - ((k + 1 : Nat) : Int) = l - k - 1 by omega]
        exact (HP1.out.put (by omega) hks).drew
      case measure => simp [intOf]; omega
    · obtain rfl : k = l := by omega
      have HP0 : Hid (Pl wr p q (putB B a s k) 0) := by have := HP.out; rw [show (k : Int) - k = 0 by omega] at this; exact this
      go_wp2_with (go_at_call 153; refine (pspend_zero p q _ _ HP0.out).mono ?_; rintro e w1 ⟨rfl, hP1, hK1⟩; have g5 := HG.out _ (HK.out.trans hK1); have HP1 := hid hP1; have HK1 := hid hK1; clear hP1 hK1)
      go_ret
      exact ⟨rfl, HP1.out, HK.out.trans HK1.out⟩

theorem pread_bound (A : Nat → Addr) (p q : Nat) (B : ByteArray) (l a n : Int) (w : World) (h : Pl w p q B l) (hE : HeldE w A) (hB : B.size ≤ 1000) (hn : n ≤ 9223372036854775807) (hb : a < 0 ∨ n < 0 ∨ (B.size : Int) - n < a) :
    Calls Tryz.prog 92 #[.pointer (some ⟨p, 0, none⟩), .int .i64 a, .int .i64 n] w fun e w' => e = .returned (.tuple #[.string ⟨#[]⟩, .iface 222 (.pointer (some (A 1)))]) ∧ w' = w := by
  have H := hid h
  have HE := hid hE
  have HB := hid hb
  clear h hE hb
  go_enter Tryz.func92, Tryz.ntmps92
  go_wp2_with (go_at_call 115; refine (pcheck_bound A p q B l _ _ _ H.out HE.out hB hn HB.out).mono ?_; rintro e w' ⟨rfl, rfl⟩)
  go_ret2
  exact ⟨rfl, rfl⟩
theorem pread_off (A : Nat → Addr) (p q : Nat) (B : ByteArray) (a n : Int) (w : World) (h : Pl w p q B (-2)) (hE : HeldE w A) (hB : B.size ≤ 1000) (hb : ¬ (a < 0 ∨ n < 0 ∨ (B.size : Int) - n < a)) :
    Calls Tryz.prog 92 #[.pointer (some ⟨p, 0, none⟩), .int .i64 a, .int .i64 n] w fun e w' => e = .returned (.tuple #[.string ⟨#[]⟩, .iface 222 (.pointer (some (A 5)))]) ∧ w' = w := by
  have H := hid h
  have HE := hid hE
  have HB := hid hb
  clear h hE hb
  go_enter Tryz.func92, Tryz.ntmps92
  go_wp2_with (go_at_call 115; refine (pcheck_in A p q B _ _ _ _ H.out HE.out hB HB.out).mono ?_; rw [if_pos rfl]; rintro e w' ⟨rfl, rfl⟩)
  go_ret2
  exact ⟨rfl, rfl⟩
set_option maxRecDepth 100000 in
theorem pread_ok (A : Nat → Addr) (p q : Nat) (B : ByteArray) (l : Int) (a n : Nat) (w : World) (h : Pl w p q B l) (hE : HeldE w A) (hB : B.size ≤ 1000) (hl : ¬ l = -2) (hb : a + n ≤ B.size) :
    Calls Tryz.prog 92 #[.pointer (some ⟨p, 0, none⟩), .int .i64 a, .int .i64 n] w fun e w' => e = .returned (.tuple #[.string (B.extract a (a + n)), .nilIface]) ∧ w' = w := by
  have H := hid h
  have HE := hid hE
  have HL := hid hl
  have c0 := h.c0
  by_cases hc : a < B.size
  · have hcv := conv_cut h a n (B.size - a) hb
    clear h hE hl
    go_enter Tryz.func92, Tryz.ntmps92
    go_wp2_with (go_at_call 115; refine (pcheck_in A p q B _ _ _ _ H.out HE.out hB (by omega)).mono ?_; rw [if_neg HL.out]; rintro e w' ⟨rfl, rfl⟩)
    go_ret2
    exact ⟨rfl, rfl⟩
  · obtain rfl : n = 0 := by omega
    have hcv := conv_cut h 0 0 0 (by omega)
    have e1 : B.extract 0 (0 + 0) = ByteArray.empty := by
      apply ba_ext; rw [ext_list]; simp
    have e2 : B.extract a (a + 0) = ByteArray.empty := by
      apply ba_ext; rw [ext_list]; simp
    rw [e1] at hcv
    rw [e2]
    clear h hE hl e1 e2
    go_enter Tryz.func92, Tryz.ntmps92
    go_wp2_with (go_at_call 115; refine (pcheck_in A p q B _ _ _ _ H.out HE.out hB (by omega)).mono ?_; rw [if_neg HL.out]; rintro e w' ⟨rfl, rfl⟩)
    go_ret2
    exact ⟨rfl, rfl⟩
end Go.Proofs.YtdpemmmbkjmplabGreatDoor
namespace Go.Proofs.YtdpemmmbkjmplabGreatDoor
open Go.RowKit

/-- How the two tell power: the plate's one number; the document's three cells. -/
def Lk (l : Int) (off : Bool) (l' : Int) (cuts : Bool) : Prop :=
  (off = true ∧ l = -2) ∨ (off = false ∧ cuts = false ∧ l = -1) ∨ (off = false ∧ cuts = true ∧ l = l' ∧ 0 ≤ l ∧ l ≤ 9223372036854775807)
theorem Lk.le {l : Int} {off : Bool} {l' : Int} {cuts : Bool} (h : Lk l off l' cuts) : l ≤ 9223372036854775807 := by
  rcases h with ⟨_, h⟩ | ⟨_, _, h⟩ | ⟨_, _, _, _, h⟩ <;> omega
theorem Lk.ge {l : Int} {off : Bool} {l' : Int} {cuts : Bool} (h : Lk l off l' cuts) : -2 ≤ l := by
  rcases h with ⟨_, h⟩ | ⟨_, _, h⟩ | ⟨_, _, _, h, _⟩ <;> omega
theorem Lk.power {l : Int} {off : Bool} {l' : Int} {cuts : Bool} (h : Lk l off l' cuts) : (l != -2) = !off := by
  rcases h with ⟨rfl, rfl⟩ | ⟨rfl, _, rfl⟩ | ⟨rfl, _, _, h, _⟩
  · rfl
  · rfl
  · simp; omega

/-- A write: its error's number, the bytes, what is left. -/
abbrev wBad (B s : ByteArray) (a : Int) : Prop := a < 0 ∨ (B.size : Int) - s.size < a
def wC (B s : ByteArray) (l a : Int) : Nat := if wBad B s a then 2 else if l = -2 then 6 else if 0 ≤ l ∧ l < s.size then 6 else 0
def wB (B s : ByteArray) (l a : Int) : ByteArray := if wBad B s a then B else if l = -2 then B else if 0 ≤ l ∧ l < s.size then putB B a.toNat s l.toNat else putB B a.toNat s s.size
def wL (B s : ByteArray) (l a : Int) : Int := if wBad B s a then l else if l = -2 then -2 else if 0 ≤ l ∧ l < s.size then -2 else if l < 0 then l else l - s.size
theorem wC_le (B s : ByteArray) (l a : Int) : wC B s l a ≤ 9 := by
  unfold wC; repeat' split
  all_goals decide
theorem wB_size (B s : ByteArray) (l a : Int) : (wB B s l a).size = B.size := by
  unfold wB
  split
  · rfl
  · rename_i h
    unfold wBad at h
    split
    · rfl
    · split
      · rename_i h2; exact size_putB (by omega) (by omega)
      · exact size_putB (by omega) (by omega)

theorem write_pl (A : Nat → Addr) (p q : Nat) (B s : ByteArray) (l a : Int) (w : World) (h : Pl w p q B l) (hE : HeldE w A) (hB : B.size ≤ 1000) (hs : s.size ≤ 1000) (h1 : -2 ≤ l) (h2 : l ≤ 9223372036854775807) (hp : 5 ≠ p) (hq : 5 ≠ q) :
    Calls Tryz.prog 149 #[.pointer (some ⟨p, 0, none⟩), .int .i64 a, .string s] w fun e w' => e = .returned (ev A (wC B s l a)) ∧ Pl w' p q (wB B s l a) (wL B s l a) ∧ Kept (In2 p q) w w' := by
  by_cases hb : wBad B s a
  · simp only [wC, wB, wL, if_pos hb]
    refine (pwrite_bound A p q B s l a w h hE hB hs hb).mono ?_
    rintro e w' ⟨rfl, rfl⟩
    exact ⟨rfl, h, Kept.refl _ _⟩
  · by_cases hl : l = -2
    · subst hl
      simp only [wC, wB, wL, if_neg hb, if_pos]
      refine (pwrite_off A p q B s a w h hE hB hs hb).mono ?_
      rintro e w' ⟨rfl, rfl⟩
      exact ⟨rfl, h, Kept.refl _ _⟩
    · have hb' := hb
      unfold wBad at hb'
      obtain ⟨a', rfl⟩ : ∃ a' : Nat, a = a' := ⟨a.toNat, by omega⟩
      by_cases hn : 0 ≤ l ∧ l < s.size
      · obtain ⟨l', rfl⟩ : ∃ l' : Nat, l = l' := ⟨l.toNat, by omega⟩
        simp only [wC, wB, wL, if_neg hb, if_neg hl, if_pos hn, Int.toNat_natCast]
        exact pwrite_near A p q B s a' l' w h hE hB (by omega) (by omega) hp hq
      · simp only [wC, wB, wL, if_neg hb, if_neg hl, if_neg hn, Int.toNat_natCast]
        by_cases hl0 : l < 0
        · rw [if_pos hl0]
          exact pwrite_free A p q B s a' l w h hE hB (by omega) hl0 hl
        · rw [if_neg hl0]
          exact pwrite_far A p q B s a' l w h hE hB (by omega) (by omega) h2
/-- A cut: its error's number, what is left. -/
def cC (l n : Int) : Nat := if n < 0 then 2 else if l = -2 then 6 else 0
def cL (l n : Int) : Int := if n < 0 then l else if l = -2 then l else n
theorem cC_le (l n : Int) : cC l n ≤ 9 := by
  unfold cC; repeat' split
  all_goals decide
theorem cut_pl (A : Nat → Addr) (p q : Nat) (B : ByteArray) (l n : Int) (w : World) (h : Pl w p q B l) (hE : HeldE w A) :
    Calls Tryz.prog 87 #[.pointer (some ⟨p, 0, none⟩), .int .i64 n] w fun e w' => e = .returned (ev A (cC l n)) ∧ Pl w' p q B (cL l n) ∧ Kept (In2 p q) w w' := by
  by_cases hn : n < 0
  · simp only [cC, cL, if_pos hn]
    refine (pcut_bound A _ n w hE hn).mono ?_
    rintro e w' ⟨rfl, rfl⟩
    exact ⟨rfl, h, Kept.refl _ _⟩
  · by_cases hl : l = -2
    · subst hl
      simp only [cC, cL, if_neg hn, if_pos]
      refine (pcut_off A p q B n w h hE hn).mono ?_
      rintro e w' ⟨rfl, rfl⟩
      exact ⟨rfl, h, Kept.refl _ _⟩
    · simp only [cC, cL, if_neg hn, if_neg hl]
      exact pcut_ok p q B l n w h hl hn
/-- A read: its error's number. -/
def rC (B : ByteArray) (l a n : Int) : Nat := if a < 0 ∨ n < 0 ∨ (B.size : Int) - n < a then 2 else if l = -2 then 6 else 0
theorem rC_zero {B : ByteArray} {l a n : Int} (h : rC B l a n = 0) : 0 ≤ a ∧ 0 ≤ n ∧ a + n ≤ B.size ∧ ¬ l = -2 := by
  unfold rC at h
  split at h
  · cases h
  · split at h
    · cases h
    · rename_i h1 h2; exact ⟨by omega, by omega, by omega, h2⟩
theorem rC_le (B : ByteArray) (l a n : Int) : rC B l a n ≤ 9 := by
  unfold rC; repeat' split
  all_goals decide
theorem read_bad (A : Nat → Addr) (p q : Nat) (B : ByteArray) (l a n : Int) (c : Nat) (w : World) (h : Pl w p q B l) (hE : HeldE w A) (hB : B.size ≤ 1000) (hn9 : n ≤ 9223372036854775807) (hc : rC B l a n = c + 1) :
    Calls Tryz.prog 92 #[.pointer (some ⟨p, 0, none⟩), .int .i64 a, .int .i64 n] w fun e w' => e = .returned (.tuple #[.string ⟨#[]⟩, .iface 222 (.pointer (some (A c)))]) ∧ w' = w := by
  unfold rC at hc
  split at hc
  · rename_i hb
    obtain rfl : c = 1 := by omega
    exact pread_bound A p q B l a n w h hE hB hn9 hb
  · rename_i hb
    split at hc
    · rename_i hl
      subst hl
      obtain rfl : c = 5 := by omega
      exact pread_off A p q B a n w h hE hB hb
    · omega
/-- coded of an error and its own number. -/
theorem coded_ev (A : Nat → Addr) (c : Nat) (w : World) (hE : Held9 w A) (hc : c ≤ 9) :
    Calls Tryz.prog 35 #[ev A c, .int .i64 c] w fun e w' => e = .returned (.bool true) ∧ Below w.heap.size w w' := by
  match c, hc with
  | 0, _ =>
    refine (coded_nil 0 w).mono ?_
    rintro e w' ⟨rfl, rfl⟩
    exact ⟨rfl, Below.refl _ _⟩
  | c + 1, hc =>
    refine (coded_at A c _ w hE (by omega)).mono ?_
    rintro e w' ⟨rfl, hb⟩
    refine ⟨?_, hb⟩
    have : ((c : Int) + 1 == ((c + 1 : Nat) : Int)) = true := by simp
    rw [this]
end Go.Proofs.YtdpemmmbkjmplabGreatDoor
namespace Go.Proofs.YtdpemmmbkjmplabGreatDoor
open Go.RowKit

theorem ofInt_nat32 (a : Nat) (ha : a < 4294967296) : (BitVec.ofInt 32 (a : Int)).toNat = a := by
  rw [BitVec.ofInt_natCast, BitVec.toNat_ofNat]; exact Nat.mod_eq_of_lt (by omega)
theorem xor32 (a b : Nat) (ha : a < 4294967296) (hb : b < 4294967296) : bits .xor .u32 (a : Int) (b : Int) = ((a ^^^ b : Nat) : Int) := by
  have hx : a ^^^ b < 2 ^ 32 := Nat.xor_lt_two_pow (by omega) (by omega)
  show IntKind.u32.wrap ((BitVec.ofInt 32 (a : Int) ^^^ BitVec.ofInt 32 (b : Int)).toNat : Int) = _
  rw [BitVec.toNat_xor, ofInt_nat32 a ha, ofInt_nat32 b hb, IntKind.wrap_u32]
  omega
theorem and32_1 (a : Nat) (ha : a < 4294967296) : bits .and .u32 (a : Int) 1 = ((a % 2 : Nat) : Int) := by
  have h := ofInt_nat32 1 (by omega)
  show IntKind.u32.wrap ((BitVec.ofInt 32 (a : Int) &&& BitVec.ofInt 32 ((1 : Nat) : Int)).toNat : Int) = _
  rw [BitVec.toNat_and, ofInt_nat32 a ha, h, IntKind.wrap_u32, Nat.and_one_is_mod]
  omega

/-- Bytes in memory behind a slice's address. -/
def BytesAt (w : World) (b o : Nat) (l : List UInt8) : Prop := ∀ j (h : j < l.length), w.cell? ⟨b, o + j, none⟩ = some (.int .u8 ((l[j]'h).toNat : Int))

theorem idx_strA (s : ByteArray) (i : Nat) (z : Int) (h : i < s.size) (hz : z = i) (w : World) : (Instr.index 9 (.string s) (.int .i64 z)).run Tryz.prog w = .ok (.int .u8 ((s[i]'h).toNat : Int)) w := by
  subst hz
  rw [run_index_string w 9 s .i64 i Tryz.underlying9, dif_pos ⟨by omega, by omega⟩]
  rfl
theorem sum_any (s : ByteArray) (w : World) (hl : s.size ≤ 1000) :
    Calls Tryz.prog 144 #[.string s] w fun e w' => e = .returned (.int .u32 (crcL s.data.toList : Nat)) ∧ w' = w := by
  go_enter Tryz.func144, Tryz.ntmps144
  go_wp2
  go_loop [3, 8] (fun x i => ∃ k : Nat, k ≤ s.size ∧ i = .int .i64 k ∧ x = .int .u32 (crcFold 4294967295 (s.data.toList.take k) : Nat)) (fun _ i => s.size - (intOf i).toNat)
  case atStart => exact ⟨0, Nat.zero_le _, rfl, rfl⟩
  case round =>
    obtain ⟨k, hk, rfl, rfl⟩ := hrel
    have hc : crcFold 4294967295 (s.data.toList.take k) < 4294967296 := crcFold_lt _ (by decide)
    by_cases hlt : k < s.size
    · have ix := idx_strA s k (k : Int) hlt rfl
      have hb := UInt8.toNat_lt (s[k]'hlt)
      have HS : Hid (crcFold 4294967295 (s.data.toList.take (k + 1)) = devBits (crcFold 4294967295 (s.data.toList.take k) ^^^ (s[k]'hlt).toNat) 8) := by
        unfold Hid
        rw [dev_eight, ← crcFold_snoc, List.take_add_one, List.getElem?_eq_getElem hlt, getB hlt]
        rfl
      generalize (s[k]'hlt).toNat = x at ix hb HS
      generalize crcFold 4294967295 (s.data.toList.take k) = c at hc HS ⊢
      have hx := xor32 c x hc (by omega)
      have hcx : c ^^^ x < 4294967296 := Nat.xor_lt_two_pow (n := 32) hc (by omega)
      go_wp2
      go_loop [3, 17] (fun y i => ∃ m : Nat, m ≤ 8 ∧ i = .int .i64 m ∧ y = .int .u32 (devBits (c ^^^ x) m : Nat)) (fun _ i => 8 - (intOf i).toNat)
      case atStart => exact ⟨0, Nat.zero_le _, rfl, rfl⟩
      case round =>
        obtain ⟨m, hm, rfl, rfl⟩ := hrel
        have hd : devBits (c ^^^ x) m < 4294967296 := devBits_lt hcx m
        have HD : Hid (devBits (c ^^^ x) (m + 1) = devBit (devBits (c ^^^ x) m)) := rfl
        have ha := and32_1 _ hd
        have hx2 := xor32 (devBits (c ^^^ x) m / 2) 3988292384 (by omega) (by decide)
        have HX := hid hx2
        clear hx2
        have hpar : devBits (c ^^^ x) m % 2 = 0 ∨ devBits (c ^^^ x) m % 2 = 1 := by omega
        by_cases hlt8 : m < 8
        · generalize devBits (c ^^^ x) m = y at hd HD ha HX hpar ⊢
          rcases hpar with hp | hp
          · rw [hp] at ha
            go_wp2
            go_round
            case rel => exact ⟨m + 1, by omega, by go_num, val_int (by rw [HD.out, devBit, if_neg (by omega)]; omega)⟩
            case measure => simp [intOf]; omega
          · rw [hp] at ha
            go_wp2
            go_round
            case rel => exact ⟨m + 1, by omega, by go_num, val_int (by rw [HD.out, devBit, if_pos hp]; exact HX.out)⟩
            case measure => simp [intOf]; omega
        · obtain rfl : m = 8 := by omega
          go_wp2
          go_round
          case rel => exact ⟨k + 1, by omega, by go_num, val_int (by rw [HS.out])⟩
          case measure => simp [intOf]; omega
    · obtain rfl : k = s.size := by omega
      have htk : s.data.toList.take s.size = s.data.toList := List.take_length
      rw [htk] at hc
      have HC : Hid (bits BinOp.xor IntKind.u32 IntKind.u32.max ((crcFold 4294967295 s.data.toList : Nat) : Int) = ((crcL s.data.toList : Nat) : Int)) := by
        unfold Hid
        rw [show IntKind.u32.max = ((4294967295 : Nat) : Int) by decide, xor32 4294967295 _ (by decide) hc, Nat.xor_comm]
        rfl
      rw [htk]
      go_wp2
      go_ret
      exact ⟨ret_int HC.out, rfl⟩
end Go.Proofs.YtdpemmmbkjmplabGreatDoor
namespace Go.Proofs.YtdpemmmbkjmplabGreatDoor
open Go.RowKit

theorem Tryz.infoB1 : (Tryz.prog.info? 5).map (fun i => (i.zero, i.size, i.bytes)) = some (some (.int .u8 0), 1, 1) := by kernel_rfl
/-- The cells of bytes. -/
def cellsL (l : List UInt8) : List Value := l.map fun b => .int .u8 (b.toNat : Int)
theorem cellsL_length (l : List UInt8) : (cellsL l).length = l.length := by simp [cellsL]
theorem cellsL_one (l : List UInt8) : ∀ u ∈ cellsL l, u.oneCell' = true := by
  intro u hu
  obtain ⟨n, -, rfl⟩ := List.mem_map.1 hu
  rfl
theorem cellsL_append (a b : List UInt8) : cellsL (a ++ b) = cellsL a ++ cellsL b := by simp [cellsL]
theorem wide4 (n : Nat) : wideL n 4 = [UInt8.ofNat (n / 16777216 % 256), UInt8.ofNat (n / 65536 % 256), UInt8.ofNat (n / 256 % 256), UInt8.ofNat (n % 256)] := by
  simp [wideL, Nat.div_div_eq_div_mul]
theorem wide1 (n : Nat) : wideL n 1 = [UInt8.ofNat (n % 256)] := by simp [wideL]
theorem ofNat_cell (n : Nat) : Value.int .u8 ((UInt8.ofNat (n % 256)).toNat : Int) = .int .u8 ((n : Int) % 256) := by
  have : (UInt8.ofNat (n % 256)).toNat = n % 256 := by simp
  rw [this]; congr 1
/-- Bytes that the call owns. -/
def OwnB (w : World) (base : Nat) (v : Value) (l : List UInt8) : Prop := w.ownsRow base 5 1 v l.length (cellsL l)

theorem own_below {B : Nat} {w0 w W w' : World} {e : TypeId} {size n : Nat} {v : Value} {xs : List Value} (hnx : Below B w0 w) (hB : B ≤ w.heap.size) (hW : Below w.heap.size w W) (hown : w.ownsRow B e size v n xs) (hg : W.grownBy w' v.ownBlock) : Below B w0 w' := by
  refine Below.grown (hnx.trans (hW.mono hB)) hg (Nat.le_trans hB hW.size) ?_
  intro g hg
  rcases hown.2 with ⟨rfl, _⟩ | ⟨g', c', cur, rfl, hb', _⟩
  · cases hg
  · have : g' = g := by simpa [Value.ownBlock] using hg
    omega
theorem addrAdd (b off j : Nat) : (⟨b, off, none⟩ : Addr).add j = ⟨b, off + j, none⟩ := by unfold Addr.add; split <;> simp_all
/-- A literal's cells, in the block that was made last. -/
theorem lit_cells (w : World) (cs : List Value) (t : TypeId) : ∀ j u, cs[j]? = some u → (w.alloc (.cells cs.toArray t)).cell? ((⟨w.heap.size, 0, none⟩ : Addr).add j) = some u := by
  intro j u hj
  rw [addrAdd, cell_of_row _ w.heap.size (0 + j) cs.toArray t (0, 0) (heap_alloc_new w _), Nat.zero_add, List.getElem?_toArray]
  exact hj
theorem wide4_cells (n : Nat) (hn : n < 4294967296) : cellsL (wideL n 4) = [.int .u8 ((n : Int) / 16777216), .int .u8 ((n : Int) / 65536 % 256), .int .u8 ((n : Int) / 256 % 256), .int .u8 ((n : Int) % 256)] := by
  rw [wide4]
  simp only [cellsL, List.map_cons, List.map_nil, ofNat_cell]
  have e1 : ((n / 16777216 : Nat) : Int) % 256 = (n : Int) / 16777216 := by omega
  rw [e1]
  rfl

set_option maxRecDepth 100000 in
theorem add_any (base n : Nat) (v : Value) (l : List UInt8) (w : World) (h : OwnB w base v l) (hb : base ≤ w.heap.size) (hl : l.length ≤ 1000) (hn : n < 4294967296) :
    Calls Tryz.prog 143 #[v, .int .u32 (n : Int)] w fun e w' => ∃ v', e = .returned v' ∧ OwnB w' base v' (l ++ wideL n 4) ∧ Below base w w' := by
  obtain ⟨i0, hi, hz0, hz1, hz2⟩ := info_parts Tryz.infoB1
  have H := hid h
  have HW := hid (wide4_cells n hn)
  clear h
  go_enter Tryz.func143, Tryz.ntmps143
  go_wp2_with (at_builtin; refine wpList_append_own _ rfl (.tmp 5) (.tmp 17) 135 rfl base 5 i0 (.int .u8 0) 1 1 Tryz.underlying135 hi hz0 hz1 hz2 rfl (by decide) _ l.length (cellsL l) rfl (by exact World.ownsRow.alloc H.out _) ⟨w.heap.size, 0, none⟩ 4 4 [.int .u8 ((n : Int) / 16777216), .int .u8 ((n : Int) / 65536 % 256), .int .u8 ((n : Int) / 256 % 256), .int .u8 ((n : Int) % 256)] rfl rfl (lit_cells _ _ _) ?c2 ?c3 ?c4 ?c5 ?_)
  case c2 => intro u hu; rw [← HW.out] at hu; exact cellsL_one _ u hu
  case c3 => unfold maxLen; omega
  case c4 => omega
  case c5 => simp; omega
  intro v' w1 hown hg _
  have HO : Hid (OwnB w1 base v' (l ++ wideL n 4)) := by
    unfold Hid OwnB
    rw [cellsL_append, HW.out, List.length_append, wideL_length]; exact hown
  have HB := hid (own_below (Below.refl base w) hb ((Below.refl _ _).alloc (Nat.le_refl _) _) H.out hg)
  clear hown hg
  go_wp2
  go_ret
  exact ⟨v', rfl, HO.out, HB.out⟩

/-- Four bytes as a number. -/
theorem or32 (a b : Nat) (ha : a < 4294967296) (hb : b < 4294967296) : bits .or .u32 (a : Int) (b : Int) = ((a ||| b : Nat) : Int) := by
  have hx : a ||| b < 2 ^ 32 := Nat.or_lt_two_pow (by omega) (by omega)
  show IntKind.u32.wrap ((BitVec.ofInt 32 (a : Int) ||| BitVec.ofInt 32 (b : Int)).toNat : Int) = _
  rw [BitVec.toNat_or, ofInt_nat32 a ha, ofInt_nat32 b hb, IntKind.wrap_u32]
  omega
theorem or_low (a b i : Nat) (hb : b < 2 ^ i) : (a * 2 ^ i) ||| b = a * 2 ^ i + b := by
  rw [Nat.mul_comm]; exact (Nat.two_pow_add_eq_or_of_lt hb a).symm
theorem idx_str (s : ByteArray) (i : Nat) (z : Int) (h : i < s.size) (hz : z = i) (w : World) : (Instr.index 9 (.string s) (.int .i64 z)).run Tryz.prog w = .ok (.int .u8 ((s[i]'h).toNat : Int)) w := by
  subst hz
  rw [run_index_string w 9 s .i64 i Tryz.underlying9, dif_pos ⟨by omega, by omega⟩]
  rfl
theorem take4 : ∀ (l : List UInt8) (h : 4 ≤ l.length), l.take 4 = [l[0]'(by omega), l[1]'(by omega), l[2]'(by omega), l[3]'(by omega)]
  | _ :: _ :: _ :: _ :: _, _ => rfl
theorem first4 (s : ByteArray) (h : 4 ≤ s.size) : s.data.toList.take 4 = [s[0]'(by omega), s[1]'(by omega), s[2]'(by omega), s[3]'(by omega)] := by
  rw [getB, getB, getB, getB]
  exact take4 _ h
theorem or24 (a b : Nat) (h : b < 16777216) : a * 16777216 ||| b = a * 16777216 + b := or_low a b 24 h
theorem or16 (a b : Nat) (h : b < 65536) : a * 65536 ||| b = a * 65536 + b := or_low a b 16 h
theorem or8 (a b : Nat) (h : b < 256) : a * 256 ||| b = a * 256 + b := or_low a b 8 h
theorem four_num (a b c d : Nat) (hb : b < 256) (hc : c < 256) (hd : d < 256) : ((a * 16777216 ||| b * 65536) ||| c * 256) ||| d = 256 * (256 * (256 * a + b) + c) + d := by
  rw [or24 _ _ (by omega), show a * 16777216 + b * 65536 = (a * 256 + b) * 65536 by omega, or16 _ _ (by omega), show (a * 256 + b) * 65536 + c * 256 = ((a * 256 + b) * 256 + c) * 256 by omega, or8 _ _ hd]
  omega
theorem four_or (a b c d : Nat) (ha : a < 256) (hb : b < 256) (hc : c < 256) (hd : d < 256) :
    bits BinOp.or IntKind.u32 (bits BinOp.or IntKind.u32 (bits BinOp.or IntKind.u32 ((a : Int) * 16777216) ((b : Int) * 65536)) ((c : Int) * 256)) (d : Int) = ((256 * (256 * (256 * (256 * 0 + a) + b) + c) + d : Nat) : Int) := by
  have e1 := or32 (a * 16777216) (b * 65536) (by omega) (by omega)
  have n1 := or24 a (b * 65536) (by omega)
  have e2 := or32 (a * 16777216 ||| b * 65536) (c * 256) (by omega) (by omega)
  have n2 : a * 16777216 ||| b * 65536 ||| c * 256 = a * 16777216 + b * 65536 + c * 256 := by
    rw [n1, show a * 16777216 + b * 65536 = (a * 256 + b) * 65536 by omega, or16 _ _ (by omega)]
  have e3 := or32 (a * 16777216 ||| b * 65536 ||| c * 256) d (by omega) (by omega)
  simp only [Int.natCast_mul] at e1 e2
  rw [show ((a : Int) * 16777216) = (a : Int) * ((16777216 : Nat) : Int) from rfl, show ((b : Int) * 65536) = (b : Int) * ((65536 : Nat) : Int) from rfl, show ((c : Int) * 256) = (c : Int) * ((256 : Nat) : Int) from rfl, e1, e2, e3, four_num a b c d hb hc hd]
  congr 1
  omega
set_option maxRecDepth 100000 in
theorem four_any (s : ByteArray) (w : World) (h : 4 ≤ s.size) :
    Calls Tryz.prog 130 #[.string s] w fun e w' => e = .returned (.int .u32 (numL (s.data.toList.take 4) : Nat)) ∧ ∃ m, w' = w.drewN m := by
  have b0 := UInt8.toNat_lt (s[0]'(by omega))
  have b1 := UInt8.toNat_lt (s[1]'(by omega))
  have b2 := UInt8.toNat_lt (s[2]'(by omega))
  have b3 := UInt8.toNat_lt (s[3]'(by omega))
  have x0 := idx_str s 0 0 (by omega) rfl
  have x1 := idx_str s 1 1 (by omega) rfl
  have x2 := idx_str s 2 2 (by omega) rfl
  have x3 := idx_str s 3 3 (by omega) rfl
  rw [first4 s h]
  simp only [numL, List.foldl_cons, List.foldl_nil]
  generalize (s[0]'(by omega)).toNat = a at b0 x0 ⊢
  generalize (s[1]'(by omega)).toNat = b at b1 x1 ⊢
  generalize (s[2]'(by omega)).toNat = c at b2 x2 ⊢
  generalize (s[3]'(by omega)).toNat = d at b3 x3 ⊢
  have HN := hid (four_or a b c d b0 b1 b2 b3)
  clear h
  go_enter Tryz.func130, Tryz.ntmps130
  go_wp2
  go_quiet (fail)
  go_wp2
  go_ret
  exact ⟨ret_int HN.out, _, rfl⟩
end Go.Proofs.YtdpemmmbkjmplabGreatDoor
namespace Go.Proofs.YtdpemmmbkjmplabGreatDoor
open Go.RowKit

/-- Bytes as a text. -/
def bA (l : List UInt8) : ByteArray := ⟨l.toArray⟩
theorem bA_list (l : List UInt8) : (bA l).data.toList = l := by simp [bA]
theorem bA_size (l : List UInt8) : (bA l).size = l.length := by rw [size_list, bA_list]
theorem bA_of (B : ByteArray) : bA B.data.toList = B := ba_ext (bA_list _)
/-- An entry as a value. -/
def entV (n : Nat) (s : St) : Value := .agg #[.int .i64 s.ph, .int .i64 s.pr, .int .i64 s.at_, .int .u32 n]
theorem OwnB.later {w w' : World} {base B : Nat} {v : Value} {l : List UInt8} (h : OwnB w base v l) (hb : Below B w w') (hB : w.heap.size ≤ B) : OwnB w' base v l := by
  refine ⟨h.1, ?_⟩
  rcases h.2 with h2 | ⟨g, cap, cur, hv, hg, hh, r⟩
  · exact .inl h2
  · exact .inr ⟨g, cap, cur, hv, hg, (hb.block g (Nat.lt_of_lt_of_le ((Array.getElem?_eq_some_iff.1 hh).1) hB)).trans hh, r⟩
theorem OwnB.alloc {w : World} {base : Nat} {v : Value} {l : List UInt8} (h : OwnB w base v l) (o : Obj) : OwnB (w.alloc o) base v l := World.ownsRow.alloc h o
theorem OwnB.nil (w : World) (base : Nat) : OwnB w base (.slice none 0 0) [] := World.ownsRow_nil _ _ _ _
/-- A slice of bytes that the call owns, and not nil. -/
theorem OwnB.at_ {w : World} {base : Nat} {v : Value} {l : List UInt8} (h : OwnB w base v l) (h0 : 0 < l.length) : ∃ g cap, v = .slice (some ⟨g, 0, none⟩) l.length cap ∧ BytesAt w g 0 l := by
  rcases h.2 with ⟨_, h2⟩ | ⟨g, cap, cur, hv, hg, hh, hle, hm, hsz, ht⟩
  · omega
  · refine ⟨g, cap, hv, fun j hj => ?_⟩
    rw [Nat.zero_add, cell_of_row w g j cur _ _ hh]
    have e : (cur.toList.take (l.length * 1))[j]? = (cellsL l)[j]? := by rw [ht]
    rw [List.getElem?_take, if_pos (by omega)] at e
    rw [← Array.getElem?_toList, e]
    simp [cellsL, hj]

theorem OwnB.app {w W w' : World} {base : Nat} {v v' : Value} {l r : List UInt8} (hB : base ≤ w.heap.size) (h : OwnB w base v l) (hW : Below w.heap.size w W) (hown : w'.ownsRow base 5 1 v' (l.length + r.length) (cellsL l ++ cellsL r)) (hg : W.grownBy w' v.ownBlock) :
    OwnB w' base v' (l ++ r) ∧ Below base w w' :=
  ⟨by unfold OwnB; rw [cellsL_append, List.length_append]; exact hown, own_below (Below.refl base w) hB hW h hg⟩
/-- 'string(bytes)' of a slice that the call owns. -/
theorem conv_own {w : World} {base : Nat} {v : Value} {l : List UInt8} (h : OwnB w base v l) (h0 : 0 < l.length) : (convert 135 9 v).run Tryz.prog w = .ok (.string (bA l)) w := by
  obtain ⟨g, cap, rfl, hc⟩ := h.at_ h0
  have := run_convert_bytes_back (P := Tryz.prog) w 135 9 5 ⟨g, 0, none⟩ cap l Tryz.underlying135 Tryz.underlying5 Tryz.underlying9 (fun j hj => by rw [addrAdd]; exact hc j hj)
  rw [this]; rfl
theorem sum_is (s : ByteArray) (c : Nat) (w : World) (hs : s.size ≤ 1000) (hc : crcL s.data.toList = c) :
    Calls Tryz.prog 144 #[.string s] w fun e w' => e = .returned (.int .u32 (c : Int)) ∧ w' = w := by
  rw [← hc]; exact sum_any s w hs
set_option maxHeartbeats 1000000 in
set_option maxRecDepth 100000 in
theorem slot_any (n : Nat) (s : St) (w : World) (hn : n < 4294967296) (hs : s.fits) :
    Calls Tryz.prog 131 #[entV n s] w fun e w' => e = .returned (.string (bA (bodyL n s ++ [165]))) ∧ Below w.heap.size w w' := by
  obtain ⟨i0, hi, hz0, hz1, hz2⟩ := info_parts Tryz.infoB1
  obtain ⟨h1, h2, h3⟩ := hs
  obtain ⟨t1, E1⟩ : ∃ t, Hid (wideL n 4 = t) := ⟨_, rfl⟩
  obtain ⟨t2, E2⟩ : ∃ t, Hid (t1 ++ [UInt8.ofNat s.ph] = t) := ⟨_, rfl⟩
  obtain ⟨t3, E3⟩ : ∃ t, Hid (t2 ++ wideL s.pr 4 = t) := ⟨_, rfl⟩
  obtain ⟨t4, E4⟩ : ∃ t, Hid (t3 ++ wideL s.at_ 4 = t) := ⟨_, rfl⟩
  obtain ⟨t5, E5⟩ : ∃ t, Hid (t4 ++ wideL (crcL t4) 4 = t) := ⟨_, rfl⟩
  have HT : Hid (bodyL n s ++ [165] = t5 ++ [165]) := by
    unfold Hid bodyL textL
    rw [wide1, Nat.mod_eq_of_lt h1, E1.out, E2.out, E3.out, E4.out, E5.out]
  have l1 : t1.length = 4 := by rw [← E1.out]; exact wideL_length 4 n
  have l2 : t2.length = 5 := by rw [← E2.out]; simp [l1]
  have l3 : t3.length = 9 := by rw [← E3.out]; simp [wideL_length, l2]
  have l4 : t4.length = 13 := by rw [← E4.out]; simp [wideL_length, l3]
  have l5 : t5.length = 17 := by rw [← E5.out]; simp [wideL_length, l4]
  have HP : Hid (((UInt8.ofNat s.ph).toNat : Int) = (s.ph : Int)) := by
    unfold Hid
    rw [UInt8.toNat_ofNat', Nat.mod_eq_of_lt (by omega)]
  unfold entV
  obtain ⟨W0, HW0⟩ : ∃ W0, Hid (W0 = w.alloc (.cells #[.int .i64 s.ph, .int .i64 s.pr, .int .i64 s.at_, .int .u32 n] 125)) := ⟨_, rfl⟩
  have sz0 : W0.heap.size = w.heap.size + 1 := by rw [HW0.out]; simp
  have HC : Hid (∀ wx, Below (w.heap.size + 1) W0 wx → w.heap.size + 1 ≤ wx.heap.size ∧ wx.cell? ⟨w.heap.size, 0, none⟩ = some (.int .i64 s.ph) ∧ wx.cell? ⟨w.heap.size, 1, none⟩ = some (.int .i64 s.pr) ∧ wx.cell? ⟨w.heap.size, 2, none⟩ = some (.int .i64 s.at_) ∧ Below w.heap.size w wx) := by
    intro wx hb
    have hr : W0.heap[w.heap.size]? = some (.cells #[.int .i64 s.ph, .int .i64 s.pr, .int .i64 s.at_, .int .u32 n] 125 (0, 0)) := by rw [HW0.out]; exact heap_alloc_new w _
    refine ⟨by have := hb.size; omega, ?_, ?_, ?_, ?_⟩
    · rw [hb.cell (by simp), cell_of_row _ _ _ _ _ _ hr]; rfl
    · rw [hb.cell (by simp), cell_of_row _ _ _ _ _ _ hr]; rfl
    · rw [hb.cell (by simp), cell_of_row _ _ _ _ _ _ hr]; rfl
    · rw [HW0.out] at hb
      exact ((Below.refl _ _).alloc (Nat.le_refl _) _).trans (hb.mono (by omega))
  rw [HT.out]
  go_enter Tryz.func131, Tryz.ntmps131
  go_wp2_with fail
  rw [← HW0.out]
  refine (add_any (w.heap.size + 1) n _ [] _ (OwnB.nil _ _) (by omega) (by simp) hn).mono ?_
  rintro e w1 ⟨v1, rfl, ho1, hb1⟩
  rw [List.nil_append, E1.out] at ho1
  obtain ⟨z1, c0, -, -, -⟩ := HC.out _ hb1
  have HO1 := hid ho1
  go_wp2_with (at_builtin; refine wpList_append_own _ rfl (.tmp 7) (.tmp 12) 135 rfl (w.heap.size + 1) 5 i0 (.int .u8 0) 1 1 Tryz.underlying135 hi hz0 hz1 hz2 rfl (by decide) _ t1.length (cellsL t1) rfl (by exact World.ownsRow.alloc HO1.out _) ⟨w1.heap.size, 0, none⟩ 1 1 [.int .u8 (s.ph : Int)] rfl rfl (lit_cells _ _ _) ?c2 ?c3 ?c4 ?c5 ?_)
  case c2 => intro u hu; simp at hu; subst hu; rfl
  case c3 => unfold maxLen; omega
  case c4 => omega
  case c5 => simp; omega
  intro v2 w2 hown2 hg2 _
  obtain ⟨ho2, hb2⟩ := OwnB.app (v' := v2) (r := [UInt8.ofNat s.ph]) z1 HO1.out ((Below.refl _ _).alloc (Nat.le_refl _) _) (by rw [l1, show cellsL [UInt8.ofNat s.ph] = [.int .u8 (s.ph : Int)] by rw [← HP.out]; rfl]; exact hown2) hg2
  rw [E2.out] at ho2
  have HB2 := hid (hb1.trans hb2)
  have HO2 := hid ho2
  clear hown2 hg2 ho1 hb1 c0 ho2 hb2
  obtain ⟨z2, -, c1, -, -⟩ := HC.out _ HB2.out
  go_wp2_with fail
  refine (add_any (w.heap.size + 1) s.pr _ t2 _ HO2.out z2 (by omega) h2).mono ?_
  rintro e w3 ⟨v3, rfl, ho3, hb3⟩
  rw [E3.out] at ho3
  have HO3 := hid ho3
  have HB3 := hid (HB2.out.trans hb3)
  clear ho3 hb3
  obtain ⟨z3, -, -, c2, -⟩ := HC.out _ HB3.out
  go_wp2_with fail
  refine (add_any (w.heap.size + 1) s.at_ _ t3 _ HO3.out z3 (by omega) h3).mono ?_
  rintro e w4 ⟨v4, rfl, ho4, hb4⟩
  rw [E4.out] at ho4
  have HO4 := hid ho4
  have HB4 := hid (HB3.out.trans hb4)
  clear ho4 hb4
  obtain ⟨z4, -, -, -, -⟩ := HC.out _ HB4.out
  have hcv4 := conv_own HO4.out (by omega)
  go_wp2_with fail
  refine (sum_is (bA t4) (crcL t4) _ (by rw [bA_size]; omega) (by rw [bA_list])).mono ?_
  rintro e wx ⟨rfl, hx⟩
  subst wx
  clear hcv4
  go_wp2_with fail
  refine (add_any (w.heap.size + 1) (crcL t4) _ t4 _ HO4.out z4 (by omega) (crcL_lt t4)).mono ?_
  rintro e w5 ⟨v5, rfl, ho5, hb5⟩
  rw [E5.out] at ho5
  have HO5 := hid ho5
  have HB5 := hid (HB4.out.trans hb5)
  clear ho5 hb5
  obtain ⟨z5, -, -, -, -⟩ := HC.out _ HB5.out
  go_wp2_with (at_builtin; refine wpList_append_own _ rfl (.tmp 31) (.tmp 32) 135 rfl (w.heap.size + 1) 5 i0 (.int .u8 0) 1 1 Tryz.underlying135 hi hz0 hz1 hz2 rfl (by decide) _ t5.length (cellsL t5) rfl (by exact World.ownsRow.alloc HO5.out _) ⟨w5.heap.size, 0, none⟩ 1 1 [.int .u8 165] rfl rfl (lit_cells _ _ _) ?c2 ?c3 ?c4 ?c5 ?_)
  case c2 => intro u hu; simp at hu; subst hu; rfl
  case c3 => unfold maxLen; omega
  case c4 => omega
  case c5 => simp; omega
  intro v6 w6 hown6 hg6 _
  obtain ⟨ho6, hb6⟩ := OwnB.app (v' := v6) (r := [165]) z5 HO5.out ((Below.refl _ _).alloc (Nat.le_refl _) _) (by rw [l5]; exact hown6) hg6
  have hcv := conv_own ho6 (by simp)
  have HB6 := hid (HC.out _ (HB5.out.trans hb6)).2.2.2.2
  clear hown6 hg6 ho6 hb6
  go_wp2
  go_ret
  exact ⟨rfl, HB6.out⟩
end Go.Proofs.YtdpemmmbkjmplabGreatDoor
namespace Go.Proofs.YtdpemmmbkjmplabGreatDoor
open Go.RowKit

theorem place_any (d n : Nat) (w : World) (hd : d ≤ 100) (hn : n < 4294967296) :
    Calls Tryz.prog 93 #[.int .i64 d, .int .u32 n] w fun e w' => e = .returned (.int .i64 ((18 * (2 * d + n % 2) : Nat) : Int)) ∧ w' = w := by
  go_enter Tryz.func93, Tryz.ntmps93
  go_wp2
  go_ret
  exact ⟨ret_int (by omega), rfl⟩
theorem known_any (d : Int) (w : World) :
    Calls Tryz.prog 95 #[.int .i64 d] w fun e w' => e = .returned (.bool (decide (0 ≤ d ∧ d < 6))) ∧ w' = w := by
  by_cases h : 0 ≤ d
  · go_enter Tryz.func95, Tryz.ntmps95
    go_wp2
    go_ret
    exact ⟨by simp [h], rfl⟩
  · go_enter Tryz.func95, Tryz.ntmps95
    go_wp2
    go_ret
    exact ⟨by simp; omega, rfl⟩
theorem attempt_any (d : Int) (w : World) :
    Calls Tryz.prog 148 #[.int .i64 d] w fun e w' => e = .returned (.bool (decide (0 ≤ d ∧ d ≤ 1048576))) ∧ w' = w := by
  by_cases h : 0 ≤ d
  · go_enter Tryz.func148, Tryz.ntmps148
    go_wp2
    go_ret
    exact ⟨by simp [h], rfl⟩
  · go_enter Tryz.func148, Tryz.ntmps148
    go_wp2
    go_ret
    exact ⟨by simp; omega, rfl⟩
/-- Does a state fit? -/
def fitsB (ph pr at_ : Int) : Bool := decide (0 ≤ ph ∧ ph ≤ 255 ∧ 0 ≤ pr ∧ pr ≤ 1048576 ∧ 0 ≤ at_ ∧ at_ ≤ 1048576)
theorem fits_and (ph pr at_ : Int) : (decide (0 ≤ ph) && decide (ph ≤ 255) && decide (0 ≤ pr ∧ pr ≤ 1048576) && decide (0 ≤ at_ ∧ at_ ≤ 1048576)) = fitsB ph pr at_ := by
  unfold fitsB
  rw [← Bool.decide_and, ← Bool.decide_and, ← Bool.decide_and]
  exact decide_eq_decide.2 ⟨fun ⟨⟨⟨a, b⟩, c, d⟩, e, f⟩ => ⟨a, b, c, d, e, f⟩, fun ⟨a, b, c, d, e, f⟩ => ⟨⟨⟨a, b⟩, c, d⟩, e, f⟩⟩
theorem fits_any (ph pr at_ : Int) (w : World) :
    Calls Tryz.prog 140 #[.agg #[.int .i64 ph, .int .i64 pr, .int .i64 at_]] w fun e w' => e = .returned (.bool (fitsB ph pr at_)) ∧ Below w.heap.size w w' := by
  have HB := hid ((Below.refl w.heap.size w).alloc (Nat.le_refl _) (.cells #[.int .i64 ph, .int .i64 pr, .int .i64 at_] 43))
  obtain ⟨r, HR⟩ : ∃ r, Hid (fitsB ph pr at_ = r) := ⟨_, rfl⟩
  rw [HR.out]
  obtain ⟨x1, X1⟩ : ∃ x, Hid (decide (0 ≤ pr ∧ pr ≤ 1048576) = x) := ⟨_, rfl⟩
  obtain ⟨x2, X2⟩ : ∃ x, Hid (decide (0 ≤ at_ ∧ at_ ≤ 1048576) = x) := ⟨_, rfl⟩
  have R0 := fits_and ph pr at_
  rw [X1.out, X2.out, HR.out] at R0
  have R := hid R0
  clear R0
  clear HR
  by_cases h1 : 0 ≤ ph
  · by_cases h2 : ph ≤ 255
    · cases x1 with
      | true =>
        go_enter Tryz.func140, Tryz.ntmps140
        go_wp2_with (first | (go_at_call 148; with_reducible refine (attempt_any pr _).mono ?_; rw [X1.out]; rintro e wx ⟨rfl, hx⟩; subst wx) | (go_at_call 148; with_reducible refine (attempt_any at_ _).mono ?_; rw [X2.out]; rintro e wx ⟨rfl, hx⟩; subst wx))
        go_ret
        exact ⟨by rw [← R.out]; simp [h1, h2], HB.out⟩
      | false =>
        go_enter Tryz.func140, Tryz.ntmps140
        go_wp2_with (first | (go_at_call 148; with_reducible refine (attempt_any pr _).mono ?_; rw [X1.out]; rintro e wx ⟨rfl, hx⟩; subst wx))
        go_ret
        exact ⟨by rw [← R.out]; simp, HB.out⟩
    · have H2 := hid (decide_eq_false h2)
      go_enter Tryz.func140, Tryz.ntmps140
      go_wp2_with fail
      go_ret
      exact ⟨by rw [← R.out, H2.out, Bool.and_false]; rfl, HB.out⟩
  · have H1 := hid (decide_eq_false h1)
    go_enter Tryz.func140, Tryz.ntmps140
    go_wp2_with fail
    go_ret
    exact ⟨by rw [← R.out, H1.out]; rfl, HB.out⟩

theorem slice_low (s : ByteArray) (a : Nat) (z : Int) (hz : z = a) (h : a ≤ s.size) (w : World) : (Instr.slice 9 (.string s) (some (.int .i64 z)) none none).run Tryz.prog w = .ok (.string (s.extract a s.size)) w := by
  subst hz
  rw [run_slice_string_l w 9 s Tryz.underlying9 .i64 a (by omega) (by omega)]
  rfl
theorem slice_mid (s : ByteArray) (a b : Nat) (y z : Int) (hy : y = a) (hz : z = b) (h : a ≤ b) (hb : b ≤ s.size) (w : World) : (Instr.slice 9 (.string s) (some (.int .i64 y)) (some (.int .i64 z)) none).run Tryz.prog w = .ok (.string (s.extract a b)) w := by
  subst hy hz
  rw [run_slice_string w 9 s .i64 .i64 a b Tryz.underlying9 (by omega) (by omega) (by omega)]
  rfl
theorem slice_high (s : ByteArray) (b : Nat) (z : Int) (hz : z = b) (hb : b ≤ s.size) (w : World) : (Instr.slice 9 (.string s) none (some (.int .i64 z)) none).run Tryz.prog w = .ok (.string (s.extract 0 b)) w := by
  subst hz
  rw [run_slice_string_h w 9 s Tryz.underlying9 .i64 b (by omega) (by omega)]
  rfl
theorem four_is (s : ByteArray) (n : Nat) (w : World) (h : 4 ≤ s.size) (hn : numL (s.data.toList.take 4) = n) :
    Calls Tryz.prog 130 #[.string s] w fun e w' => e = .returned (.int .u32 (n : Int)) ∧ ∃ m, w' = w.drewN m := by
  rw [← hn]; exact four_any s w h
end Go.Proofs.YtdpemmmbkjmplabGreatDoor
namespace Go.Proofs.YtdpemmmbkjmplabGreatDoor
open Go.RowKit

theorem results_row2 {P : Program} {fn : Func} {p u : Tmp} {ty : TypeId} (h : fn.results = #[.cell p ty, .tmp u]) (tmps : Array Value) (w : World) (g : Nat) (t : TypeId) (cs : Array Value) (fr : Nat × Nat) (d : TypeDesc)
    (hp : tmps.getD p undef = .pointer (some ⟨g, 0, none⟩)) (hg : w.heap[g]? = some (.cells cs t fr))
    (hu : P.underlying ty = some d) (hd : (match d with | .struct _ | .array _ _ => true | _ => false) = true) (hi : (P.info? ty).map (·.size) = some cs.size) :
    (results fn tmps).run P w = .ok (.tuple #[.agg cs, tmps.getD u undef]) w := by
  rw [results_cell_tmp h, hp]
  simp [asAddr, run_loadVar_row w g t ty cs fr d hg hu hd hi]
theorem set4 {w : World} {g : Nat} {a b c d : Value} {t : TypeId} (h : w.heap[g]? = some (.cells #[a, b, c, d] t (0, 0))) (x0 x1 x2 x3 : Value) :
    ((((w.setCell ⟨g, 0, none⟩ x0).setCell ⟨g, 1, none⟩ x1).setCell ⟨g, 2, none⟩ x2).setCell ⟨g, 3, none⟩ x3).heap[g]? = some (.cells #[x0, x1, x2, x3] t (0, 0)) := by
  have h0 := heap_setCell_same w g 0 _ _ x0 h
  have h1 := heap_setCell_same _ g 1 _ _ x1 h0
  have h2 := heap_setCell_same _ g 2 _ _ x2 h1
  exact heap_setCell_same _ g 3 _ _ x3 h2
theorem heap_drewJ (w : World) (n : Nat) : (w.drewN n).heap = w.heap := by
  induction n with
  | zero => rfl
  | succ n ih => first | exact ih | (unfold World.drewN; exact ih) | (simp [World.drewN]; done)
/-- Two new blocks. -/
def Rows2 (w wx : World) (z e : Obj) : Prop := wx.heap[w.heap.size]? = some z ∧ wx.heap[w.heap.size + 1]? = some e ∧ Below w.heap.size w wx
theorem rows2_a (w : World) (z e : Obj) (m : Nat) : Rows2 w (((w.alloc z).drewN m).alloc e) z e := by
  have h1 : ((w.alloc z).drewN m).heap.size = w.heap.size + 1 := by rw [heap_drewJ]; simp
  refine ⟨?_, ?_, ?_⟩
  · rw [Below.heap_alloc _ _ _ (by omega), heap_drewJ]; exact heap_alloc_new w z
  · rw [← h1]; exact heap_alloc_new _ _
  · exact (below_drewN ((Below.refl _ _).alloc (Nat.le_refl _) z) m).alloc (by omega) e
theorem rows2_drew {w wx : World} {z e : Obj} (h : Rows2 w wx z e) (m : Nat) : Rows2 w (wx.drewN m) z e :=
  ⟨by rw [heap_drewJ]; exact h.1, by rw [heap_drewJ]; exact h.2.1, below_drewN h.2.2 m⟩
theorem rows2_set {w wx : World} {z : Obj} {a b c d : Value} {t : TypeId} (h : Rows2 w wx z (.cells #[a, b, c, d] t (0, 0))) (x0 x1 x2 x3 : Value) :
    Rows2 w ((((wx.setCell ⟨w.heap.size + 1, 0, none⟩ x0).setCell ⟨w.heap.size + 1, 1, none⟩ x1).setCell ⟨w.heap.size + 1, 2, none⟩ x2).setCell ⟨w.heap.size + 1, 3, none⟩ x3) z (.cells #[x0, x1, x2, x3] t (0, 0)) := by
  refine ⟨?_, set4 h.2.1 x0 x1 x2 x3, (((h.2.2.setCell (Nat.le_succ _) _).setCell (Nat.le_succ _) _).setCell (Nat.le_succ _) _).setCell (Nat.le_succ _) _⟩
  rw [heap_setCell_other _ _ _ _ (by simp), heap_setCell_other _ _ _ _ (by simp), heap_setCell_other _ _ _ _ (by simp), heap_setCell_other _ _ _ _ (by simp)]
  exact h.1
theorem rows2_b (w : World) (z : Obj) (a b c d : Value) (t : TypeId) (m m' : Nat) (x0 x1 x2 x3 : Value) :
    Rows2 w (((((((w.alloc z).drewN m).alloc (.cells #[a, b, c, d] t (0, 0))).drewN m').setCell ⟨w.heap.size + 1, 0, none⟩ x0).setCell ⟨w.heap.size + 1, 1, none⟩ x1).setCell ⟨w.heap.size + 1, 2, none⟩ x2 |>.setCell ⟨w.heap.size + 1, 3, none⟩ x3) z (.cells #[x0, x1, x2, x3] t (0, 0)) :=
  rows2_set (rows2_drew (rows2_a w z _ m) m') x0 x1 x2 x3
theorem rows2_c (w : World) (z : Obj) (a b c d : Value) (t : TypeId) (m' : Nat) (x0 x1 x2 x3 : Value) :
    Rows2 w ((((((w.alloc z).alloc (.cells #[a, b, c, d] t (0, 0))).drewN m').setCell ⟨w.heap.size + 1, 0, none⟩ x0).setCell ⟨w.heap.size + 1, 1, none⟩ x1).setCell ⟨w.heap.size + 1, 2, none⟩ x2 |>.setCell ⟨w.heap.size + 1, 3, none⟩ x3) z (.cells #[x0, x1, x2, x3] t (0, 0)) :=
  rows2_set (rows2_drew (rows2_a w z _ 0) m') x0 x1 x2 x3
theorem sizeEnt : (Tryz.prog.info? 125).map (·.size) = some 4 := by kernel_rfl
def entCells (n : Nat) (s : St) : Array Value := #[.int .i64 s.ph, .int .i64 s.pr, .int .i64 s.at_, .int .u32 n]
theorem numL_lt4 (l : List UInt8) : numL (l.take 4) < 4294967296 := readN_lt l
theorem readS_fits (t : List UInt8) : (readS t).fits := by
  have h1 := numL_lt ((t.drop 4).take 1)
  have h1' : 256 ^ ((t.drop 4).take 1).length ≤ 256 ^ 1 := Nat.pow_le_pow_right (by decide) (by simp; omega)
  refine ⟨by show numL _ < _; omega, numL_lt4 _, numL_lt4 _⟩

theorem slot_ag (n ph p a : Nat) (w : World) (hn : n < 4294967296) (h1 : ph < 256) (h2 : p < 4294967296) (h3 : a < 4294967296) :
    Calls Tryz.prog 131 #[.agg #[.int .i64 (ph : Int), .int .i64 (p : Int), .int .i64 (a : Int), .int .u32 (n : Int)]] w fun e w' => e = .returned (.string (bA (bodyL n ⟨ph, p, a⟩ ++ [165]))) ∧ Below w.heap.size w w' :=
  slot_any n ⟨ph, p, a⟩ w hn ⟨h1, h2, h3⟩
set_option maxHeartbeats 4000000 in
set_option maxRecDepth 100000 in
theorem held_any (t : ByteArray) (k : Nat) (w : World) (ht : t.size = 18) :
    Calls Tryz.prog 116 #[.string t, .int .u32 k] w fun e w' => e = .returned (.tuple #[entV (readN t.data.toList) (readS t.data.toList), .bool (decide (1 ≤ readN t.data.toList ∧ readN t.data.toList % 2 = k ∧ bodyL (readN t.data.toList) (readS t.data.toList) ++ [165] = t.data.toList))]) ∧ Below w.heap.size w w' := by
  have x4 := idx_str t 4 4 (by omega) rfl
  have s5 := slice_low t 5 5 rfl (by omega)
  have s9 := slice_low t 9 9 rfl (by omega)
  have b4 : (t[4]'(by omega)).toNat < 256 := UInt8.toNat_lt (t[4]'(by omega))
  obtain ⟨n, HN⟩ : ∃ n, Hid (numL (t.data.toList.take 4) = n) := ⟨_, rfl⟩
  obtain ⟨p, HP⟩ : ∃ n, Hid (numL ((t.extract 5 t.size).data.toList.take 4) = n) := ⟨_, rfl⟩
  obtain ⟨a, HA⟩ : ∃ n, Hid (numL ((t.extract 9 t.size).data.toList.take 4) = n) := ⟨_, rfl⟩
  have hn : n < 4294967296 := by rw [← HN.out]; exact numL_lt4 _
  have hp : p < 4294967296 := by rw [← HP.out]; exact numL_lt4 _
  have ha : a < 4294967296 := by rw [← HA.out]; exact numL_lt4 _
  have Z5 : Hid (4 ≤ (t.extract 5 t.size).size) := by unfold Hid; rw [size_list, ext_list]; simp; omega
  have Z9 : Hid (4 ≤ (t.extract 9 t.size).size) := by unfold Hid; rw [size_list, ext_list]; simp; omega
  have Z0 : Hid (4 ≤ t.size) := by unfold Hid; omega
  have HS : Hid (readS t.data.toList = ⟨(t[4]'(by omega)).toNat, p, a⟩) := by
    unfold Hid readS
    have e5 : (t.extract 5 t.size).data.toList = t.data.toList.drop 5 := by rw [ext_list]; apply List.take_of_length_le; simp
    have e9 : (t.extract 9 t.size).data.toList = t.data.toList.drop 9 := by rw [ext_list]; apply List.take_of_length_le; simp
    rw [← HP.out, ← HA.out, e5, e9]
    congr 1
    rw [getB, List.drop_eq_getElem_cons (by rw [size_list] at ht; omega)]
    simp [numL]
  have HR : Hid (readN t.data.toList = n) := HN
  generalize t.extract 5 t.size = u5 at s5 HP Z5
  generalize t.extract 9 t.size = u9 at s9 HA Z9
  generalize (t[4]'(by omega)).toNat = ph at x4 b4 HS
  rw [HR.out, HS.out]
  unfold entV
  obtain ⟨q, HQ⟩ : ∃ q : Bool, Hid (q = decide (1 ≤ n ∧ n % 2 = k ∧ bodyL n ⟨ph, p, a⟩ ++ [165] = t.data.toList)) := ⟨_, hid (Eq.refl _)⟩
  rw [← HQ.out]
  have hw1 : IntKind.i64.wrap (ph : Int) = ph := by rw [IntKind.wrap_i64]; omega
  have hw2 : IntKind.i64.wrap (p : Int) = p := by rw [IntKind.wrap_i64]; omega
  have hw3 : IntKind.i64.wrap (a : Int) = a := by rw [IntKind.wrap_i64]; omega
  go_enter Tryz.func116, Tryz.ntmps116
  go_wp2_with fail
  go_cut [6] from 7 (fun s6 wx => s6 = .pointer (some ⟨w.heap.size + 1, 0, none⟩) ∧ Rows2 w wx (.cells #[.int .i64 0, .int .i64 0, .int .i64 0, .int .u32 0] 125 (0, 0)) (.cells #[.int .i64 (ph : Int), .int .i64 (p : Int), .int .i64 (a : Int), .int .u32 (n : Int)] 125 (0, 0)))
  case first =>
    go_region_held3 (fun _ => True) (trivial) (first | (go_at_call 130; (with_reducible refine (four_is u5 p _ Z5.out HP.out).mono ?_); rintro e wx ⟨rfl, m, rfl⟩) | (go_at_call 130; (with_reducible refine (four_is u9 a _ Z9.out HA.out).mono ?_); rintro e wx ⟨rfl, m, rfl⟩) | (go_at_call 130; (with_reducible refine (four_is t n _ Z0.out HN.out).mono ?_); rintro e wx ⟨rfl, m, rfl⟩))
    all_goals go_step
    all_goals go_step
    all_goals go_meet
    all_goals refine ⟨rfl, ?_⟩
    all_goals first | (with_reducible exact rows2_a _ _ _ _) | (with_reducible exact rows2_b _ _ _ _ _ _ _ _ _ _ _ _ _) | (with_reducible exact rows2_c _ _ _ _ _ _ _ _ _ _ _ _)
  case rest =>
    obtain ⟨rfl, r0, r1, hb⟩ := hcut
    have HB := hid hb
    have R0 := hid r0
    have R1 := hid r1
    clear hb r0 r1
    have hsz : w.heap.size + 1 < wc.heap.size := row_ltJ R1.out
    have hs0 : w.heap.size < wc.heap.size := by omega
    have E0 : wc.cell? ⟨w.heap.size + 1, 0, none⟩ = some (.int .i64 ph) := by rw [cell_of_row _ _ _ _ _ _ R1.out]; rfl
    have E1 : wc.cell? ⟨w.heap.size + 1, 1, none⟩ = some (.int .i64 p) := by rw [cell_of_row _ _ _ _ _ _ R1.out]; rfl
    have E2 : wc.cell? ⟨w.heap.size + 1, 2, none⟩ = some (.int .i64 a) := by rw [cell_of_row _ _ _ _ _ _ R1.out]; rfl
    have E3 : wc.cell? ⟨w.heap.size + 1, 3, none⟩ = some (.int .u32 n) := by rw [cell_of_row _ _ _ _ _ _ R1.out]; rfl
    have D0 : wc.cell? ⟨w.heap.size, 0, none⟩ = some (.int .i64 0) := by rw [cell_of_row _ _ _ _ _ _ R0.out]; rfl
    have D1 : wc.cell? ⟨w.heap.size, 1, none⟩ = some (.int .i64 0) := by rw [cell_of_row _ _ _ _ _ _ R0.out]; rfl
    have D2 : wc.cell? ⟨w.heap.size, 2, none⟩ = some (.int .i64 0) := by rw [cell_of_row _ _ _ _ _ _ R0.out]; rfl
    have D3 : wc.cell? ⟨w.heap.size, 3, none⟩ = some (.int .u32 0) := by rw [cell_of_row _ _ _ _ _ _ R0.out]; rfl
    have F0 := frozen_of_row wc w.heap.size 0 _ _ R0.out
    have F1 := frozen_of_row wc w.heap.size 1 _ _ R0.out
    have F2 := frozen_of_row wc w.heap.size 2 _ _ R0.out
    have F3 := frozen_of_row wc w.heap.size 3 _ _ R0.out
    by_cases g0 : 0 < n
    · have tm : (n : Int).tmod 2 = ((n % 2 : Nat) : Int) := by rw [Int.tmod_eq_emod_of_nonneg (by omega)]; omega
      rcases g1 : ((n : Int).tmod 2 == (k : Int)) with _ | _
      · have g4 : ¬ n % 2 = k := by rw [tm] at g1; simp at g1; omega
        have g5 : (n % 2 == k) = false := by simpa using g4
        have g6 : decide (n % 2 = k) = false := by simpa using g4
        have g7 : ((n : Int) % 2 == (k : Int)) = false := by simp; omega
        have g8 : decide ((n : Int) % 2 = (k : Int)) = false := by simp; omega
        clear tm
        have HF : Hid (q = false) := by rw [HQ.out]; exact decide_eq_false (fun h => g4 h.2.1)
        go_wp2_with fail
        go_big_region
        go_wp2
        refine bodyPost_ret (results_row2 rfl _ _ w.heap.size 125 _ (0, 0) _ rfl (set4 R0.out _ _ _ _) Tryz.underlying125 rfl sizeEnt) rfl ?_
        exact ⟨by rw [HF.out]; rfl, ((((HB.out.setCell (Nat.le_refl _) _).setCell (Nat.le_refl _) _).setCell (Nat.le_refl _) _).setCell (Nat.le_refl _) _).drew⟩
      · have g4 : n % 2 = k := by rw [tm] at g1; simp at g1; omega
        have g7 : ((n : Int) % 2 == (k : Int)) = true := by simp; omega
        obtain ⟨eqb, HEQ⟩ : ∃ eqb : Bool, Hid (((bA (bodyL n ⟨ph, p, a⟩ ++ [165])).toList == t.toList) = eqb) := ⟨_, hid (Eq.refl _)⟩
        have HF : Hid (q = eqb) := by
          unfold Hid
          rw [HQ.out, ← HEQ.out, ByteArray.toList_eq, ByteArray.toList_eq, bA_list]
          by_cases hxy : bodyL n ⟨ph, p, a⟩ ++ [165] = t.data.toList
          · rw [decide_eq_true ⟨g0, g4, hxy⟩, hxy]; simp
          · rw [decide_eq_false (fun h => hxy h.2.2)]; exact (beq_eq_false_iff_ne.2 hxy).symm
        have heq := HEQ.out
        clear tm
        go_wp2_with fail
        go_region_held3 (fun w' => w'.cell? ⟨w.heap.size + 1, 0, none⟩ = some (.int .i64 ph) ∧ w'.cell? ⟨w.heap.size + 1, 1, none⟩ = some (.int .i64 p) ∧ w'.cell? ⟨w.heap.size + 1, 2, none⟩ = some (.int .i64 a) ∧ w'.cell? ⟨w.heap.size + 1, 3, none⟩ = some (.int .u32 n)) (go_keep) (first | (go_at_call 131; (with_reducible refine (slot_ag n ph p a _ hn b4 hp ha).mono ?_); rintro e w2 ⟨rfl, hb2⟩; have y0 := (hb2.cell (p := ⟨w.heap.size + 1, 0, none⟩) hsz).trans E0; have y1 := (hb2.cell (p := ⟨w.heap.size + 1, 1, none⟩) hsz).trans E1; have y2 := (hb2.cell (p := ⟨w.heap.size + 1, 2, none⟩) hsz).trans E2; have y3 := (hb2.cell (p := ⟨w.heap.size + 1, 3, none⟩) hsz).trans E3; have z0 := (hb2.cell (p := ⟨w.heap.size, 0, none⟩) hs0).trans D0; have z1 := (hb2.cell (p := ⟨w.heap.size, 1, none⟩) hs0).trans D1; have z2 := (hb2.cell (p := ⟨w.heap.size, 2, none⟩) hs0).trans D2; have z3 := (hb2.cell (p := ⟨w.heap.size, 3, none⟩) hs0).trans D3; have f0 := (hb2.frozen (p := ⟨w.heap.size, 0, none⟩) hs0).trans F0; have f1 := (hb2.frozen (p := ⟨w.heap.size, 1, none⟩) hs0).trans F1; have f2 := (hb2.frozen (p := ⟨w.heap.size, 2, none⟩) hs0).trans F2; have f3 := (hb2.frozen (p := ⟨w.heap.size, 3, none⟩) hs0).trans F3; have HB2 := hid hb2; clear hb2))
        have R2 := hid ((HB2.out.block w.heap.size hs0).trans R0.out)
        have HB3 := hid (HB.out.drew.trans ((HB2.out).mono (show w.heap.size ≤ wc.heap.size by omega)))
        go_wp2
        refine bodyPost_ret (results_row2 rfl _ _ w.heap.size 125 _ (0, 0) _ rfl (set4 R2.out _ _ _ _) Tryz.underlying125 rfl sizeEnt) rfl ?_
        exact ⟨by rw [HF.out]; rfl, ((((HB3.out.setCell (Nat.le_refl _) _).setCell (Nat.le_refl _) _).setCell (Nat.le_refl _) _).setCell (Nat.le_refl _) _)⟩
    · have HF : Hid (q = false) := by rw [HQ.out]; exact decide_eq_false (fun h => g0 h.1)
      go_wp2_with fail
      go_big_region
      go_wp2
      refine bodyPost_ret (results_row2 rfl _ _ w.heap.size 125 _ (0, 0) _ rfl (set4 R0.out _ _ _ _) Tryz.underlying125 rfl sizeEnt) rfl ?_
      exact ⟨by rw [HF.out]; rfl, ((((HB.out.setCell (Nat.le_refl _) _).setCell (Nat.le_refl _) _).setCell (Nat.le_refl _) _).setCell (Nat.le_refl _) _).drew⟩
end Go.Proofs.YtdpemmmbkjmplabGreatDoor
namespace Go.Proofs.YtdpemmmbkjmplabGreatDoor
open Go.RowKit

/-- The best of a deal's first k slots. -/
def bst (L : List UInt8) (d : Nat) : Nat → Nat × St
  | 0 => (0, St.zero)
  | 1 => heldL (2 * d) (slotL L (2 * d))
  | _ => dealL L d
theorem bst_step (L : List UInt8) (d k : Nat) (hk : k < 2) :
    bst L d (k + 1) = if (1 ≤ readN (slotL L (2 * d + k)) ∧ readN (slotL L (2 * d + k)) % 2 = k ∧ bodyL (readN (slotL L (2 * d + k))) (readS (slotL L (2 * d + k))) ++ [165] = slotL L (2 * d + k)) ∧ (bst L d k).1 < readN (slotL L (2 * d + k))
      then (readN (slotL L (2 * d + k)), readS (slotL L (2 * d + k))) else bst L d k := by
  have hh : heldL (2 * d + k) (slotL L (2 * d + k)) = if (1 ≤ readN (slotL L (2 * d + k)) ∧ readN (slotL L (2 * d + k)) % 2 = k ∧ bodyL (readN (slotL L (2 * d + k))) (readS (slotL L (2 * d + k))) ++ [165] = slotL L (2 * d + k)) then (readN (slotL L (2 * d + k)), readS (slotL L (2 * d + k))) else (0, St.zero) := by
    unfold heldL
    rw [show (2 * d + k) % 2 = k by omega]
  obtain rfl | rfl : k = 0 ∨ k = 1 := by omega
  · show heldL (2 * d + 0) (slotL L (2 * d + 0)) = _
    rw [hh]
    by_cases c : (1 ≤ readN (slotL L (2 * d + 0)) ∧ readN (slotL L (2 * d + 0)) % 2 = 0 ∧ bodyL (readN (slotL L (2 * d + 0))) (readS (slotL L (2 * d + 0))) ++ [165] = slotL L (2 * d + 0))
    · rw [if_pos c, if_pos ⟨c, c.1⟩]
    · rw [if_neg c, if_neg (fun h => c h.1)]; rfl
  · show dealL L d = _
    unfold dealL
    rw [hh]
    by_cases c : (1 ≤ readN (slotL L (2 * d + 1)) ∧ readN (slotL L (2 * d + 1)) % 2 = 1 ∧ bodyL (readN (slotL L (2 * d + 1))) (readS (slotL L (2 * d + 1))) ++ [165] = slotL L (2 * d + 1))
    · rw [if_pos c]
      by_cases c2 : (heldL (2 * d) (slotL L (2 * d))).1 < readN (slotL L (2 * d + 1))
      · rw [if_pos c2, if_pos ⟨c, c2⟩]
      · rw [if_neg c2, if_neg (fun h => c2 h.2)]; rfl
    · rw [if_neg c, if_neg (Nat.not_lt_zero _)]
      exact (if_neg (fun h => c h.1)).symm
theorem bst_lt (L : List UInt8) (d : Nat) : ∀ k, (bst L d k).1 < 4294967296
  | 0 => (by decide : (0 : Nat) < 4294967296)
  | 1 => heldL_lt _ _
  | _ + 2 => by
    show (dealL L d).1 < _
    unfold dealL
    split
    · exact heldL_lt _ _
    · exact heldL_lt _ _
theorem ext_slot (B : ByteArray) (k : Nat) : (B.extract (18 * k) (18 * k + 18)).data.toList = slotL B.data.toList k := by
  rw [ext_list]; unfold slotL; rw [Nat.add_sub_cancel_left]
theorem held_is (t : ByteArray) (l : List UInt8) (k n : Nat) (s : St) (b : Bool) (w : World) (hl : t.data.toList = l) (h18 : l.length = 18) (hn : readN l = n) (hs : readS l = s) (hb : decide (1 ≤ n ∧ n % 2 = k ∧ bodyL n s ++ [165] = l) = b) :
    Calls Tryz.prog 116 #[.string t, .int .u32 (k : Int)] w fun e w' => e = .returned (.tuple #[.agg #[.int .i64 (s.ph : Int), .int .i64 (s.pr : Int), .int .i64 (s.at_ : Int), .int .u32 (n : Int)], .bool b]) ∧ Below w.heap.size w w' := by
  have h := held_any t k w (by rw [size_list, hl]; exact h18)
  rw [hl, hn, hs, hb] at h
  exact h

theorem cell_allocJ {w : World} {x : Addr} {v : Value} {o : Obj} (h : w.cell? x = some v) : (w.alloc o).cell? x = some v := by
  rw [World.cell?_alloc_lt _ _ _ (World.block_lt_of_cell? w x h)]; exact h
theorem frozen_allocJ {w : World} {g : Nat} {cs : Array Value} {t : TypeId} {o : Obj} (h : w.heap[g]? = some (.cells cs t (0, 0))) (i : Nat) : (w.alloc o).frozen? ⟨g, i, none⟩ = false :=
  frozen_of_row (w.alloc o) g i cs t ((Below.heap_alloc w o g (row_ltJ h)).trans h)
theorem below_cellJ {B : Nat} {w w' : World} (h : Below B w w') {g i : Nat} {v : Value} (hg : g < B) (hc : w.cell? ⟨g, i, none⟩ = some v) : w'.cell? ⟨g, i, none⟩ = some v := (h.cell (p := ⟨g, i, none⟩) hg).trans hc
theorem place_is (d n r : Nat) (w : World) (hd : d ≤ 100) (hn : n < 4294967296) (hr : 18 * (2 * d + n % 2) = r) :
    Calls Tryz.prog 93 #[.int .i64 (d : Int), .int .u32 (n : Int)] w fun e w' => e = .returned (.int .i64 (r : Int)) ∧ w' = w := by
  rw [← hr]; exact place_any d n w hd hn
theorem entCells_eq (n ph pr a : Nat) : entCells n ⟨ph, pr, a⟩ = #[.int .i64 (ph : Int), .int .i64 (pr : Int), .int .i64 (a : Int), .int .u32 (n : Int)] := rfl
set_option maxHeartbeats 2000000 in
set_option maxRecDepth 100000 in
theorem newest_any (B : ByteArray) (d : Nat) (w : World) (hB : B.size = 216) (hd : d < 6) :
    Calls Tryz.prog 94 #[.string B, .int .i64 (d : Int)] w fun e w' => e = .returned (entV (dealL B.data.toList d).1 (dealL B.data.toList d).2) ∧ Below w.heap.size w w' := by
  have HZ : Hid (∀ k, k < 2 → (slotL B.data.toList (2 * d + k)).length = 18) := fun k hk => slotL_length (by rw [size_list] at hB; omega)
  have HS : Hid (∀ k, k < 2 → bst B.data.toList d (k + 1) = _) := fun k hk => bst_step B.data.toList d k hk
  have HL : Hid (∀ k, (bst B.data.toList d k).1 < 4294967296) := bst_lt _ _
  have HE : Hid (∀ k, (B.extract (18 * k) (18 * k + 18)).data.toList = slotL B.data.toList k) := ext_slot B
  have HF : Hid (bst B.data.toList d 2 = dealL B.data.toList d) := rfl
  rw [← HF.out]
  have HI : Hid (bst B.data.toList d 0 = (0, St.zero)) := rfl
  go_enter Tryz.func94, Tryz.ntmps94
  go_wp2
  go_loopw [10] (fun i wr => ∃ k : Nat, k ≤ 2 ∧ i = .int .u32 (k : Int) ∧ wr.heap[w.heap.size]? = some (.cells (entCells 0 St.zero) 125 (0, 0)) ∧ wr.heap[w.heap.size + 1]? = some (.cells (entCells (bst B.data.toList d k).1 (bst B.data.toList d k).2) 125 (0, 0)) ∧ Below w.heap.size w wr) (fun i _ => 2 - (intOf i).toNat)
  case atStart => exact ⟨0, by omega, rfl, heap_alloc2_old _ _ _, by rw [HI.out]; exact heap_alloc2_new _ _ _, ((Below.refl _ _).alloc (Nat.le_refl _) _).alloc (by simp) _⟩
  case round =>
    obtain ⟨k, hk, rfl, r0, r1, hb⟩ := hrel
    have hsz := row_ltJ r1
    by_cases hlt : k < 2
    · have hz := hid (HZ.out k hlt)
      obtain ⟨l, HLs⟩ : ∃ l, Hid (slotL B.data.toList (2 * d + k) = l) := ⟨_, rfl⟩
      obtain ⟨r, HR⟩ : ∃ r, Hid (18 * (2 * d + k % 2) = r) := ⟨_, rfl⟩
      have hr1 : 18 * (2 * d + k) = r := by rw [← HR.out]; omega
      have hr2 : r + 18 ≤ 216 := by omega
      have hx := hid (HE.out (2 * d + k))
      have hstep := HS.out k hlt
      rw [HLs.out] at hz hx hstep
      rw [hr1] at hx
      have hm := HL.out k
      obtain ⟨⟨m, bs⟩, HM⟩ : ∃ x, Hid (bst B.data.toList d k = x) := ⟨_, rfl⟩
      rw [HM.out] at hm hstep r1
      obtain ⟨n, HN⟩ : ∃ n, Hid (readN l = n) := ⟨_, rfl⟩
      obtain ⟨⟨ph, pr, a⟩, HSt⟩ : ∃ n, Hid (readS l = n) := ⟨_, rfl⟩
      have hn : n < 4294967296 := by rw [← HN.out]; exact readN_lt l
      rw [HN.out, HSt.out] at hstep
      obtain ⟨b, Hb⟩ : ∃ b : Bool, Hid (decide (1 ≤ n ∧ n % 2 = k ∧ bodyL n ⟨ph, pr, a⟩ ++ [165] = l) = b) := ⟨_, hid (Eq.refl _)⟩
      have HSt2 := hid hstep
      have hsl := slice_mid B r (r + 18) (r : Int) ((r : Int) + 18) rfl (by omega) (by omega) (by omega)
      obtain ⟨tt, Htt⟩ : ∃ t, Hid (B.extract r (r + 18) = t) := ⟨_, rfl⟩
      rw [Htt.out] at hsl hx
      have R0 := hid r0
      have R1 := hid r1
      have HB := hid hb
      clear r0 r1 hb hstep hr1
      go_wp2_with (go_at_call 93; (with_reducible refine (place_is d k r _ (by omega) (by omega) HR.out).mono ?_); rintro e wx ⟨rfl, hx⟩; subst wx)
      refine (held_is tt l k n ⟨ph, pr, a⟩ b _ hx.out hz.out HN.out HSt.out Hb.out).mono ?_
      rintro e w1 ⟨rfl, hb1⟩
      have R1b := hid ((hb1.block _ hsz).trans R1.out)
      have R0b := hid ((hb1.block w.heap.size (by omega)).trans R0.out)
      have hs1 := row_ltJ R1b.out
      have HB1 := hid (HB.out.trans (hb1.mono HB.out.size))
      clear hb1
      obtain ⟨W, HW⟩ : ∃ W, Hid (w1.alloc (.cells #[.int .i64 (ph : Int), .int .i64 (pr : Int), .int .i64 (a : Int), .int .u32 (n : Int)] 125) = W) := ⟨_, rfl⟩
      have Q1 : Hid (W.heap[w.heap.size + 1]? = some (.cells (entCells m bs) 125 (0, 0))) := by rw [← HW.out]; exact (Below.heap_alloc w1 _ _ hs1).trans R1b.out
      have Q0 : Hid (W.heap[w.heap.size]? = some (.cells (entCells 0 St.zero) 125 (0, 0))) := by rw [← HW.out]; exact (Below.heap_alloc w1 _ _ (by omega)).trans R0b.out
      have QE : Hid (W.heap[w1.heap.size]? = some (.cells #[.int .i64 (ph : Int), .int .i64 (pr : Int), .int .i64 (a : Int), .int .u32 (n : Int)] 125 (0, 0))) := by rw [← HW.out]; exact heap_alloc_new w1 _
      have HBW : Hid (Below w.heap.size w W) := by rw [← HW.out]; exact HB1.out.alloc HB1.out.size _
      have hW := HW.out
      have c0 : W.cell? ⟨w.heap.size + 1, 0, none⟩ = some (.int .i64 (bs.ph : Int)) := by rw [cell_of_row _ _ _ _ _ _ Q1.out]; rfl
      have c1 : W.cell? ⟨w.heap.size + 1, 1, none⟩ = some (.int .i64 (bs.pr : Int)) := by rw [cell_of_row _ _ _ _ _ _ Q1.out]; rfl
      have c2 : W.cell? ⟨w.heap.size + 1, 2, none⟩ = some (.int .i64 (bs.at_ : Int)) := by rw [cell_of_row _ _ _ _ _ _ Q1.out]; rfl
      have c3 : W.cell? ⟨w.heap.size + 1, 3, none⟩ = some (.int .u32 (m : Int)) := by rw [cell_of_row _ _ _ _ _ _ Q1.out]; rfl
      have f0 := frozen_of_row W _ 0 _ _ Q1.out
      have f1 := frozen_of_row W _ 1 _ _ Q1.out
      have f2 := frozen_of_row W _ 2 _ _ Q1.out
      have f3 := frozen_of_row W _ 3 _ _ Q1.out
      have e0 : W.cell? ⟨w1.heap.size, 0, none⟩ = some (.int .i64 (ph : Int)) := by rw [cell_of_row _ _ _ _ _ _ QE.out]; rfl
      have e1 : W.cell? ⟨w1.heap.size, 1, none⟩ = some (.int .i64 (pr : Int)) := by rw [cell_of_row _ _ _ _ _ _ QE.out]; rfl
      have e2 : W.cell? ⟨w1.heap.size, 2, none⟩ = some (.int .i64 (a : Int)) := by rw [cell_of_row _ _ _ _ _ _ QE.out]; rfl
      have e3 : W.cell? ⟨w1.heap.size, 3, none⟩ = some (.int .u32 (n : Int)) := by rw [cell_of_row _ _ _ _ _ _ QE.out]; rfl
      have fin : ∀ x, (1 ≤ n ∧ n % 2 = k ∧ bodyL n ⟨ph, pr, a⟩ ++ [165] = l) ∧ m < n → x = (n, (⟨ph, pr, a⟩ : St)) → Hid (bst B.data.toList d (k + 1) = x) := fun x c hx => by unfold Hid; rw [HSt2.out, if_pos c, hx]
      have fin2 : ¬ ((1 ≤ n ∧ n % 2 = k ∧ bodyL n ⟨ph, pr, a⟩ ++ [165] = l) ∧ m < n) → Hid (bst B.data.toList d (k + 1) = (m, bs)) := fun c => by unfold Hid; rw [HSt2.out, if_neg c]
      cases b with
      | false =>
        have G := fin2 (fun c => of_decide_eq_false Hb.out c.1)
        clear fin fin2 HSt2
        go_wp2_with fail
        go_roundw
        case rel => exact ⟨k + 1, by omega, by go_num, Q0.out, by rw [G.out]; exact Q1.out, HBW.out⟩
        case measure => simp [intOf]; omega
      | true =>
        have hd := of_decide_eq_true Hb.out
        by_cases hc : m < n
        · have G := fin _ ⟨hd, hc⟩ rfl
          clear fin fin2 HSt2 hd
          have hne := hid hs1
          have RS := hid (rows2_set (w := w) ⟨Q0.out, Q1.out, HBW.out⟩ (.int .i64 (ph : Int)) (.int .i64 (pr : Int)) (.int .i64 (a : Int)) (.int .u32 (n : Int)))
          go_wp2_with fail
          go_roundw
          case rel => exact ⟨k + 1, by omega, by go_num, RS.out.1, by rw [G.out]; exact RS.out.2.1, RS.out.2.2⟩
          case measure => simp [intOf]; omega
        · have G := fin2 (fun c => hc c.2)
          clear fin fin2 HSt2 hd
          go_wp2_with fail
          go_roundw
          case rel => exact ⟨k + 1, by omega, by go_num, Q0.out, by rw [G.out]; exact Q1.out, HBW.out⟩
          case measure => simp [intOf]; omega
    · obtain rfl : k = 2 := by omega
      have R0 := hid r0
      have R1 := hid r1
      have HB := hid hb
      have c0 : wr.cell? ⟨w.heap.size + 1, 0, none⟩ = some (.int .i64 ((bst B.data.toList d 2).2.ph : Int)) := by rw [cell_of_row _ _ _ _ _ _ R1.out]; rfl
      have c1 : wr.cell? ⟨w.heap.size + 1, 1, none⟩ = some (.int .i64 ((bst B.data.toList d 2).2.pr : Int)) := by rw [cell_of_row _ _ _ _ _ _ R1.out]; rfl
      have c2 : wr.cell? ⟨w.heap.size + 1, 2, none⟩ = some (.int .i64 ((bst B.data.toList d 2).2.at_ : Int)) := by rw [cell_of_row _ _ _ _ _ _ R1.out]; rfl
      have c3 : wr.cell? ⟨w.heap.size + 1, 3, none⟩ = some (.int .u32 ((bst B.data.toList d 2).1 : Int)) := by rw [cell_of_row _ _ _ _ _ _ R1.out]; rfl
      have g0 : wr.cell? ⟨w.heap.size, 0, none⟩ = some (.int .i64 0) := by rw [cell_of_row _ _ _ _ _ _ R0.out]; rfl
      have g1 : wr.cell? ⟨w.heap.size, 1, none⟩ = some (.int .i64 0) := by rw [cell_of_row _ _ _ _ _ _ R0.out]; rfl
      have g2 : wr.cell? ⟨w.heap.size, 2, none⟩ = some (.int .i64 0) := by rw [cell_of_row _ _ _ _ _ _ R0.out]; rfl
      have g3 : wr.cell? ⟨w.heap.size, 3, none⟩ = some (.int .u32 0) := by rw [cell_of_row _ _ _ _ _ _ R0.out]; rfl
      have f0 := frozen_of_row wr _ 0 _ _ R0.out
      have f1 := frozen_of_row wr _ 1 _ _ R0.out
      have f2 := frozen_of_row wr _ 2 _ _ R0.out
      have f3 := frozen_of_row wr _ 3 _ _ R0.out
      clear r0 r1 hb
      go_wp2_with fail
      refine bodyPost_ret (results_cell_row rfl _ _ w.heap.size 125 _ (0, 0) _ rfl (set4 R0.out _ _ _ _) Tryz.underlying125 rfl sizeEnt) rfl ?_
      exact ⟨rfl, (((HB.out.setCell (Nat.le_refl _) _).setCell (Nat.le_refl _) _).setCell (Nat.le_refl _) _).setCell (Nat.le_refl _) _⟩
end Go.Proofs.YtdpemmmbkjmplabGreatDoor
namespace Go.Proofs.YtdpemmmbkjmplabGreatDoor
open Go.RowKit

/-- An entry's cells. -/
def entL (x : Nat × St) : List Value := [.int .i64 x.2.ph, .int .i64 x.2.pr, .int .i64 x.2.at_, .int .u32 x.1]
/-- A journal's cells. -/
def jL (p : Nat) (E : Nat → Nat × St) (over : Bool) : List Value := .pointer (some ⟨p, 0, none⟩) :: (entL (E 0) ++ (entL (E 1) ++ (entL (E 2) ++ (entL (E 3) ++ (entL (E 4) ++ (entL (E 5) ++ [.bool over]))))))
/-- A journal in block j over the plate in block p. -/
def JR (w : World) (j p : Nat) (E : Nat → Nat × St) (over : Bool) : Prop := w.heap[j]? = some (.cells (jL p E over).toArray 128 (0, 0))
def updE (E : Nat → Nat × St) (d : Nat) (x : Nat × St) : Nat → Nat × St := fun e => if e = d then x else E e
theorem JR.cell {w : World} {j p : Nat} {E : Nat → Nat × St} {over : Bool} (h : JR w j p E over) (i : Nat) : w.cell? ⟨j, i, none⟩ = (jL p E over)[i]? := by
  rw [cell_of_row w j i _ _ _ h, List.getElem?_toArray]
theorem JR.plate {w : World} {j p : Nat} {E : Nat → Nat × St} {over : Bool} (h : JR w j p E over) : w.cell? ⟨j, 0, none⟩ = some (.pointer (some ⟨p, 0, none⟩)) := h.cell 0
theorem JR.over {w : World} {j p : Nat} {E : Nat → Nat × St} {over : Bool} (h : JR w j p E over) : w.cell? ⟨j, 25, none⟩ = some (.bool over) := h.cell 25
theorem JR.fz {w : World} {j p : Nat} {E : Nat → Nat × St} {over : Bool} (h : JR w j p E over) (i : Nat) : w.frozen? ⟨j, i, none⟩ = false := frozen_of_row w j i _ _ h
theorem six {d : Nat} (hd : d < 6) : d = 0 ∨ d = 1 ∨ d = 2 ∨ d = 3 ∨ d = 4 ∨ d = 5 := by omega
theorem JR.ent {w : World} {j p d : Nat} {E : Nat → Nat × St} {over : Bool} (h : JR w j p E over) (hd : d < 6) :
    w.cell? ⟨j, 1 + d * 4, none⟩ = some (.int .i64 (E d).2.ph) ∧ w.cell? ⟨j, 1 + d * 4 + 1, none⟩ = some (.int .i64 (E d).2.pr) ∧ w.cell? ⟨j, 1 + d * 4 + 2, none⟩ = some (.int .i64 (E d).2.at_) ∧ w.cell? ⟨j, 1 + d * 4 + 3, none⟩ = some (.int .u32 (E d).1) := by
  rw [h.cell, h.cell, h.cell, h.cell]
  rcases six hd with rfl | rfl | rfl | rfl | rfl | rfl <;> exact ⟨rfl, rfl, rfl, rfl⟩
theorem JR.set {w : World} {j p d : Nat} {E : Nat → Nat × St} {over : Bool} (h : JR w j p E over) (hd : d < 6) (x : Nat × St) :
    JR ((((w.setCell ⟨j, 1 + d * 4, none⟩ (.int .i64 x.2.ph)).setCell ⟨j, 1 + d * 4 + 1, none⟩ (.int .i64 x.2.pr)).setCell ⟨j, 1 + d * 4 + 2, none⟩ (.int .i64 x.2.at_)).setCell ⟨j, 1 + d * 4 + 3, none⟩ (.int .u32 x.1)) j p (updE E d x) over := by
  have h0 := heap_setCell_same w j (1 + d * 4) _ _ (.int .i64 x.2.ph) h
  have h1 := heap_setCell_same _ j (1 + d * 4 + 1) _ _ (.int .i64 x.2.pr) h0
  have h2 := heap_setCell_same _ j (1 + d * 4 + 2) _ _ (.int .i64 x.2.at_) h1
  have h3 := heap_setCell_same _ j (1 + d * 4 + 3) _ _ (.int .u32 x.1) h2
  unfold JR
  rw [h3]
  rcases six hd with rfl | rfl | rfl | rfl | rfl | rfl <;> rfl
theorem JR.setOver {w : World} {j p : Nat} {E : Nat → Nat × St} {over : Bool} (h : JR w j p E over) (b : Bool) : JR (w.setCell ⟨j, 25, none⟩ (.bool b)) j p E b := by
  unfold JR
  rw [heap_setCell_same w j 25 _ _ _ h]
  rfl
theorem JR.ext {w : World} {j p : Nat} {E F : Nat → Nat × St} {over : Bool} (h : JR w j p E over) (he : ∀ d, d < 6 → E d = F d) : JR w j p F over := by
  unfold JR jL at h ⊢
  rw [← he 0 (by decide), ← he 1 (by decide), ← he 2 (by decide), ← he 3 (by decide), ← he 4 (by decide), ← he 5 (by decide)]
  exact h
theorem JR.drew {w : World} {j p : Nat} {E : Nat → Nat × St} {over : Bool} (h : JR w j p E over) : JR w.drew j p E over := h
theorem JR.later {w w' : World} {j p B : Nat} {E : Nat → Nat × St} {over : Bool} (h : JR w j p E over) (hb : Below B w w') (hj : j < B) : JR w' j p E over := (hb.block j hj).trans h
theorem JR.lt {w : World} {j p : Nat} {E : Nat → Nat × St} {over : Bool} (h : JR w j p E over) : j < w.heap.size := row_ltJ h
theorem JR.new (w : World) (p : Nat) (E : Nat → Nat × St) (over : Bool) : JR (w.alloc (.cells (jL p E over).toArray 128)) w.heap.size p E over := heap_alloc_new w _
end Go.Proofs.YtdpemmmbkjmplabGreatDoor
namespace Go.Proofs.YtdpemmmbkjmplabGreatDoor
open Go.RowKit

/-- What the plate answers to a write that lies on it: done, or cut ahead of its end. -/
theorem wr_of (B s : ByteArray) (l : Int) (a : Nat) (h : a + s.size ≤ B.size) (h0 : 0 < s.size) : Wr B.data.toList a s.data.toList (wB B s l a).data.toList (wC B s l a) := by
  have hb : ¬ wBad B s a := by unfold wBad; omega
  by_cases hl : l = -2
  · simp only [wC, wB, if_neg hb, if_pos hl]
    exact .inr ⟨rfl, 0, by rw [← size_list]; exact h0, by rw [List.take_zero, putL_nil]⟩
  · by_cases hn : 0 ≤ l ∧ l < s.size
    · simp only [wC, wB, if_neg hb, if_neg hl, if_pos hn, Int.toNat_natCast]
      refine .inr ⟨rfl, l.toNat, by rw [← size_list]; omega, ?_⟩
      rw [putB_putL (by omega)]
    · simp only [wC, wB, if_neg hb, if_neg hl, if_neg hn, Int.toNat_natCast]
      refine .inl ⟨rfl, ?_⟩
      rw [putB_putL (Nat.le_refl _), size_list, List.take_length]
theorem wL_off (B s : ByteArray) (l : Int) (a : Nat) (h : wC B s l a = 6) : wL B s l a = -2 := by
  unfold wC at h
  unfold wL
  split at h
  · cases h
  · rename_i hb
    rw [if_neg hb]
    split at h
    · rename_i hl; rw [if_pos hl]
    · rename_i hl
      rw [if_neg hl]
      split at h
      · rename_i hn; rw [if_pos hn]
      · cases h
theorem bits_xor_nat (a b : Nat) (ha : a < 9223372036854775808) (hb : b < 9223372036854775808) : bits .xor .i64 (a : Int) (b : Int) = ((a ^^^ b : Nat) : Int) := by
  have hx : a ^^^ b < 2 ^ 63 := Nat.xor_lt_two_pow (by omega) (by omega)
  show IntKind.i64.wrap ((BitVec.ofInt 64 (a : Int) ^^^ BitVec.ofInt 64 (b : Int)).toNat : Int) = _
  rw [BitVec.toNat_xor, ofInt_nat a ha, ofInt_nat b hb, IntKind.wrap_i64]
  omega
end Go.Proofs.YtdpemmmbkjmplabGreatDoor
namespace Go.Proofs.YtdpemmmbkjmplabGreatDoor
open Go.RowKit

theorem slotL_take (L : List UInt8) (k : Nat) (hk : k < 12) : slotL (L.take 216) k = slotL L k := by
  apply List.ext_getElem?
  intro m
  rw [slotL_get, slotL_get]
  split
  · rw [List.getElem?_take, if_pos (by omega)]
  · rfl
theorem dealL_take (L : List UInt8) (d : Nat) (hd : d < 6) : dealL (L.take 216) d = dealL L d := by
  unfold dealL
  rw [slotL_take L _ (by omega), slotL_take L _ (by omega)]
theorem newest_is (B : ByteArray) (d n ph pr a : Nat) (w : World) (hB : B.size = 216) (hd : d < 6) (h : dealL B.data.toList d = (n, ⟨ph, pr, a⟩)) :
    Calls Tryz.prog 94 #[.string B, .int .i64 (d : Int)] w fun e w' => e = .returned (.agg #[.int .i64 (ph : Int), .int .i64 (pr : Int), .int .i64 (a : Int), .int .u32 (n : Int)]) ∧ Below w.heap.size w w' := by
  have := newest_any B d w hB hd
  rw [h] at this
  exact this
def openE (L : List UInt8) (k : Nat) : Nat → Nat × St := fun d => if d < k then dealL L d else (0, St.zero)
theorem openE_step (L : List UInt8) (k : Nat) : openE L (k + 1) = updE (openE L k) k (dealL L k) := by
  funext d
  unfold openE updE
  by_cases h : d = k
  · subst h; rw [if_pos (by omega), if_pos rfl]
  · rw [if_neg h]
    show _ = if d < k then dealL L d else (0, St.zero)
    by_cases h2 : d < k
    · rw [if_pos (by omega), if_pos h2]
    · rw [if_neg (by omega), if_neg h2]
theorem place6 (w : World) : Calls Tryz.prog 93 #[.int .i64 6, .int .u32 0] w fun e w' => e = .returned (.int .i64 216) ∧ w' = w := place_any 6 0 w (by omega) (by omega)
theorem read6 (A : Nat → Addr) (p q : Nat) (B X : ByteArray) (l : Int) (w : World) (h : Pl w p q B l) (hE : HeldE w A) (hB : B.size ≤ 1000) (hl : ¬ l = -2) (hb : 216 ≤ B.size) (hX : B.extract 0 (0 + 216) = X) :
    Calls Tryz.prog 92 #[.pointer (some ⟨p, 0, none⟩), .int .i64 0, .int .i64 216] w fun e w' => e = .returned (.tuple #[.string X, .nilIface]) ∧ w' = w := by
  rw [← hX]; exact pread_ok A p q B l 0 216 w h hE hB hl (by omega)
theorem openE_all (L : List UInt8) (d : Nat) (hd : d < 6) : openE L 6 d = dealL L d := if_pos hd

set_option maxHeartbeats 2000000 in
set_option maxRecDepth 100000 in
theorem open_ok (A : Nat → Addr) (p q : Nat) (B : ByteArray) (l : Int) (w : World) (h : Pl w p q B l) (hE : HeldE w A) (hB : B.size ≤ 1000) (h6 : 216 ≤ B.size) (hl : ¬ l = -2) :
    Calls Tryz.prog 75 #[.pointer (some ⟨p, 0, none⟩)] w fun e w' => ∃ j, e = .returned (.tuple #[.pointer (some ⟨j, 0, none⟩), .nilIface]) ∧ JR w' j p (dealL B.data.toList) false ∧ Below w.heap.size w w' ∧ w.heap.size ≤ j := by
  have H := hid h
  have HE := hid hE
  have HL := hid hl
  obtain ⟨X, HX⟩ : ∃ X, Hid (B.extract 0 (0 + 216) = X) := ⟨_, rfl⟩
  have HXl : Hid (X.data.toList = B.data.toList.take 216) := by rw [← HX.out, ]; unfold Hid; rw [ext_list]; rfl
  have hX : X.size = 216 := by rw [size_list, HXl.out, List.length_take, ← size_list]; omega
  have HF : Hid (∀ w' j, JR w' j p (openE X.data.toList 6) false → JR w' j p (dealL B.data.toList) false) := fun w' j hj => hj.ext (fun d hd => by rw [openE_all _ _ hd, HXl.out, dealL_take _ _ hd])
  have HS : Hid (∀ k, openE X.data.toList (k + 1) = updE (openE X.data.toList k) k (dealL X.data.toList k)) := openE_step _
  have H0 : Hid (openE X.data.toList 0 = fun _ => (0, St.zero)) := by unfold Hid openE; funext d; rw [if_neg (by omega)]
  clear h hE hl
  go_enter Tryz.func75, Tryz.ntmps75
  go_wp2_with (first | (go_at_call 93; refine (place6 _).mono ?_; rintro e wx ⟨rfl, hx⟩; subst wx) | (go_at_call 92; refine (read6 A p q B X l _ H.out HE.out hB HL.out h6 HX.out).mono ?_; rintro e wx ⟨rfl, hx⟩; subst wx))
  go_loopw [23] (fun i wr => ∃ k : Nat, k ≤ 6 ∧ i = .int .i64 (k : Int) ∧ JR wr w.heap.size p (openE X.data.toList k) false ∧ Below w.heap.size w wr) (fun i _ => 6 - (intOf i).toNat)
  case atStart => exact ⟨0, by omega, rfl, by rw [H0.out]; exact heap_alloc_new w _, (Below.refl _ _).alloc (Nat.le_refl _) _⟩
  case round =>
    obtain ⟨k, hk, rfl, hJ, hb⟩ := hrel
    have HJ := hid hJ
    have HB := hid hb
    clear hJ hb
    by_cases hlt : k < 6
    · obtain ⟨⟨n, ph, pr, a⟩, HD⟩ : ∃ x, Hid (dealL X.data.toList k = x) := ⟨_, rfl⟩
      go_wp2_with fail
      go_region_held3 (fun _ => True) (trivial) (first | (go_at_call 94; (with_reducible refine (newest_is X k n ph pr a _ hX hlt HD.out).mono ?_); rintro e w2 ⟨rfl, hb2⟩; have HJ2 := hid (HJ.out.drew.later hb2 HJ.out.lt); have HB2 := hid (HB.out.drew.trans (hb2.mono HB.out.size)); obtain ⟨c0, c1, c2, c3⟩ := HJ2.out.ent hlt; have f0 := HJ2.out.fz (1 + k * 4); have f1 := HJ2.out.fz (1 + k * 4 + 1); have f2 := HJ2.out.fz (1 + k * 4 + 2); have f3 := HJ2.out.fz (1 + k * 4 + 3); clear hb2))
      all_goals go_wp2_with fail
      all_goals go_roundw
      case rel => exact ⟨k + 1, by omega, by go_num, by rw [HS.out, HD.out]; exact HJ2.out.set hlt (n, ⟨ph, pr, a⟩), (((HB2.out.setCell (Nat.le_refl _) _).setCell (Nat.le_refl _) _).setCell (Nat.le_refl _) _).setCell (Nat.le_refl _) _⟩
      case measure => simp [intOf]; omega
    · obtain rfl : k = 6 := by omega
      go_wp2_with fail
      go_ret2
      exact ⟨w.heap.size, rfl, HF.out _ _ HJ.out, HB.out, Nat.le_refl _⟩

theorem sizeState : (Tryz.prog.info? 43).map (·.size) = some 3 := by kernel_rfl
theorem set3 {w : World} {g : Nat} {a b c : Value} {t : TypeId} (h : w.heap[g]? = some (.cells #[a, b, c] t (0, 0))) (x0 x1 x2 : Value) :
    (((w.setCell ⟨g, 0, none⟩ x0).setCell ⟨g, 1, none⟩ x1).setCell ⟨g, 2, none⟩ x2).heap[g]? = some (.cells #[x0, x1, x2] t (0, 0)) := by
  have h0 := heap_setCell_same w g 0 _ _ x0 h
  have h1 := heap_setCell_same _ g 1 _ _ x1 h0
  exact heap_setCell_same _ g 2 _ _ x2 h1
/-- A state as a value. -/
def stV (s : St) : Value := .agg #[.int .i64 s.ph, .int .i64 s.pr, .int .i64 s.at_]
set_option maxRecDepth 100000 in
theorem get_ok (j p d : Nat) (E : Nat → Nat × St) (over : Bool) (w : World) (h : JR w j p E over) (hd : d < 6) :
    Calls Tryz.prog 76 #[.pointer (some ⟨j, 0, none⟩), .int .i64 (d : Int)] w fun e w' => e = .returned (.tuple #[stV (E d).2, .nilIface]) ∧ Below w.heap.size w w' := by
  have HK : Hid (decide (0 ≤ (d : Int) ∧ (d : Int) < 6) = true) := decide_eq_true ⟨by omega, by omega⟩
  obtain ⟨c0, c1, c2, c3⟩ := h.ent hd
  have hj := h.lt
  unfold stV
  generalize (E d).2.ph = ph at c0 ⊢
  generalize (E d).2.pr = pr at c1 ⊢
  generalize (E d).2.at_ = a at c2 ⊢
  clear h
  go_enter Tryz.func76, Tryz.ntmps76
  go_wp2_with (go_at_call 95; refine (known_any d _).mono ?_; rw [HK.out]; rintro e wx ⟨rfl, hx⟩; subst wx)
  refine bodyPost_ret (results_row2 rfl _ _ w.heap.size 43 #[.int .i64 (ph : Int), .int .i64 (pr : Int), .int .i64 (a : Int)] (0, 0) _ rfl (heap_alloc_new w _) Tryz.underlying43 rfl sizeState) rfl ?_
  exact ⟨rfl, (Below.refl _ _).alloc (Nat.le_refl _) _⟩
set_option maxRecDepth 100000 in
theorem get_bad (A : Nat → Addr) (v : Value) (d : Int) (w : World) (hE : HeldE w A) (hd : ¬ (0 ≤ d ∧ d < 6)) :
    Calls Tryz.prog 76 #[v, .int .i64 d] w fun e w' => e = .returned (.tuple #[stV St.zero, .iface 222 (.pointer (some (A 1)))]) ∧ Below w.heap.size w w' := by
  have HK : Hid (decide (0 ≤ d ∧ d < 6) = false) := decide_eq_false hd
  have g1 := hE.g1
  have g1b := cell_allocJ (o := .cells #[.int .i64 0, .int .i64 0, .int .i64 0] 43) g1
  clear hE hd
  go_enter Tryz.func76, Tryz.ntmps76
  go_wp2_with (go_at_call 95; refine (known_any d _).mono ?_; rw [HK.out]; rintro e wx ⟨rfl, hx⟩; subst wx)
  go_region
  all_goals go_wp2
  refine bodyPost_ret (results_row2 rfl _ _ w.heap.size 43 #[.int .i64 0, .int .i64 0, .int .i64 0] (0, 0) _ rfl (heap_alloc_new w _) Tryz.underlying43 rfl sizeState) rfl ?_
  exact ⟨rfl, ((Below.refl _ _).alloc (Nat.le_refl _) _).drew⟩
/-- No plate. -/
theorem open_nil (A : Nat → Addr) (w : World) (hE : HeldE w A) :
    Calls Tryz.prog 75 #[.pointer none] w fun e w' => e = .returned (.tuple #[.pointer none, .iface 222 (.pointer (some (A 2)))]) ∧ Below w.heap.size w w' := by
  have g2 : w.cell? ⟨4, 0, none⟩ = some (.iface 222 (.pointer (some (A 2)))) := hE.g2
  clear hE
  go_enter Tryz.func75, Tryz.ntmps75
  go_wp2_with fail
  go_quiet (fail)
  go_wp2
  go_ret2
  exact ⟨rfl, below_drewN (Below.refl _ _) _⟩
/-- Too few bytes, or no power. -/
theorem open_bad (A : Nat → Addr) (p q : Nat) (B : ByteArray) (l : Int) (c : Nat) (w : World) (h : Pl w p q B l) (hE : HeldE w A) (hB : B.size ≤ 1000) (hc : rC B l 0 216 = c + 1) :
    Calls Tryz.prog 75 #[.pointer (some ⟨p, 0, none⟩)] w fun e w' => e = .returned (.tuple #[.pointer none, .iface 222 (.pointer (some (A c)))]) ∧ w' = w := by
  have H := hid h
  have HE := hid hE
  have HC := hid hc
  clear h hE hc
  go_enter Tryz.func75, Tryz.ntmps75
  go_wp2_with (first | (go_at_call 93; refine (place6 _).mono ?_; rintro e wx ⟨rfl, hx⟩; subst wx) | (go_at_call 92; refine (read_bad A p q B l 0 216 c _ H.out HE.out hB (by omega) HC.out).mono ?_; rintro e wx ⟨rfl, hx⟩; subst wx))
  go_ret2
  exact ⟨rfl, rfl⟩
end Go.Proofs.YtdpemmmbkjmplabGreatDoor
namespace Go.Proofs.YtdpemmmbkjmplabGreatDoor
open Go.RowKit

/-- A journal over its plate, in memory that was not there in w0. -/
structure JP (w0 w : World) (j p q : Nat) (E : Nat → Nat × St) (over : Bool) (B : ByteArray) (l : Int) : Prop where
  bel : Below w0.heap.size w0 w
  jr : JR w j p E over
  pl : Pl w p q B l
  jp : j ≠ p
  jq : j ≠ q
  j0 : w0.heap.size ≤ j
  p0 : w0.heap.size ≤ p
  q0 : w0.heap.size ≤ q
  l0 : -2 ≤ l
  l1 : l ≤ 9223372036854775807
  sz : B.size ≤ 1000
  s6 : 216 ≤ B.size
section
variable {w0 w w' : World} {j p q : Nat} {E : Nat → Nat × St} {over : Bool} {B B' : ByteArray} {l l' : Int} {A : Nat → Addr}
theorem JP.later (h : JP w0 w j p q E over B l) (hb : Below w.heap.size w w') : JP w0 w' j p q E over B l :=
  ⟨h.bel.trans (hb.mono h.bel.size), h.jr.later hb h.jr.lt, h.pl.kept (S := fun _ => False) (Kept.of_below hb) (fun x => x) (fun x => x), h.jp, h.jq, h.j0, h.p0, h.q0, h.l0, h.l1, h.sz, h.s6⟩
theorem JP.drew (h : JP w0 w j p q E over B l) : JP w0 w.drew j p q E over B l := h.later (Below.refl _ _).drew
theorem JP.plate (h : JP w0 w j p q E over B l) (hk : Kept (In2 p q) w w') (hp : Pl w' p q B' l') (h0 : -2 ≤ l') (h1 : l' ≤ 9223372036854775807) (hs : B'.size = B.size) : JP w0 w' j p q E over B' l' :=
  ⟨hk.below h.bel.size (fun k g => by have := h.p0; have := h.q0; unfold In2 at g; omega) h.bel, hk.row h.jr (fun g => g.elim h.jp h.jq), hp, h.jp, h.jq, h.j0, h.p0, h.q0, h0, h1, by rw [hs]; exact h.sz, by rw [hs]; exact h.s6⟩
theorem JP.held (h : JP w0 w j p q E over B l) (hE : HeldE w0 A) : HeldE w A := hE.later h.bel
theorem JP.gp (h : JP w0 w j p q E over B l) (hE : HeldE w0 A) : 5 ≠ p ∧ 5 ≠ q := by
  have := cell_lt hE.g5
  have := h.p0
  have := h.q0
  exact ⟨fun e => by subst e; simp at *; omega, fun e => by subst e; simp at *; omega⟩
/-- The journal alone is written. -/
theorem JP.own {E' : Nat → Nat × St} {over' : Bool} (h : JP w0 w j p q E over B l) (hk : Kept (In1 j) w w') (hj : JR w' j p E' over') : JP w0 w' j p q E' over' B l :=
  ⟨hk.below h.bel.size (fun k g => by have := h.j0; unfold In1 at g; omega) h.bel, hj, h.pl.kept hk (fun g => h.jp g.symm) (fun g => h.jq g.symm), h.jp, h.jq, h.j0, h.p0, h.q0, h.l0, h.l1, h.sz, h.s6⟩
end
theorem wL_ge (B s : ByteArray) (l a : Int) (h : -2 ≤ l) : -2 ≤ wL B s l a := by
  unfold wL
  repeat' split
  all_goals omega
theorem wL_le (B s : ByteArray) (l a : Int) (h : l ≤ 9223372036854775807) : wL B s l a ≤ 9223372036854775807 := by
  unfold wL
  repeat' split
  all_goals omega
/-- A write onto a journal's plate. -/
theorem write_jp (A : Nat → Addr) (w0 w : World) (j p q : Nat) (E : Nat → Nat × St) (over : Bool) (B s : ByteArray) (l a : Int) (h : JP w0 w j p q E over B l) (hE : HeldE w0 A) (hs : s.size ≤ 1000) (c : Nat) (hc : wC B s l a = c) :
    Calls Tryz.prog 149 #[.pointer (some ⟨p, 0, none⟩), .int .i64 a, .string s] w fun e w' => e = .returned (ev A c) ∧ JP w0 w' j p q E over (wB B s l a) (wL B s l a) ∧ Kept (In2 p q) w w' := by
  rw [← hc]
  refine (write_pl A p q B s l a w h.pl (h.held hE) h.sz hs h.l0 h.l1 (h.gp hE).1 (h.gp hE).2).mono ?_
  rintro e w' ⟨rfl, hp, hk⟩
  exact ⟨rfl, h.plate hk hp (wL_ge B s l a h.l0) (wL_le B s l a h.l1) (wB_size B s l a), hk⟩

/-- A write by its three answers. -/
structure Out where
  c : Nat
  b : ByteArray
  l : Int
def wOut (B s : ByteArray) (l : Int) (a : Nat) : Out := ⟨wC B s l a, wB B s l a, wL B s l a⟩
/-- The last byte of slot k made 0, if it is not. -/
def fill1 (B : ByteArray) (l : Int) (k : Nat) : Out := if l = -2 then ⟨6, B, l⟩ else if B.data.toList[18 * k + 17]? = some 0 then ⟨0, B, l⟩ else wOut B (bA [0]) l (18 * k + 17)
def fill2 (B : ByteArray) (l : Int) (k n : Nat) (s : St) : Out := if (fill1 B l k).c = 0 then wOut (fill1 B l k).b (bA (bodyL n s)) (fill1 B l k).l (18 * k) else fill1 B l k
def fill3 (B : ByteArray) (l : Int) (k n : Nat) (s : St) : Out := if (fill2 B l k n s).c = 0 then wOut (fill2 B l k n s).b (bA [165]) (fill2 B l k n s).l (18 * k + 17) else fill2 B l k n s
end Go.Proofs.YtdpemmmbkjmplabGreatDoor
