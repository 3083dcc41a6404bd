/-
  THE WALK of the law WireReads.
-/
import Derived.Test.YtkbbjkiinpimiaaDoorKG
import Derived.Test.YtkbbjkiinpimiaaDoorRN
namespace Go.Proofs.YtkbbjkiinpimiaaDoor
open Go.RowKit

theorem codeF_le (l : List UInt8) : codeF l ≤ 9 := by
  unfold codeF
  repeat' split
  all_goals omega
set_option maxHeartbeats 4000000 in
set_option maxRecDepth 100000 in
theorem reads_early (A : Nat → Addr) (s : ByteArray) (sl : Bool) (w : World) (hE : Held9 w A) (hs : 200 < s.size) :
    Calls Tryd.prog 13 #[.string s, .bool sl] w fun e w' => e = .returned (.bool true) ∧ Below w.heap.size w w' := by
  have HE := hid hE
  clear hE
  have hg : decide ((200 : Int) < (s.size : Int)) = true := decide_eq_true (by omega)
  go_enter Tryd.func13, Tryd.ntmps13
  go_wp2_with fail
  refine (framed_any A w HE.out).mono ?_
  rintro e w1 ⟨rfl, hb1⟩
  have HB1 := hid hb1
  clear hb1
  go_wp2_with fail
  go_ret
  exact ⟨rfl, HB1.out⟩
set_option maxHeartbeats 8000000 in
set_option maxRecDepth 100000 in
theorem reads_small (A : Nat → Addr) (s : ByteArray) (sl : Bool) (w : World) (hE : Held9 w A) (hs : s.size ≤ 200) :
    Calls Tryd.prog 13 #[.string s, .bool sl] w fun e w' => e = .returned (.bool true) ∧ Below w.heap.size w w' := by
  have HE := hid hE
  clear hE
  have hg : decide ((200 : Int) < (s.size : Int)) = false := decide_eq_false (by omega)
  obtain ⟨cr, Hcr⟩ : ∃ c, Hid (crcL s.data.toList = c) := ⟨_, rfl⟩
  have Hcl : Hid (cr < 4294967296) := by rw [← Hcr.out]; exact crcL_lt _
  obtain ⟨r, Hr⟩ : ∃ r, Hid (bA (lowL cr) = r) := ⟨_, rfl⟩
  have zr : r.size = 4 := by rw [← Hr.out, bA_size]; rfl
  obtain ⟨s', Hs'⟩ : ∃ t, Hid ((if sl = true then s ++ r else s) = t) := ⟨_, rfl⟩
  go_enter Tryd.func13, Tryd.ntmps13
  go_wp2_with fail
  refine (framed_any A w HE.out).mono ?_
  rintro e w1 ⟨rfl, hb1⟩
  have HB1 := hid hb1
  clear hb1
  go_upto_if 20 with fail
  go_cut [0] from 21 (fun s0 wx => s0 = .string s' ∧ Below w.heap.size w wx)
  case first =>
    cases sl with
    | false =>
      go_wp2_with fail
      go_meet
      exact ⟨by rw [← Hs'.out]; rfl, HB1.out⟩
    | true =>
      go_wp2_with fail
      refine (crc_is s cr _ (by omega) Hcr.out).mono ?_
      rintro e wx ⟨rfl, hx⟩
      subst wx
      go_wp2_with fail
      refine (low_is cr r _ Hcl.out Hr.out).mono ?_
      rintro e w2 ⟨rfl, hb2⟩
      have HB2 := hid (HB1.out.trans (hb2.mono HB1.out.size))
      clear hb2
      go_wp2_with fail
      go_meet
      exact ⟨by rw [← Hs'.out]; rfl, HB2.out⟩
  case rest =>
    obtain ⟨rfl, hbc⟩ := hcut
    have HBc := hid hbc
    clear hbc
    obtain ⟨c, HC⟩ : ∃ c, Hid (codeF s'.data.toList = c) := ⟨_, rfl⟩
    have HC9 : Hid (c ≤ 9) := by rw [← HC.out]; exact codeF_le _
    obtain ⟨F, HF⟩ : ∃ F, Hid (decF s'.data.toList = F) := ⟨_, rfl⟩
    obtain ⟨f, t, d, k, a, y, ph, pr, pa⟩ := F
    have HD : Hid (Calls Tryd.prog 58 #[.string s'] wc fun e w' => e = .returned (.tuple #[.agg #[.int .i64 (f : Int), .int .i64 (t : Int), .int .i64 (d : Int), .int .i64 (k : Int), .int .i64 (a : Int), .bool y, .int .i64 (ph : Int), .int .i64 (pr : Int), .int .i64 (pa : Int)], ev A c]) ∧ Below wc.heap.size wc w') := by
      have := decode_any A s' wc (HE.out.later HBc.out)
      rw [HF.out, HC.out] at this
      exact this
    go_wp2_with fail
    refine HD.out.mono ?_
    rintro e w2 ⟨rfl, hb2⟩
    have HB2 := hid (HBc.out.trans (hb2.mono HBc.out.size))
    clear hb2 HD
    obtain ⟨V, HV⟩ : ∃ X, Hid (w2.alloc (.cells #[.int .i64 (f : Int), .int .i64 (t : Int), .int .i64 (d : Int), .int .i64 (k : Int), .int .i64 (a : Int), .bool y, .int .i64 (ph : Int), .int .i64 (pr : Int), .int .i64 (pa : Int)] 88) = X) := ⟨_, rfl⟩
    have HBV : Hid (Below w.heap.size w V) := by rw [← HV.out]; exact HB2.out.alloc HB2.out.size _
    have HVF : Hid (V.heap[w2.heap.size]? = some (.cells #[.int .i64 (f : Int), .int .i64 (t : Int), .int .i64 (d : Int), .int .i64 (k : Int), .int .i64 (a : Int), .bool y, .int .i64 (ph : Int), .int .i64 (pr : Int), .int .i64 (pa : Int)] 88 (0, 0))) := by rw [← HV.out]; exact heap_alloc_new w2 _
    have HO : Hid (Calls Tryd.prog 62 #[.string s'] V fun e w' => e = .returned (.tuple #[.agg #[.int .i64 (f : Int), .int .i64 (t : Int), .int .i64 (d : Int), .int .i64 (k : Int), .int .i64 (a : Int), .bool y, .int .i64 (ph : Int), .int .i64 (pr : Int), .int .i64 (pa : Int)], .int .i64 (c : Int)]) ∧ Below V.heap.size V w') := by
      have := fof_any s' V
      rw [HF.out, HC.out] at this
      exact this
    go_wp2_with fail
    rw [HV.out]
    refine HO.out.mono ?_
    rintro e w3 ⟨rfl, hb3⟩
    have HB3 := hid (HBV.out.trans (hb3.mono HBV.out.size))
    have HF3 := hid ((hb3.block _ (row_ltJ HVF.out)).trans HVF.out)
    clear hb3 HO
    obtain ⟨U, HU⟩ : ∃ X, Hid (w3.alloc (.cells #[.int .i64 (f : Int), .int .i64 (t : Int), .int .i64 (d : Int), .int .i64 (k : Int), .int .i64 (a : Int), .bool y, .int .i64 (ph : Int), .int .i64 (pr : Int), .int .i64 (pa : Int)] 88) = X) := ⟨_, rfl⟩
    have HBU : Hid (Below w.heap.size w U) := by rw [← HU.out]; exact HB3.out.alloc HB3.out.size _
    have HUL : Hid (Below w3.heap.size w3 U) := by rw [← HU.out]; exact (Below.refl _ _).alloc (Nat.le_refl _) _
    have HUF : Hid (U.heap[w3.heap.size]? = some (.cells #[.int .i64 (f : Int), .int .i64 (t : Int), .int .i64 (d : Int), .int .i64 (k : Int), .int .i64 (a : Int), .bool y, .int .i64 (ph : Int), .int .i64 (pr : Int), .int .i64 (pa : Int)] 88 (0, 0))) := by rw [← HU.out]; exact heap_alloc_new w3 _
    have HUG := hid ((HUL.out.block _ (row_ltJ HF3.out)).trans HF3.out)
    go_wp2_with fail
    rw [HU.out]
    refine (coded_ev A c U (HE.out.later HBU.out) HC9.out).mono ?_
    rintro e w4 ⟨rfl, hb4⟩
    have HB4 := hid (HBU.out.trans (hb4.mono HBU.out.size))
    obtain ⟨v0, v1, v2, v3, v4, v5, v6, v7, v8⟩ := nine ((hb4.block _ (row_ltJ HUF.out)).trans HUF.out)
    obtain ⟨q0, q1, q2, q3, q4, q5, q6, q7, q8⟩ := nine ((hb4.block _ (row_ltJ HUG.out)).trans HUG.out)
    clear hb4
    by_cases hc0 : c = 0
    · subst hc0
      obtain ⟨e1, e2, e3⟩ := frame_read _ HC.out
      have hF : readF s'.data.toList = ⟨f, t, d, k, a, y, ph, pr, pa⟩ := by rw [← HF.out, decF, HC.out, if_pos rfl]
      rw [hF] at e1 e2
      have HO := hid e2
      have HS2 : Hid (bA (frameL (FN.mk f t d k a y ph pr pa)) = s') := by rw [e1]; exact bA_of s'
      clear e1 e2 e3 hF
      go_wp2_with fail
      refine (encode_ok A f t d k a y ph pr pa w4 (HE.out.later HB4.out) HO.out).mono ?_
      rw [HS2.out]
      rintro e w5 ⟨rfl, hb5⟩
      have HB5 := hid (HB4.out.trans (hb5.mono HB4.out.size))
      clear hb5
      go_wp2_with fail
      go_ret
      exact ⟨rfl, HB5.out⟩
    · have hcg : decide ((0 : Int) < (c : Int)) = true := decide_eq_true (by omega)
      go_wp2_with fail
      go_ret
      exact ⟨rfl, HB4.out⟩
theorem reads_any (A : Nat → Addr) (s : ByteArray) (sl : Bool) (w : World) (hE : Held9 w A) :
    Calls Tryd.prog 13 #[.string s, .bool sl] w fun e w' => e = .returned (.bool true) ∧ Below w.heap.size w w' := by
  by_cases h : 200 < s.size
  · exact reads_early A s sl w hE h
  · exact reads_small A s sl w hE (by omega)
end Go.Proofs.YtkbbjkiinpimiaaDoor
