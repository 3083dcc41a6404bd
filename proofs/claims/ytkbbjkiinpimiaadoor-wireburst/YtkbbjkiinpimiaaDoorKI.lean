/-
  THE WALK of the law WireBurst.
-/
import Derived.Test.YtkbbjkiinpimiaaDoorKH
namespace Go.Proofs.YtkbbjkiinpimiaaDoor
open Go.RowKit

set_option maxHeartbeats 4000000 in
set_option maxRecDepth 100000 in
theorem burst_ok (A : Nat → Addr) (f t d k a : Nat) (y : Bool) (ph pr pa : Nat) (at_ burst : Nat) (w : World) (hE : Held9 w A) (h : (FN.mk f t d k a y ph pr pa).ok) (hb0 : burst ≠ 0) (hb : burst < 4294967296) (ha : at_ < 176) :
    Calls Tryd.prog 14 #[frV f t d k a y ph pr pa, .int .i64 (at_ : Int), .int .u32 (burst : Int)] w fun e w' => e = .returned (.bool true) ∧ Below w.heap.size w w' := by
  obtain ⟨W, HW⟩ : ∃ W, Hid (w.alloc (.cells #[.int .i64 f, .int .i64 t, .int .i64 d, .int .i64 k, .int .i64 a, .bool y, .int .i64 ph, .int .i64 pr, .int .i64 pa] 88) = W) := ⟨_, rfl⟩
  have HB : Hid (Below w.heap.size w W) := by rw [← HW.out]; exact (Below.refl _ _).alloc (Nat.le_refl _) _
  have HR : Hid (W.heap[w.heap.size]? = some (.cells #[.int .i64 f, .int .i64 t, .int .i64 d, .int .i64 k, .int .i64 a, .bool y, .int .i64 ph, .int .i64 pr, .int .i64 pa] 88 (0, 0))) := by rw [← HW.out]; exact heap_alloc_new w _
  have HE := hid hE
  have HO := hid h
  obtain ⟨s, HS⟩ : ∃ s, Hid (bA (frameL (FN.mk f t d k a y ph pr pa)) = s) := ⟨_, rfl⟩
  have HSl : Hid (s.data.toList = frameL (FN.mk f t d k a y ph pr pa)) := by unfold Hid; rw [← HS.out, bA_list]
  have hsz : s.size = 22 := by rw [size_list, HSl.out, frameL_length]
  have HWs : Hid (wellL s.data.toList) := by rw [HSl.out]; exact frame_well _
  clear hE h
  go_enter Tryd.func14, Tryd.ntmps14
  go_wp2_with fail
  rw [HW.out]
  refine (framed_any A W (HE.out.later HB.out)).mono ?_
  rintro e w1 ⟨rfl, hb1⟩
  have HB1 := hid (HB.out.trans (hb1.mono HB.out.size))
  have HR1 := hid ((hb1.block _ (row_ltJ HR.out)).trans HR.out)
  clear hb1
  obtain ⟨q0, q1, q2, q3, q4, q5, q6, q7, q8⟩ := nine HR1.out
  have hbz : ((burst : Int) == 0) = false := by simp; omega
  go_wp2_with fail
  refine (encode_ok A f t d k a y ph pr pa w1 (HE.out.later HB1.out) HO.out).mono ?_
  rw [HS.out]
  rintro e w2 ⟨rfl, hb2⟩
  have HB2 := hid (HB1.out.trans (hb2.mono HB1.out.size))
  clear hb2 q0 q1 q2 q3 q4 q5 q6 q7 q8
  obtain ⟨cap, W3, hcv, hbW, hsW, hBy, cs, n, hrow, hn1, hn2⟩ := conv_bytes w2 s
  have HB3 := hid (HB2.out.trans (hbW.mono HB2.out.size))
  have H3 : Hid (ByR W3 w2.heap.size s.data.toList) := ⟨hsz, cs, n, hrow, by omega, hn2, fun j hj => by have := hBy j hj; rw [Nat.zero_add, cell_of_row _ _ _ _ _ _ hrow] at this; exact this⟩
  rw [hsz] at hcv
  clear hbW hBy hrow hn1 hn2
  obtain ⟨g, Hg⟩ : ∃ n, Hid (w2.heap.size = n) := ⟨_, rfl⟩
  have hgw : w.heap.size ≤ g := by rw [← Hg.out]; exact HB2.out.size
  rw [Hg.out] at hcv H3
  go_wp2_with fail
  go_loopw [11] (fun i wr => ∃ m : Nat, ∃ b : List UInt8, m ≤ 32 ∧ i = .int .i64 (m : Int) ∧ ByR wr g b ∧ Turned s.data.toList b at_ burst m ∧ Below w.heap.size w wr ∧ g < wr.heap.size) (fun i _ => 32 - (intOf i).toNat)
  case atStart => exact ⟨0, s.data.toList, by omega, rfl, H3.out, Turned.zero _ _ _, HB3.out, by have := Hg.out; omega⟩
  case round =>
    obtain ⟨m, b, hm, rfl, hby, htu, hbw, hgl⟩ := hrel
    have HY := hid hby
    have HT := hid htu
    have HBw := hid hbw
    have hbl : b.length = 22 := hby.1
    clear hby htu hbw
    by_cases hlt : m < 32
    · have hq : burst / 2 ^ m < 4294967296 := Nat.lt_of_le_of_lt (Nat.div_le_self _ _) hb
      have hqc : ((burst : Int) / 2 ^ m) = ((burst / 2 ^ m : Nat) : Int) := by simp
      obtain ⟨q, Hq⟩ : ∃ q, Hid (burst / 2 ^ m = q) := ⟨_, rfl⟩
      rw [Hq.out] at hqc hq
      by_cases hbit : q % 2 = 1
      · by_cases hk : at_ + m < 176
        · have hj : (at_ + m) / 8 < b.length := by omega
          have cx := HY.out.cell ((at_ + m) / 8) hj
          have fx := HY.out.free ((at_ + m) / 8) (by omega)
          have hxb := UInt8.toNat_lt (b[(at_ + m) / 8]'hj)
          have HD : Hid (b.getD ((at_ + m) / 8) 0 = b[(at_ + m) / 8]'hj) := by unfold Hid; rw [List.getD_eq_getElem?_getD, List.getElem?_eq_getElem hj]; rfl
          generalize hxx : b[(at_ + m) / 8]'hj = x at cx hxb HD
          have hp : 2 ^ ((at_ + m) % 8) < 256 := Nat.lt_of_lt_of_le (Nat.pow_lt_pow_right (by decide) (show (at_ + m) % 8 < 8 by omega)) (by decide)
          have hxl : x.toNat ^^^ 2 ^ ((at_ + m) % 8) < 256 := Nat.xor_lt_two_pow (n := 8) hxb hp
          have HX : Hid (bits BinOp.xor IntKind.u8 (x.toNat : Int) (2 ^ ((at_ + m) % 8) % 256) = ((UInt8.ofNat (x.toNat ^^^ 2 ^ ((at_ + m) % 8))).toNat : Int)) := by
            unfold Hid
            have e : ((2 : Int) ^ ((at_ + m) % 8) % 256) = ((2 ^ ((at_ + m) % 8) : Nat) : Int) := by
              rw [Int.natCast_pow]; exact Int.emod_eq_of_lt (Int.le_of_lt (Int.pow_pos (by decide))) (by have := hp; exact_mod_cast this)
            rw [e, xor8 _ _ hxb hp, UInt8.toNat_ofNat', Nat.mod_eq_of_lt hxl]
          have HQ : Hid (burst / 2 ^ m % 2 = 1) := by rw [Hq.out]; exact hbit
          have HX2 : Hid ((UInt8.ofNat (x.toNat ^^^ 2 ^ ((at_ + m) % 8))).toNat = (b.getD ((at_ + m) / 8) 0).toNat ^^^ 2 ^ ((at_ + m) % 8)) := by
            unfold Hid; rw [HD.out, UInt8.toNat_ofNat', Nat.mod_eq_of_lt hxl]
          clear hp hxl
          go_wp2_with fail
          go_roundw
          case rel => exact ⟨m + 1, b.set ((at_ + m) / 8) (UInt8.ofNat (x.toNat ^^^ 2 ^ ((at_ + m) % 8))), by omega, by go_num, HY.out.set _ (by omega) _ _ HX.out, HT.out.flip hbl HQ.out hk _ HX2.out, HBw.out.setCell hgw _, by simpa using hgl⟩
          case measure => simp [intOf]; omega
        · have HQ : Hid (176 ≤ at_ + m) := by unfold Hid; omega
          go_wp2_with fail
          go_roundw
          case rel => exact ⟨m + 1, b, by omega, by go_num, HY.out, HT.out.skip (.inr HQ.out), HBw.out, hgl⟩
          case measure => simp [intOf]; omega
      · have HQ : Hid (burst / 2 ^ m % 2 ≠ 1) := by rw [Hq.out]; exact hbit
        go_wp2_with fail
        all_goals go_roundw
        case rel => exact ⟨m + 1, b, by omega, by go_num, HY.out, HT.out.skip (.inl HQ.out), HBw.out, hgl⟩
        case measure => simp [intOf]; omega
    · obtain rfl : m = 32 := by omega
      obtain ⟨tx, Htx⟩ : ∃ t, Hid (bA b = t) := ⟨_, rfl⟩
      have HTl : Hid (tx.data.toList = b) := by unfold Hid; rw [← Htx.out, bA_list]
      have hcb := run_convert_bytes_back (P := Tryd.prog) wr 54 9 5 ⟨g, 0, none⟩ cap b Tryd.underlying54 Tryd.underlying5 Tryd.underlying9 (fun j hj => by rw [addrAdd]; exact HY.out.bytes j hj)
      have hcb2 : (convert 54 9 (.slice (some ⟨g, 0, none⟩) 22 cap)).run Tryd.prog wr = .ok (.string tx) wr := by rw [← Htx.out, ← hbl]; exact hcb
      clear hcb
      by_cases hne : b = s.data.toList
      · have heq : (tx.toList == s.toList) = true := by rw [ByteArray.toList_eq, ByteArray.toList_eq, HTl.out, hne]; simp
        go_wp2_with fail
        go_ret
        exact ⟨rfl, HBw.out⟩
      · have heq : (tx.toList == s.toList) = false := by rw [ByteArray.toList_eq, ByteArray.toList_eq, HTl.out]; simpa using hne
        have H7 : Hid (codeF tx.data.toList = 7) := by rw [HTl.out]; exact HT.out.seen hsz hbl HWs.out hne
        have HD0 : Hid (decF tx.data.toList = FN.zero) := by unfold Hid decF; rw [H7.out, if_neg (by decide)]
        go_wp2_with fail
        refine (decode_any A tx wr (HE.out.later HBw.out)).mono ?_
        rw [H7.out, HD0.out]
        rintro e w4 ⟨rfl, hb4⟩
        have HB4 := hid (HBw.out.trans (hb4.mono HBw.out.size))
        clear hb4
        rw [show FN.zero.val = .agg zeroFr from rfl]
        obtain ⟨V, HV⟩ : ∃ X, Hid (w4.alloc (.cells zeroFr 88) = X) := ⟨_, rfl⟩
        have HVF : Hid (V.heap[w4.heap.size]? = some (.cells zeroFr 88 (0, 0))) := by rw [← HV.out]; exact heap_alloc_new w4 _
        have HBV : Hid (Below w.heap.size w V) := by rw [← HV.out]; exact HB4.out.alloc HB4.out.size _
        go_wp2_with fail
        rw [HV.out]
        refine (coded_ev A 7 V (HE.out.later HBV.out) (by omega)).mono ?_
        rintro e w5 ⟨rfl, hb5⟩
        have HB5 := hid (HBV.out.trans (hb5.mono HBV.out.size))
        obtain ⟨z0, z1, z2, z3, z4, z5, z6, z7, z8⟩ := nine (f := 0) (t := 0) (d := 0) (k := 0) (a := 0) (y := false) (ph := 0) (pr := 0) (pa := 0) ((hb5.block _ (row_ltJ HVF.out)).trans HVF.out)
        clear hb5
        go_wp2_with fail
        go_ret
        exact ⟨rfl, HB5.out⟩
set_option maxHeartbeats 2000000 in
set_option maxRecDepth 100000 in
theorem burst_zero (A : Nat → Addr) (f t d k a : Int) (y : Bool) (ph pr pa : Int) (at_ burst : Int) (w : World) (hE : Held9 w A) (hb : burst = 0 ∨ at_ < 0 ∨ 176 ≤ at_) :
    Calls Tryd.prog 14 #[frV f t d k a y ph pr pa, .int .i64 at_, .int .u32 burst] w fun e w' => e = .returned (.bool true) ∧ Below w.heap.size w w' := by
  obtain ⟨W, HW⟩ : ∃ W, Hid (w.alloc (.cells #[.int .i64 f, .int .i64 t, .int .i64 d, .int .i64 k, .int .i64 a, .bool y, .int .i64 ph, .int .i64 pr, .int .i64 pa] 88) = W) := ⟨_, rfl⟩
  have HB : Hid (Below w.heap.size w W) := by rw [← HW.out]; exact (Below.refl _ _).alloc (Nat.le_refl _) _
  have HE := hid hE
  clear hE
  by_cases h0 : burst = 0
  · subst h0
    go_enter Tryd.func14, Tryd.ntmps14
    go_wp2_with fail
    rw [HW.out]
    refine (framed_any A W (HE.out.later HB.out)).mono ?_
    rintro e w1 ⟨rfl, hb1⟩
    have HB1 := hid (HB.out.trans (hb1.mono HB.out.size))
    clear hb1
    go_wp2_with fail
    go_ret
    exact ⟨rfl, HB1.out⟩
  · have hbz : (burst == 0) = false := by simpa using h0
    by_cases h1 : at_ < 0
    · go_enter Tryd.func14, Tryd.ntmps14
      go_wp2_with fail
      rw [HW.out]
      refine (framed_any A W (HE.out.later HB.out)).mono ?_
      rintro e w1 ⟨rfl, hb1⟩
      have HB1 := hid (HB.out.trans (hb1.mono HB.out.size))
      clear hb1
      go_wp2_with fail
      go_ret
      exact ⟨rfl, HB1.out⟩
    · have h2 : 176 ≤ at_ := by omega
      clear hb
      go_enter Tryd.func14, Tryd.ntmps14
      go_wp2_with fail
      rw [HW.out]
      refine (framed_any A W (HE.out.later HB.out)).mono ?_
      rintro e w1 ⟨rfl, hb1⟩
      have HB1 := hid (HB.out.trans (hb1.mono HB.out.size))
      clear hb1
      go_wp2_with fail
      go_ret
      exact ⟨rfl, HB1.out⟩
set_option maxHeartbeats 2000000 in
set_option maxRecDepth 100000 in
theorem burst_bad (A : Nat → Addr) (f t d k a : Int) (y : Bool) (ph pr pa : Int) (at_ burst : Int) (w : World) (hE : Held9 w A) (hk : ¬ frOk f t d k a ph pr pa) (h0 : burst ≠ 0) (h1 : ¬ at_ < 0) (h2 : ¬ 176 ≤ at_) :
    Calls Tryd.prog 14 #[frV f t d k a y ph pr pa, .int .i64 at_, .int .u32 burst] w fun e w' => e = .returned (.bool true) ∧ Below w.heap.size w w' := by
  obtain ⟨W, HW⟩ : ∃ W, Hid (w.alloc (.cells #[.int .i64 f, .int .i64 t, .int .i64 d, .int .i64 k, .int .i64 a, .bool y, .int .i64 ph, .int .i64 pr, .int .i64 pa] 88) = W) := ⟨_, rfl⟩
  have HB : Hid (Below w.heap.size w W) := by rw [← HW.out]; exact (Below.refl _ _).alloc (Nat.le_refl _) _
  have HR : Hid (W.heap[w.heap.size]? = some (.cells #[.int .i64 f, .int .i64 t, .int .i64 d, .int .i64 k, .int .i64 a, .bool y, .int .i64 ph, .int .i64 pr, .int .i64 pa] 88 (0, 0))) := by rw [← HW.out]; exact heap_alloc_new w _
  have HE := hid hE
  have HK := hid hk
  clear hE hk
  have hbz : (burst == 0) = false := by simpa using h0
  go_enter Tryd.func14, Tryd.ntmps14
  go_wp2_with fail
  rw [HW.out]
  refine (framed_any A W (HE.out.later HB.out)).mono ?_
  rintro e w1 ⟨rfl, hb1⟩
  have HB1 := hid (HB.out.trans (hb1.mono HB.out.size))
  obtain ⟨q0, q1, q2, q3, q4, q5, q6, q7, q8⟩ := nine ((hb1.block _ (row_ltJ HR.out)).trans HR.out)
  clear hb1
  go_wp2_with fail
  refine (encode_bad A f t d k a y ph pr pa w1 (HE.out.later HB1.out) HK.out).mono ?_
  rintro e w2 ⟨rfl, hb2⟩
  have HB2 := hid (HB1.out.trans (hb2.mono HB1.out.size))
  clear hb2
  unfold ev
  go_wp2_with fail
  go_ret
  exact ⟨rfl, HB2.out⟩
/-- The law, at every frame, place and burst. -/
theorem burst_any (A : Nat → Addr) (f t d k a : Int) (y : Bool) (ph pr pa : Int) (at_ burst : Int) (w : World) (hE : Held9 w A) (hb : 0 ≤ burst ∧ burst < 4294967296) :
    Calls Tryd.prog 14 #[frV f t d k a y ph pr pa, .int .i64 at_, .int .u32 burst] w fun e w' => e = .returned (.bool true) ∧ Below w.heap.size w w' := by
  by_cases h0 : burst = 0 ∨ at_ < 0 ∨ 176 ≤ at_
  · exact burst_zero A f t d k a y ph pr pa at_ burst w hE h0
  · by_cases hk : frOk f t d k a ph pr pa
    · obtain ⟨k1, k2, k3, k4, k5, k6, k7, k8⟩ := hk
      obtain ⟨f', rfl⟩ := Int.eq_ofNat_of_zero_le k1.1
      obtain ⟨t', rfl⟩ := Int.eq_ofNat_of_zero_le k2.1
      obtain ⟨d', rfl⟩ := Int.eq_ofNat_of_zero_le k3.1
      obtain ⟨k', rfl⟩ := Int.eq_ofNat_of_zero_le (show 0 ≤ k by omega)
      obtain ⟨a', rfl⟩ := Int.eq_ofNat_of_zero_le k5.1
      obtain ⟨ph', rfl⟩ := Int.eq_ofNat_of_zero_le k6.1
      obtain ⟨pr', rfl⟩ := Int.eq_ofNat_of_zero_le k7.1
      obtain ⟨pa', rfl⟩ := Int.eq_ofNat_of_zero_le k8.1
      obtain ⟨at', rfl⟩ := Int.eq_ofNat_of_zero_le (show 0 ≤ at_ by omega)
      obtain ⟨bu', rfl⟩ := Int.eq_ofNat_of_zero_le hb.1
      exact burst_ok A f' t' d' k' a' y ph' pr' pa' at' bu' w hE (by unfold FN.ok; simp only; omega) (by omega) (by omega) (by omega)
    · exact burst_bad A f t d k a y ph pr pa at_ burst w hE hk (by omega) (by omega) (by omega)
end Go.Proofs.YtkbbjkiinpimiaaDoor
