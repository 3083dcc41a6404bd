/-
  THE WALK of the law PlateActs: bytes that a plate holds: act by act.
-/
import Derived.Test.YtkbbjkiinpimiaaDoorPO
namespace Go.Proofs.YtkbbjkiinpimiaaDoor
open Go.RowKit

/-- The acts xs lie behind the address. -/
def ActsIn (w : World) (ad : Option Addr) (xs : List Act4) : Prop := ∀ i (h : i < xs.length), ∃ b off, ad = some ⟨b, off, none⟩ ∧ w.cell? ⟨b, off + i * 4, none⟩ = some (.string (xs[i]'h).kind) ∧ w.cell? ⟨b, off + i * 4 + 1, none⟩ = some (.string (xs[i]'h).b) ∧
    w.cell? ⟨b, off + i * 4 + 2, none⟩ = some (.int .i64 (xs[i]'h).at_) ∧ w.cell? ⟨b, off + i * 4 + 3, none⟩ = some (.int .i64 (xs[i]'h).n) ∧ (xs[i]'h).n ≤ 9223372036854775807 ∧ (xs[i]'h).b.size ≤ 9223372036854775807
theorem pfrom_any (s : ByteArray) (w : World) (h : s.size ≤ 512) :
    Calls Tryd.prog 35 #[.string s] w fun e w' => ∃ p q, e = .returned (.tuple #[.pointer (some ⟨p, 0, none⟩), .nilIface]) ∧ Pl w' p q s (-1) ∧ Below w.heap.size w w' ∧ w.heap.size ≤ p ∧ w.heap.size ≤ q := by
  refine (pfrom_ok s w h).mono ?_
  rintro e w' ⟨rfl, h1, h2, _⟩
  exact ⟨_, _, rfl, h1, h2, by omega, Nat.le_refl _⟩
theorem pi_start {w0 w : World} {A : Nat → Addr} {p q : Nat} {s : ByteArray} (hb : Below w0.heap.size w0 w) (h : Pl w p q s (-1)) (hs : s.size ≤ 100) (hp : w0.heap.size ≤ p) (hq : w0.heap.size ≤ q) :
    PI w0 (w.alloc (.cells #[.string s, .bool false, .int .i64 0, .bool false] 58)) A p q w.heap.size s (-1) false 0 false := by
  have hb2 : Below w.heap.size w (w.alloc (.cells #[.string s, .bool false, .int .i64 0, .bool false] 58)) := (Below.refl _ _).alloc (Nat.le_refl _) _
  have h1 := row_lt h.head
  have h2 := row_lt h.row
  exact ⟨hb.trans (hb2.mono hb.size), h.kept (S := fun _ => False) (Kept.of_below hb2) (fun x => x) (fun x => x), heap_alloc_new w _, .inr (.inl ⟨rfl, rfl, rfl⟩), by omega, hp, hq, hb.size, by omega, by omega⟩
theorem coded_ye (A : Nat → Addr) (c : Nat) (n : Int) (w : World) (hE : Held9 w A) (hc : c < 9) (hn : n = (c : Int) + 1) :
    Calls Tryd.prog 17 #[.iface 107 (.pointer (some (A c))), .int .i64 n] w fun e w' => e = .returned (.bool true) ∧ Below w.heap.size w w' := by
  have h := coded_at A c n w hE hc
  rw [show ((c : Int) + 1 == n) = true by rw [hn]; simp] at h
  exact h

set_option maxRecDepth 100000 in
set_option maxHeartbeats 4000000 in
/-- Bytes that a plate holds: act by act. -/
theorem acts_small (A : Nat → Addr) (s : ByteArray) (size : Int) (ad : Option Addr) (cap : Nat) (xs : List Act4) (w : World) (hE : Held9 w A) (hx : ActsIn w ad xs) (hl : xs.length ≤ 60) (h : s.size ≤ 100) :
    Calls Tryd.prog 8 #[.string s, .int .i64 size, .slice ad xs.length cap] w fun e w' => e = .returned (.bool true) ∧ Below w.heap.size w w' := by
  have HE := hid hE
  obtain ⟨bad, HB⟩ : ∃ bad : Bool, Hid (bad = decide (size < 0 ∨ 512 < size)) := ⟨_, rfl⟩
  have HX := hid hx
  clear hE hx
  go_enter Tryd.func8, Tryd.ntmps8
  go_upto_region 5 with (first | (go_at_call 32; refine (plated_any A _ HE.out.toE).mono ?_; rintro e w1 ⟨rfl, hb1⟩; have HE1 := hid (HE.out.later hb1)) | (go_at_call 33; refine (pnew_any A size _ HE1.out.toE).mono ?_; rintro e w2 ⟨xv, er, rfl, hN, hb2⟩; have HN := hid hN; have hB2 := hid (hb1.trans (hb2.mono hb1.size)); have HE2 := hid (HE.out.later hB2.out); clear hN))
  go_cut [51] from 17 (fun s51 wx => s51 = .bool bad ∧ w2 = wx)
  case first =>
    by_cases g1 : size < 0
    · go_wp2
      go_meet
      exact ⟨congrArg Value.bool (by rw [HB.out]; exact (decide_eq_true (Or.inl g1)).symm), rfl⟩
    · go_wp2
      go_meet
      exact ⟨congrArg Value.bool (by rw [HB.out]; exact decide_eq_decide.2 (by omega)), rfl⟩
  case rest =>
    obtain ⟨rfl, rfl⟩ := hcut
    go_upto_if 51 with fail
    go_cut [8] from 17 (fun s8 wx => s8 = xv ∧ Below w.heap.size w wx)
    case first =>
      rcases HN.out with ⟨g, rfl, rfl⟩ | ⟨g, rfl, rfl, hP⟩
      · have hbad : bad = true := by rw [HB.out]; simpa using g
        subst hbad
        go_wp2_with (go_at_call 17; refine (coded_ev A 2 _ HE2.out (by decide)).mono ?_; rintro e w3 ⟨rfl, hb3⟩)
        go_meet
        exact ⟨rfl, hB2.out.trans (hb3.mono hB2.out.size)⟩
      · have hbad : bad = false := by rw [HB.out]; simpa using g
        subst hbad
        obtain ⟨m, rfl⟩ : ∃ m : Nat, size = m := ⟨size.toNat, by omega⟩
        have HP : Hid (Pl w2 (w1.heap.size + 1) w1.heap.size (zeroB m) (-1)) := hid (by simpa using hP)
        have hmk := mkB m (by omega)
        have HP3 : Hid (∀ o, Pl (w2.alloc o) (w1.heap.size + 1) w1.heap.size (zeroB m) (-1)) := fun o => HP.out.kept (S := fun _ => False) (Kept.of_below ((Below.refl _ _).alloc (Nat.le_refl _) o)) (fun x => x) (fun x => x)
        have hcv := conv_row (w := w2.alloc (.cells (cellsB (zeroB m)) 5)) (heap_alloc_new w2 _)
        have hcv2 := conv_row (w := (w2.alloc (.cells (cellsB (zeroB m)) 5)).drew) (heap_alloc_new w2 _)
        have hzz : ((zeroB m).toList == (zeroB m).toList) = true := by simp
        clear hP
        go_wp2_with fail
        go_region_held (fun _ => True) (go_keep) ((go_at_call 34; refine (pbytes_any (w1.heap.size + 1) w1.heap.size (zeroB m) (-1) _ (by first | exact HP.out | exact HP.out.drew | exact (HP3.out _).drew | exact HP3.out _)).mono ?_; rintro e wx ⟨rfl, hx⟩; subst wx))
        all_goals go_wp2_with fail
        all_goals go_meet
        all_goals exact ⟨rfl, by first | exact (hB2.out.alloc hB2.out.size _).drew | exact hB2.out.alloc hB2.out.size _⟩
    case rest =>
      obtain ⟨rfl, hB3⟩ := hcut
      go_wp2_with (go_at_call 35; refine (pfrom_any s _ (by omega)).mono ?_; rintro e w4 ⟨p, q, rfl, hP4, hb4, hp4, hq4⟩; have HS := hid (pi_start (A := A) (hB3.trans (hb4.mono hB3.size)) hP4 h (Nat.le_trans hB3.size hp4) (Nat.le_trans hB3.size hq4)); clear hP4 hp4 hq4)
      go_loopw [12] (fun i wr => ∃ (k : Nat) (B : ByteArray) (l : Int) (off : Bool) (l' : Int) (cuts : Bool), k ≤ xs.length ∧ i = .int .i64 k ∧ PI w wr A p q w4.heap.size B l off l' cuts) (fun i _ => xs.length - (intOf i).toNat)
      case atStart => exact ⟨0, _, _, _, _, _, Nat.zero_le _, rfl, HS.out⟩
      case round =>
        obtain ⟨k, B, l, off, l', cuts, hk, rfl, hI⟩ := hrel
        have HI := hid hI
        clear hI
        by_cases hlt : k < xs.length
        · obtain ⟨b, o, rfl, y0, y1, y2, y3, hn9, hb9⟩ := HX.out k hlt
          replace y0 := cell_later HI.out.bel y0
          replace y1 := cell_later HI.out.bel y1
          replace y2 := cell_later HI.out.bel y2
          replace y3 := cell_later HI.out.bel y3
          generalize (xs[k]'hlt).kind = K at y0
          generalize (xs[k]'hlt).b = S at y1 hb9
          generalize (xs[k]'hlt).at_ = a at y2
          generalize (xs[k]'hlt).n = n at y3 hn9
          obtain ⟨lp, lq, lr⟩ := HI.out.lts
          have HI1 := hid (HI.out.alloc (.cells #[.string K, .string S, .int .i64 a, .int .i64 n] 60))
          have HE1 := hid (HE.out.later HI1.out.bel)
          have H5 := hid (cell_lt HE.out.toE.g5)
          have P0 := hid HI.out.p0
          have Q0 := hid HI.out.q0
          by_cases hS : 200 < S.size
          · go_wp2
            go_ret
            exact ⟨rfl, HI1.out.bel⟩
          rcases k1 : (K.toList == [114, 101, 97, 100]) with _ | _
          rotate_left
          · -- read
            rcases hc : rC B l a n with _ | c
            · obtain ⟨r1, r2, r3, r4⟩ := rC_zero hc
              have HZ : Hid ((rC B l a n : Int) = 0) := by unfold Hid; rw [hc]; rfl
              have HL := hid r4
              clear hc r4
              obtain ⟨a', rfl⟩ : ∃ a' : Nat, a = a' := ⟨a.toNat, by omega⟩
              obtain ⟨n', rfl⟩ : ∃ n' : Nat, n = n' := ⟨n.toNat, by omega⟩
              have r5 : a' + n' ≤ B.size := by omega
              have rm := HI1.out.rp.c0
              obtain ⟨X, HX1⟩ : ∃ X, Hid (B.extract a' (a' + n') = X) := ⟨_, rfl⟩
              have sz := HI.out.sz
              have hsl : ∀ wx, (Instr.slice 9 (.string B) (some (.int .i64 a')) (some (.int .i64 ((a' : Int) + n'))) none).run Tryd.prog wx = .ok (.string X) wx := fun wx => by
                have := run_slice_string (P := Tryd.prog) (w := wx) 9 B .i64 .i64 a' ((a' : Int) + n') Tryd.underlying9 (by omega) (by omega) (by omega)
                rw [← HX1.out, this]
                congr 3
              have hXX : (X.toList == X.toList) = true := by simp
              clear r1 r2 r3
              go_wp2_with (first | (go_at_call 36; refine (pread_ok A p q B l a' n' _ HI1.out.pl HE1.out.toE sz HL.out r5).mono ?_; rw [HX1.out]; rintro e wx ⟨rfl, hx⟩; subst wx) | (go_at_call 37; refine (err_is w4.heap.size B l _ _ l' off cuts 0 _ HI1.out.rp HI1.out.lk sz HZ.out).mono ?_; rintro e wx ⟨rfl, hx⟩; subst wx))
              go_quiet (fail)
              have HI2 := hid (HI1.out.drewN nq)
              generalize (wr.alloc (.cells #[.string K, .string S, .int .i64 (a' : Int), .int .i64 (n' : Int)] 60)).drewN nq = W2 at HI2 ⊢
              have t0 := HI2.out.rp.c0
              have t1 := HI2.out.rp.c1
              have hBB : (B.toList == B.toList) = true := by simp
              have hno := no_off off
              go_wp2_with fail
              go_quiet ((first | (go_at_call 34; exact Calls.quiet_of_same (pbytes_any p q B l _ (by first | exact HI2.out.pl | exact HI2.out.pl.drew | exact HI2.out.pl.drewN _ | exact (HI2.out.pl.drewN _).drewN _ | exact HI2.out.pl.drew.drewN _))) | (go_at_call 45; exact Calls.quiet_of_same (power_lk p q B l l' off cuts _ (by first | exact HI2.out.pl | exact HI2.out.pl.drew | exact HI2.out.pl.drewN _ | exact (HI2.out.pl.drewN _).drewN _ | exact HI2.out.pl.drew.drewN _) HI2.out.lk))))
              go_wp2
              go_roundw
              case rel => exact ⟨k + 1, B, l, off, l', cuts, by omega, by go_num, by first | exact HI2.out.drewN _ | exact (HI2.out.drewN _).drewN _ | exact HI2.out.drew.drewN _ | exact HI2.out.drew | exact HI2.out⟩
              case measure => simp [intOf]; omega
            · have HC := hid hc
              obtain ⟨m, HM⟩ : ∃ m : Int, Hid ((rC B l a n : Int) = m) := ⟨_, rfl⟩
              have hm0 : 0 < m := by rw [← HM.out, hc]; omega
              have HM2 : Hid (m = (c : Int) + 1) := by unfold Hid; rw [← HM.out, hc]; rfl
              have hc9 : c < 9 := by have := rC_le B l a n; omega
              have sz := HI.out.sz
              clear hc
              go_wp2_with (first | (go_at_call 36; refine (read_bad A p q B l a n c _ HI1.out.pl HE1.out.toE sz hn9 HC.out).mono ?_; rintro e wx ⟨rfl, hx⟩; subst wx) | (go_at_call 37; refine (err_is w4.heap.size B l _ _ l' off cuts m _ HI1.out.rp HI1.out.lk sz HM.out).mono ?_; rintro e wx ⟨rfl, hx⟩; subst wx) | (go_at_call 17; refine (coded_ye A c m _ HE1.out hc9 HM2.out).mono ?_; rintro e w5 ⟨rfl, hb5⟩; have HI5 := hid (HI1.out.later hb5)))
              have t0 := HI5.out.rp.c0
              have t1 := HI5.out.rp.c1
              have hBB : (B.toList == B.toList) = true := by simp
              have hno := no_off off
              go_wp2_with fail
              go_quiet ((first | (go_at_call 34; exact Calls.quiet_of_same (pbytes_any p q B l _ (by first | exact HI5.out.pl | exact HI5.out.pl.drew | exact HI5.out.pl.drewN _ | exact (HI5.out.pl.drewN _).drewN _ | exact HI5.out.pl.drew.drewN _))) | (go_at_call 45; exact Calls.quiet_of_same (power_lk p q B l l' off cuts _ (by first | exact HI5.out.pl | exact HI5.out.pl.drew | exact HI5.out.pl.drewN _ | exact (HI5.out.pl.drewN _).drewN _ | exact HI5.out.pl.drew.drewN _) HI5.out.lk))))
              go_wp2
              go_roundw
              case rel => exact ⟨k + 1, B, l, off, l', cuts, by omega, by go_num, by first | exact HI5.out.drewN _ | exact (HI5.out.drewN _).drewN _ | exact HI5.out.drew.drewN _ | exact HI5.out.drew | exact HI5.out⟩
              case measure => simp [intOf]; omega
          · rcases k2 : (K.toList == [119, 114, 105, 116, 101]) with _ | _
            rotate_left
            · -- write
              obtain ⟨c, HC⟩ : ∃ c, Hid (wC B S l a = c) := ⟨_, rfl⟩
              obtain ⟨B2, HB2⟩ : ∃ B2, Hid (wB B S l a = B2) := ⟨_, rfl⟩
              obtain ⟨l2, HL2⟩ : ∃ l2, Hid (wL B S l a = l2) := ⟨_, rfl⟩
              have hc9 : c ≤ 9 := by rw [← HC.out]; exact wC_le _ _ _ _
              have sz := HI.out.sz
              have sz2 : B2.size ≤ 1000 := by rw [← HB2.out, wB_size]; exact sz
              have a1 : (wr.alloc (.cells #[.string K, .string S, .int .i64 a, .int .i64 n] 60)).cell? ⟨wr.heap.size, 1, none⟩ = some (.string S) := by simp
              have a2 : (wr.alloc (.cells #[.string K, .string S, .int .i64 a, .int .i64 n] 60)).cell? ⟨wr.heap.size, 2, none⟩ = some (.int .i64 a) := by simp
              have A1 := hid a1
              have A2 := hid a2
              clear a1 a2
              go_wp2_with fail
              go_region_held3 (fun W => W.cell? ⟨wr.heap.size, 1, none⟩ = some (.string S) ∧ W.cell? ⟨wr.heap.size, 2, none⟩ = some (.int .i64 a)) (go_keep) (first | (go_at_call 38; refine (write_pl A p q B S l a _ HI1.out.drew.pl (HE.out.later HI1.out.drew.bel).toE sz (by omega) HI1.out.lk.ge HI1.out.lk.le (by have := H5.out; have := P0.out; omega) (by have := H5.out; have := Q0.out; omega)).mono ?_; rw [HC.out, HB2.out, HL2.out]; rintro e w5 ⟨rfl, hP5, hK5⟩; have z1 := hK5.cell A1.out (fun g => by unfold In2 at g; dsimp only at g; omega); have z2 := hK5.cell A2.out (fun g => by unfold In2 at g; dsimp only at g; omega); have HP5 := hid hP5; have HK5 := hid hK5; have HR5 := hid (HI1.out.drew.plate hK5).2; clear hP5 hK5) | (go_at_call 39; refine (write_rp w4.heap.size B S l a l' off cuts _ HR5.out HI1.out.lk sz).mono ?_; rw [HC.out, HB2.out, HL2.out]; rintro e w6 ⟨rfl, ⟨off2, l2', cuts2, hR6, hk6⟩, hK6⟩; have z3 := hK6.cell z1 (fun g => by unfold In1 at g; dsimp only at g; omega); have z4 := hK6.cell z2 (fun g => by unfold In1 at g; dsimp only at g; omega); have HI6 := hid (HI1.out.drew.both HP5.out HK5.out hR6 hk6 hK6 sz2); clear hR6 hK6 hk6) | (go_at_call 17; refine (coded_ev A c _ (HE.out.later HI6.out.bel) hc9).mono ?_; rintro e w7 ⟨rfl, hb7⟩; have z5 := cell_later hb7 z3; have z6 := cell_later hb7 z4; have HI7 := hid (HI6.out.later hb7); clear hb7))
              have t0 := HI7.out.rp.c0
              have t1 := HI7.out.rp.c1
              have hBB : (B2.toList == B2.toList) = true := by simp
              have hno := no_off off2
              go_wp2_with fail
              go_quiet ((first | (go_at_call 34; exact Calls.quiet_of_same (pbytes_any p q B2 l2 _ (by first | exact HI7.out.pl | exact HI7.out.pl.drew | exact HI7.out.pl.drewN _ | exact (HI7.out.pl.drewN _).drewN _ | exact HI7.out.pl.drew.drewN _))) | (go_at_call 45; exact Calls.quiet_of_same (power_lk p q B2 l2 l2' off2 cuts2 _ (by first | exact HI7.out.pl | exact HI7.out.pl.drew | exact HI7.out.pl.drewN _ | exact (HI7.out.pl.drewN _).drewN _ | exact HI7.out.pl.drew.drewN _) HI7.out.lk))))
              go_wp2
              go_roundw
              case rel => exact ⟨k + 1, B2, l2, off2, l2', cuts2, by omega, by go_num, by first | exact HI7.out.drewN _ | exact (HI7.out.drewN _).drewN _ | exact HI7.out.drew.drewN _ | exact HI7.out.drew | exact HI7.out⟩
              case measure => simp [intOf]; omega
            · rcases k3 : (K.toList == [99, 117, 116]) with _ | _
              rotate_left
              · -- cut
                obtain ⟨c, HC⟩ : ∃ c, Hid (cC l n = c) := ⟨_, rfl⟩
                obtain ⟨l2, HL2⟩ : ∃ l2, Hid (cL l n = l2) := ⟨_, rfl⟩
                have hc9 : c ≤ 9 := by rw [← HC.out]; exact cC_le _ _
                have sz := HI.out.sz
                have a3 : (wr.alloc (.cells #[.string K, .string S, .int .i64 a, .int .i64 n] 60)).cell? ⟨wr.heap.size, 3, none⟩ = some (.int .i64 n) := by simp
                have A3 := hid a3
                clear a3
                go_wp2_with fail
                go_region_held3 (fun W => W.cell? ⟨wr.heap.size, 3, none⟩ = some (.int .i64 n)) (go_keep) (first | (go_at_call 40; refine (cut_pl A p q B l n _ HI1.out.drew.pl (HE.out.later HI1.out.drew.bel).toE).mono ?_; rw [HC.out, HL2.out]; rintro e w5 ⟨rfl, hP5, hK5⟩; have z1 := hK5.cell A3.out (fun g => by unfold In2 at g; dsimp only at g; omega); have HP5 := hid hP5; have HK5 := hid hK5; have HR5 := hid (HI1.out.drew.plate hK5).2; clear hP5 hK5) | (go_at_call 41; refine (cut_rp w4.heap.size B l n l' off cuts _ HR5.out HI1.out.lk hn9).mono ?_; rw [HC.out, HL2.out]; rintro e w6 ⟨rfl, ⟨off2, l2', cuts2, hR6, hk6⟩, hK6⟩; have z3 := hK6.cell z1 (fun g => by unfold In1 at g; dsimp only at g; omega); have HI6 := hid (HI1.out.drew.both HP5.out HK5.out hR6 hk6 hK6 sz); clear hR6 hK6 hk6) | (go_at_call 17; refine (coded_ev A c _ (HE.out.later HI6.out.bel) hc9).mono ?_; rintro e w7 ⟨rfl, hb7⟩; have z5 := cell_later hb7 z3; have HI7 := hid (HI6.out.later hb7); clear hb7))
                have t0 := HI7.out.rp.c0
                have t1 := HI7.out.rp.c1
                have hBB : (B.toList == B.toList) = true := by simp
                have hno := no_off off2
                go_wp2_with fail
                go_quiet ((first | (go_at_call 34; exact Calls.quiet_of_same (pbytes_any p q B l2 _ (by first | exact HI7.out.pl | exact HI7.out.pl.drew | exact HI7.out.pl.drewN _ | exact (HI7.out.pl.drewN _).drewN _ | exact HI7.out.pl.drew.drewN _))) | (go_at_call 45; exact Calls.quiet_of_same (power_lk p q B l2 l2' off2 cuts2 _ (by first | exact HI7.out.pl | exact HI7.out.pl.drew | exact HI7.out.pl.drewN _ | exact (HI7.out.pl.drewN _).drewN _ | exact HI7.out.pl.drew.drewN _) HI7.out.lk))))
                go_wp2
                go_roundw
                case rel => exact ⟨k + 1, B, l2, off2, l2', cuts2, by omega, by go_num, by first | exact HI7.out.drewN _ | exact (HI7.out.drewN _).drewN _ | exact HI7.out.drew.drewN _ | exact HI7.out.drew | exact HI7.out⟩
                case measure => simp [intOf]; omega
              · rcases k4 : (K.toList == [111, 110]) with _ | _
                rotate_left
                · -- on
                  go_wp2_with (first | (go_at_call 42; refine (pon_any p q B l _ HI1.out.pl).mono ?_; rintro e w5 ⟨rfl, hP5, hK5⟩; have HP5 := hid hP5; have HK5 := hid hK5; have HR5 := hid (HI1.out.plate hK5).2; clear hP5 hK5) | (go_at_call 43; refine (rpon_any w4.heap.size B off cuts l' _ HR5.out).mono ?_; rintro e w6 ⟨rfl, hR6, hK6⟩; have HI6 := hid (HI1.out.both HP5.out HK5.out hR6 (.inr (.inl ⟨rfl, rfl, rfl⟩)) hK6 HI.out.sz); clear hR6 hK6))
                  have t0 := HI6.out.rp.c0
                  have t1 := HI6.out.rp.c1
                  have hBB : (B.toList == B.toList) = true := by simp
                  have hno := no_off false
                  go_wp2_with fail
                  go_quiet ((first | (go_at_call 34; exact Calls.quiet_of_same (pbytes_any p q B (-1) _ (by first | exact HI6.out.pl | exact HI6.out.pl.drew | exact HI6.out.pl.drewN _ | exact (HI6.out.pl.drewN _).drewN _ | exact HI6.out.pl.drew.drewN _))) | (go_at_call 45; exact Calls.quiet_of_same (power_lk p q B (-1) l' false false _ (by first | exact HI6.out.pl | exact HI6.out.pl.drew | exact HI6.out.pl.drewN _ | exact (HI6.out.pl.drewN _).drewN _ | exact HI6.out.pl.drew.drewN _) HI6.out.lk))))
                  go_wp2
                  go_roundw
                  case rel => exact ⟨k + 1, B, (-1), false, l', false, by omega, by go_num, by first | exact HI6.out.drewN _ | exact (HI6.out.drewN _).drewN _ | exact HI6.out.drew.drewN _ | exact HI6.out.drew | exact HI6.out⟩
                  case measure => simp [intOf]; omega
                · -- off
                  go_wp2_with (go_at_call 44; refine (poff_any p q B l _ HI1.out.pl).mono ?_; rintro e w5 ⟨rfl, hP5, hK5⟩; have HP5 := hid hP5; have HK5 := hid hK5; have HR5 := hid (HI1.out.plate hK5).2; have v1 := HR5.out.c1; have v2 := HR5.out.fz 1; clear hP5 hK5)
                  have HI6 := hid (HI1.out.both HP5.out HK5.out (HR5.out.s1 true) (.inl ⟨rfl, rfl⟩) ((Kept.refl _ _).set1 _ _) HI.out.sz)
                  have t0 := HI6.out.rp.c0
                  have t1 := HI6.out.rp.c1
                  have hBB : (B.toList == B.toList) = true := by simp
                  have hno := no_off true
                  go_wp2_with fail
                  go_quiet ((first | (go_at_call 34; exact Calls.quiet_of_same (pbytes_any p q B (-2) _ (by first | exact HI6.out.pl | exact HI6.out.pl.drew | exact HI6.out.pl.drewN _ | exact (HI6.out.pl.drewN _).drewN _ | exact HI6.out.pl.drew.drewN _))) | (go_at_call 45; exact Calls.quiet_of_same (power_lk p q B (-2) l' true cuts _ (by first | exact HI6.out.pl | exact HI6.out.pl.drew | exact HI6.out.pl.drewN _ | exact (HI6.out.pl.drewN _).drewN _ | exact HI6.out.pl.drew.drewN _) HI6.out.lk))))
                  go_wp2
                  go_roundw
                  case rel => exact ⟨k + 1, B, (-2), true, l', cuts, by omega, by go_num, by first | exact HI6.out.drewN _ | exact (HI6.out.drewN _).drewN _ | exact HI6.out.drew.drewN _ | exact HI6.out.drew | exact HI6.out⟩
                  case measure => simp [intOf]; omega
        · go_wp2
          go_ret
          exact ⟨rfl, HI.out.bel⟩
end Go.Proofs.YtkbbjkiinpimiaaDoor
