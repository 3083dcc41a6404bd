/-
  WALKS of package weights' needed, Needed, Sum.
-/
import Derived.Test.YtkbbjkiinpimiaaDoorW7
namespace Go.Proofs.YtkbbjkiinpimiaaDoor
open Go.RowKit

theorem quorum1_is (p q : Addr) (zs : List Int) (set : Int) (x : Bool) (w : World) (hl : zs.length ≤ 7) (hok : okTo zs zs.length) (h0 : 0 ≤ set) (h1 : set < 128) (hq : QF w p q zs) (hx : enoughB zs set = x) :
    Calls Tryd.prog 97 #[.int .i64 set, .pointer (some p), .pointer (some q)] w fun e w' => e = .returned (.bool x) ∧ Below w.heap.size w w' := by
  subst hx; exact quorum1_q p q zs set w hl hok h0 h1 hq
theorem neededTo_end {zs : List Int} {s : Int} {p : Nat} (hp : p ≤ zs.length) (hz : ((s.toNat / 2 ^ p * 2 ^ p : Nat) : Int) = 0) : neededTo zs s zs.length = neededTo zs s p := by
  refine neededTo_skip zs s hp (fun i hi _ => ?_)
  have hlt : s.toNat < 2 ^ p := by
    rcases Nat.lt_or_ge s.toNat (2 ^ p) with h | h
    · exact h
    · have h1 : 0 < s.toNat / 2 ^ p := Nat.div_pos h (Nat.two_pow_pos p)
      have h2 : 0 < s.toNat / 2 ^ p * 2 ^ p := Nat.mul_pos h1 (Nat.two_pow_pos p)
      omega
  unfold bit
  exact Nat.testBit_lt_two_pow (Nat.lt_of_lt_of_le hlt (Nat.pow_le_pow_right (by decide) hi))

set_option maxHeartbeats 2000000 in
theorem needed_any (p q : Addr) (zs : List Int) (s : Int) (w : World) (hl : zs.length ≤ 7) (hok : okTo zs zs.length) (h0 : 0 ≤ s) (h1 : s < 2 ^ zs.length) (hQ : QF w p q zs) :
    Calls Tryd.prog 68 #[.func (.func 97) #[] #[.pointer (some p), .pointer (some q)], .int .i64 s] w fun e w' => e = .returned (.int .i64 (neededN zs s)) ∧ Below w.heap.size w w' := by
  have HO := hid hok
  clear hok
  have hp := pow_le7 hl
  have hs : s < 128 := by omega
  cases hen : enoughB zs s with
  | false =>
    have hN : neededN zs s = 0 := by unfold neededN; rw [hen]; rfl
    rw [hN]
    have HX := hid hen
    clear hen hN
    go_enter Tryd.func68, Tryd.ntmps68
    go_wp2_with (go_at_call 97; refine (quorum1_is p q zs s false _ hl HO.out h0 hs hQ HX.out).mono ?_; rintro e w1 ⟨rfl, hb1⟩)
    go_ret
    exact ⟨rfl, hb1⟩
  | true =>
    have hN : Hid (neededN zs s = neededTo zs s zs.length) := by unfold Hid neededN; rw [hen]; rfl
    have HX := hid hen
    have hm : Hid (((s.toNat : Nat) : Int) = s) := Int.toNat_of_nonneg h0
    clear hen
    go_enter Tryd.func68, Tryd.ntmps68
    go_wp2_with (go_at_call 97; refine (quorum1_is p q zs s true _ hl HO.out h0 hs hQ HX.out).mono ?_; rintro e w1 ⟨rfl, hb1⟩)
    go_loopw [5, 6] (fun x r wr => ∃ k : Nat, k ≤ zs.length ∧ (∃ rest : Int, r = .int .i64 rest ∧ Hid (rest = ((s.toNat / 2 ^ k * 2 ^ k : Nat) : Int))) ∧ x = .int .i64 (neededTo zs s k) ∧ Below w.heap.size w wr) (fun _ r _ => (intOf r).toNat)
    case atStart => exact ⟨0, Nat.zero_le _, ⟨s, rfl, by unfold Hid; rw [Nat.pow_zero, Nat.div_one, Nat.mul_one]; exact hm.out.symm⟩, rfl, hb1⟩
    case round =>
      obtain ⟨k, hk, ⟨rest, rfl, hrest⟩, rfl, hnx⟩ := hrel
      by_cases hz : rest = 0
      · have hz' : (rest != 0) = false := by simp [hz]
        have hE := hid (neededTo_end hk (hrest.out.symm.trans hz))
        clear hz
        go_wp2_with fail
        go_ret
        exact ⟨ret_int (by rw [hN.out, hE.out]), hnx⟩
      · have hz' : (rest != 0) = true := by simp [hz]
        obtain ⟨b, hkb, hb7, e1, e2, e3, e4, e6, e5⟩ := low (s := s.toNat) (p := k) (by have := hm.out; omega) (by omega) (by rw [← hrest.out]; exact hz)
        rw [← hrest.out] at e1 e2
        rw [hm.out] at e3 e4 e5
        have hge := bit_pow_le h0 e4
        have hbn : b < zs.length := pow_lt_pow (by omega)
        have hr0 : 0 ≤ rest := by have := hrest.out; omega
        have hr1 : rest < 128 := by
          have h2 := hrest.out
          have h3 : s.toNat / 2 ^ k * 2 ^ k ≤ s.toNat := Nat.div_mul_le_self _ _
          have h4 := hm.out
          omega
        have hpb := pow_le7 (n := b) (by omega)
        have hSk := hid (neededTo_skip zs s hkb e5)
        have hS : Hid (neededTo zs s (b + 1) = neededTo zs s b + if bit s b && !enoughB zs (s - 2 ^ b) then 2 ^ b else 0) := rfl
        rw [e4] at hS
        have hbd := neededTo_bd zs s b
        have hor := or_pow hb7 hbd.1 hbd.2
        rw [hSk.out] at hor hS hbd
        generalize hr' : ((s.toNat / 2 ^ (b + 1) * 2 ^ (b + 1) : Nat) : Int) = rest' at e2
        have hR' : Hid (rest' = ((s.toNat / 2 ^ (b + 1) * 2 ^ (b + 1) : Nat) : Int)) := hr'.symm
        have hdec : Hid (rest'.toNat < rest.toNat) := by
          unfold Hid
          rw [hR'.out, hrest.out]
          omega
        have hQ' := hQ.later hnx
        clear hr' e4 e5 e6 hz hrest
        cases hy : enoughB zs (s - 2 ^ b) with
        | true =>
          rw [hy] at hS
          have HY := hid hy
          clear hy
          go_wp2_with (go_at_call 97; refine (quorum1_is p q zs (s - 2 ^ b) true _ hl HO.out (by omega) (by omega) hQ' HY.out).mono ?_; rintro e w2 ⟨rfl, hb2⟩)
          go_roundw
          case rel => exact ⟨b + 1, hbn, ⟨rest', rfl, hR'⟩, val_int (by rw [hS.out]; simp), below_trans hnx hb2⟩
          case measure => exact hdec.out
        | false =>
          rw [hy] at hS
          have HY := hid hy
          clear hy
          go_wp2_with (go_at_call 97; refine (quorum1_is p q zs (s - 2 ^ b) false _ hl HO.out (by omega) (by omega) hQ' HY.out).mono ?_; rintro e w2 ⟨rfl, hb2⟩)
          go_roundw
          case rel => exact ⟨b + 1, hbn, ⟨rest', rfl, hR'⟩, val_int (by rw [hS.out]; simp), below_trans hnx hb2⟩
          case measure => exact hdec.out

/-- Needed and Sum, a set or weights that are not well: 0 and the error. -/
theorem wneeded_bad (A : Nat → Addr) (v : Value) (zs : List Int) (set : Int) (c : Nat) (w : World) (hv : IsSl w v zs) (hE : Held3 w A) (hc : errS zs set = c + 1) :
    Calls Tryd.prog 23 #[v, .int .i64 set] w fun e w' => e = .returned (.tuple #[.int .i64 0, .iface 107 (.pointer (some (A c)))]) ∧ w' = w := by
  have hck := checkSet_any A v zs set w hv hE
  rw [hc] at hck
  have H : Hid (Calls Tryd.prog 65 #[v, .int .i64 set] w fun e w' => e = .returned (.iface 107 (.pointer (some (A c)))) ∧ w' = w) := hck
  clear hck hE hc
  obtain ⟨a, cap, rfl, -, -, -⟩ := hv
  go_enter Tryd.func23, Tryd.ntmps23
  go_wp2_with (go_at_call 65; refine H.out.mono ?_; rintro e w' ⟨rfl, rfl⟩)
  go_ret2
  exact ⟨rfl, rfl⟩
theorem wsum_bad (A : Nat → Addr) (v : Value) (zs : List Int) (set : Int) (c : Nat) (w : World) (hv : IsSl w v zs) (hE : Held3 w A) (hc : errS zs set = c + 1) :
    Calls Tryd.prog 20 #[v, .int .i64 set] w fun e w' => e = .returned (.tuple #[.int .i64 0, .iface 107 (.pointer (some (A c)))]) ∧ w' = w := by
  have hck := checkSet_any A v zs set w hv hE
  rw [hc] at hck
  have H : Hid (Calls Tryd.prog 65 #[v, .int .i64 set] w fun e w' => e = .returned (.iface 107 (.pointer (some (A c)))) ∧ w' = w) := hck
  clear hck hE hc
  obtain ⟨a, cap, rfl, -, -, -⟩ := hv
  go_enter Tryd.func20, Tryd.ntmps20
  go_wp2_with (go_at_call 65; refine H.out.mono ?_; rintro e w' ⟨rfl, rfl⟩)
  go_ret2
  exact ⟨rfl, rfl⟩
theorem wneeded_ok (A : Nat → Addr) (v : Value) (zs : List Int) (set : Int) (w : World) (hv : IsSl w v zs) (hE : Held3 w A) (hc : errS zs set = 0) :
    Calls Tryd.prog 23 #[v, .int .i64 set] w fun e w' => e = .returned (.tuple #[.int .i64 (neededN zs set), .nilIface]) ∧ Below w.heap.size w w' := by
  have hck := checkSet_any A v zs set w hv hE
  rw [hc] at hck
  have H : Hid (Calls Tryd.prog 65 #[v, .int .i64 set] w fun e w' => e = .returned .nilIface ∧ w' = w) := hck
  obtain ⟨h1, h2, h3⟩ := errS_zero hc
  obtain ⟨h4, h5, h6, -⟩ := errW_zero h1
  clear hck hE hc
  obtain ⟨a, cap, rfl, -, -, hcc⟩ := hv
  obtain ⟨b, off, rfl, hcell⟩ := hcc (by omega)
  clear hcc
  have HC := hid hcell
  clear hcell h1
  go_enter Tryd.func23, Tryd.ntmps23
  go_wp2_with (first | (go_at_call 65; refine H.out.mono ?_; rintro e w' ⟨rfl, rfl⟩) | (go_at_call 67; refine (quorum_q b off cap zs _ h5 h6 HC.out).mono ?_; rintro e w1 ⟨p, q, rfl, hQ, hb⟩) | (go_at_call 68; refine (needed_any p q zs set _ h5 h6 h2 h3 hQ).mono ?_; rintro e w2 ⟨rfl, hb2⟩))
  go_ret2
  exact ⟨rfl, below_trans hb hb2⟩
theorem wsum_ok (A : Nat → Addr) (v : Value) (zs : List Int) (set : Int) (w : World) (hv : IsSl w v zs) (hE : Held3 w A) (hc : errS zs set = 0) :
    Calls Tryd.prog 20 #[v, .int .i64 set] w fun e w' => e = .returned (.tuple #[.int .i64 (sumTo zs set zs.length), .nilIface]) ∧ Below w.heap.size w w' := by
  have hck := checkSet_any A v zs set w hv hE
  rw [hc] at hck
  have H : Hid (Calls Tryd.prog 65 #[v, .int .i64 set] w fun e w' => e = .returned .nilIface ∧ w' = w) := hck
  obtain ⟨h1, h2, h3⟩ := errS_zero hc
  obtain ⟨h4, h5, h6, -⟩ := errW_zero h1
  have hp := pow_le7 h5
  clear hck hE hc
  obtain ⟨a, cap, rfl, -, -, hcc⟩ := hv
  obtain ⟨b, off, rfl, hcell⟩ := hcc (by omega)
  clear hcc
  have hb : Below w.heap.size w (w.alloc (.cells #[.slice (some ⟨b, off, none⟩) zs.length cap] 22)) := (Below.refl _ _).alloc (Nat.le_refl _) _
  have HC : Hid (∀ i, i < zs.length → (w.alloc (.cells #[.slice (some ⟨b, off, none⟩) zs.length cap] 22)).cell? ⟨b, off + i, none⟩ = some (.int .i64 (zs.getD i 0))) := fun i hi => cell_later hb (hcell i hi)
  clear hcell h1
  go_enter Tryd.func20, Tryd.ntmps20
  go_wp2_with (first | (go_at_call 65; refine H.out.mono ?_; rintro e w' ⟨rfl, rfl⟩) | (go_at_call 66; refine (scale_any _ _ _ _).mono ?_; rintro e w1 ⟨rfl, rfl⟩) | (go_at_call 96; refine (scale1_any _ b off cap zs set _ h5 h6 h2 (by omega) (by simp) HC.out).mono ?_; rintro e w2 ⟨rfl, rfl⟩))
  go_ret2
  exact ⟨rfl, hb⟩
end Go.Proofs.YtkbbjkiinpimiaaDoor
