/-
  WALKS of package judge: Outcome, Agree.
-/
import Derived.Test.YtadhpkopkkjmfaaDoorEDA
namespace Go.Proofs.YtadhpkopkkjmfaaDoor
open Go.RowKit


/-- The phase of a deal's first event. -/
def outE (d : Int) : List E3 → Int
  | [] => 0
  | e :: r => if e.d = d then e.p else outE d r
theorem outE_at (d : Int) : ∀ (L : List E3) (k : Nat) (h : k < L.length), (∀ j (hj : j < L.length), j < k → (L[j]'hj).d ≠ d) → (L[k]'h).d = d → outE d L = (L[k]'h).p
  | [], _, h, _, _ => absurd h (Nat.not_lt_zero _)
  | e :: r, 0, _, _, hd => if_pos hd
  | e :: r, k + 1, h, hn, hd => by
    have h0 : e.d ≠ d := hn 0 (Nat.succ_pos _) (Nat.succ_pos _)
    rw [outE, if_neg h0]
    exact outE_at d r k (by simpa using h) (fun j hj hlt => hn (j + 1) (by simpa using hj) (by omega)) hd
theorem outE_none (d : Int) : ∀ (L : List E3), (∀ j (hj : j < L.length), (L[j]'hj).d ≠ d) → outE d L = 0
  | [], _ => rfl
  | e :: r, hn => by
    have h0 : e.d ≠ d := hn 0 (Nat.succ_pos _)
    rw [outE, if_neg h0]
    exact outE_none d r (fun j hj => hn (j + 1) (by simpa using hj))
set_option maxHeartbeats 1000000 in
set_option maxRecDepth 100000 in
theorem joutcome_any (ad : Option Addr) (cap : Nat) (L : List E3) (d : Int) (w : World) (hL : EL w ad L) (hl : L.length ≤ 100000) :
    Calls Tryd.prog 10 #[.slice ad L.length cap, .int .i64 d] w fun e w' => e = .returned (.int .i64 (outE d L)) ∧ Below w.heap.size w w' := by
  have HL := hid hL
  clear hL
  go_enter Tryd.func10, Tryd.ntmps10
  go_wp2_with fail
  go_loopw [9] (fun v wr => ∃ k : Nat, k ≤ L.length ∧ v = .int .i64 (k : Int) ∧ Hid (∀ j (hj : j < L.length), j < k → (L[j]'hj).d ≠ d) ∧ Below w.heap.size w wr) (fun v _ => L.length - (intOf v).toNat)
  case atStart => exact ⟨0, Nat.zero_le _, rfl, fun j _ h => absurd h (Nat.not_lt_zero _), Below.refl _ _⟩
  case round =>
    obtain ⟨k, hk, rfl, HN, hb⟩ := hrel
    have HB := hid hb
    by_cases hlt : k < L.length
    · obtain ⟨b, o, rfl, y0, y1, y2⟩ := HL.out k hlt
      obtain ⟨⟨s, dd, p⟩, HS⟩ : ∃ e, Hid (L[k]'hlt = e) := ⟨_, rfl⟩
      rw [HS.out] at y0 y1 y2
      replace y0 := cell_later hb y0
      replace y1 := cell_later hb y1
      replace y2 := cell_later hb y2
      have HBn : ∀ o, Hid (Below w.heap.size w (wr.alloc o)) := fun o => hid (HB.out.alloc HB.out.size o)
      clear hb
      by_cases hd : dd = d
      · subst hd
        have HO : Hid (outE dd L = p) := by have := outE_at dd L k hlt HN.out (by rw [HS.out]); rw [HS.out] at this; exact this
        go_wp2_with fail
        go_ret
        exact ⟨ret_int HO.out.symm, (HBn _).out⟩
      · have HN2 : Hid (∀ j (hj : j < L.length), j < k + 1 → (L[j]'hj).d ≠ d) := fun j hj h => by
          rcases Nat.lt_succ_iff_lt_or_eq.1 h with x | rfl
          · exact HN.out j hj x
          · rw [HS.out]; exact hd
        go_wp2_with fail
        go_roundw
        case rel => exact ⟨k + 1, by omega, by go_num, HN2.out, (HBn _).out⟩
        case measure => simp [intOf]; omega
    · have HO : Hid (outE d L = 0) := outE_none d L (fun j hj => HN.out j hj (by omega))
      have hk2 : ¬ ((k : Int) < (L.length : Int)) := by omega
      go_wp2_with fail
      go_ret
      exact ⟨ret_int HO.out.symm, HB.out⟩
end Go.Proofs.YtadhpkopkkjmfaaDoor
