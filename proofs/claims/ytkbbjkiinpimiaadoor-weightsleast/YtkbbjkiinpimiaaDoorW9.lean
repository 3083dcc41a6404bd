/-
  WALKS of threefoldref1.SameInts (two slices of the same numbers) and of weights.Least.
-/
import Derived.Test.YtkbbjkiinpimiaaDoorW8
import Derived.Test.YtkbbjkiinpimiaaDoorCode
namespace Go.Proofs.YtkbbjkiinpimiaaDoor
open Go.RowKit

theorem ownsRow_later {w w' : World} {base : Nat} {e : TypeId} {size : Nat} {v : Value} {n : Nat} {xs : List Value} (h : w.ownsRow base e size v n xs) (hb : Below w.heap.size w w') : w'.ownsRow base e size v n xs := by
  refine ⟨h.1, ?_⟩
  rcases h.2 with h2 | ⟨g, cap, cur, hv, hg, hh, r⟩
  · exact .inl h2
  · exact .inr ⟨g, cap, cur, hv, hg, row_later hb hh, r⟩
/-- Behind an append to a row of the call's own: nothing below B has turned. -/
theorem grown_below {B : Nat} {w0 w W w' : World} {e : TypeId} {size n : Nat} {v : Value} {xs : List Value} (hnx : Below B w0 w) (hB : B ≤ w.heap.size) (hW : Below w.heap.size w W) (hown : w.ownsRow B e size v n xs) (hg : W.grownBy w' v.ownBlock) : Below B w0 w' := by
  refine Below.grown (hnx.trans (hW.mono hB)) hg (Nat.le_trans hB hW.size) ?_
  intro g hg
  rcases hown.2 with ⟨rfl, _⟩ | ⟨g', c', cur, rfl, hb', _⟩
  · cases hg
  · have : g' = g := by simpa [Value.ownBlock] using hg
    omega

set_option maxHeartbeats 1000000 in
theorem same_any (v1 v2 : Value) (l : List Int) (w : World) (h1 : IsSl w v1 l) (h2 : IsSl w v2 l) (hl : l.length ≤ 1000) :
    Calls Tryd.prog 15 #[v1, v2] w fun e w' => e = .returned (.bool true) ∧ Below w.heap.size w w' := by
  obtain ⟨a1, c1, rfl, -, -, g1⟩ := h1
  obtain ⟨a2, c2, rfl, -, -, g2⟩ := h2
  have G1 := hid g1
  have G2 := hid g2
  clear g1 g2
  have hne : ((l.length : Int) != (l.length : Int)) = false := by simp
  go_enter Tryd.func15, Tryd.ntmps15
  go_wp2
  go_loopw [5] (fun i wr => ∃ k : Nat, k ≤ l.length ∧ i = .int .i64 k ∧ Below w.heap.size w wr) (fun i _ => l.length - (intOf i).toNat)
  case atStart => exact ⟨0, Nat.zero_le _, rfl, Below.refl _ _⟩
  case round =>
    obtain ⟨k, hk, rfl, hnx⟩ := hrel
    by_cases hlt : k < l.length
    · obtain ⟨b1, o1, e1, d1⟩ := G1.out (by omega)
      obtain ⟨b2, o2, e2, d2⟩ := G2.out (by omega)
      subst e1
      subst e2
      have d1k := cell_later hnx (d1 k hlt)
      have d2k := cell_later hnx (d2 k hlt)
      rw [getD_lt l k hlt] at d1k d2k
      generalize hz : l[k] = z at d1k d2k
      have hzz : (z != z) = false := by simp
      clear d1 d2 hz
      go_wp2
      go_quiet (fail)
      go_wp2
      go_roundw
      case rel => exact ⟨k + 1, by omega, by go_num, below_drewN hnx _⟩
      case measure => simp [intOf]; omega
    · go_wp2
      go_ret
      exact ⟨rfl, hnx⟩

/-- The least quorums among the sets below k. -/
def leastTo (zs : List Int) : Nat → List Int
  | 0 => []
  | k + 1 => leastTo zs k ++ if 1 ≤ k ∧ neededN zs k = k then [(k : Int)] else []
theorem leastTo_length (zs : List Int) : ∀ k, (leastTo zs k).length ≤ k
  | 0 => by simp [leastTo]
  | k + 1 => by
    have := leastTo_length zs k
    simp only [leastTo, List.length_append]; split <;> simp <;> omega

theorem least_bad (A : Nat → Addr) (v : Value) (zs : List Int) (c : Nat) (w : World) (hv : IsSl w v zs) (hE : Held3 w A) (hc : errW zs = c + 1) :
    Calls Tryd.prog 30 #[v] w fun e w' => e = .returned (.tuple #[.slice none 0 0, .iface 107 (.pointer (some (A c)))]) ∧ w' = w := by
  have hck := check_any A v zs w hv hE
  rw [hc] at hck
  have H : Hid (Calls Tryd.prog 24 #[v] w fun e w' => e = .returned (.iface 107 (.pointer (some (A c)))) ∧ w' = w) := hck
  clear hck hE hc
  obtain ⟨a, cap, rfl, -, -, -⟩ := hv
  go_enter Tryd.func30, Tryd.ntmps30
  go_wp2_with (go_at_call 24; refine H.out.mono ?_; rintro e w' ⟨rfl, rfl⟩)
  go_ret2
  exact ⟨rfl, rfl⟩

set_option maxRecDepth 100000 in
set_option maxHeartbeats 4000000 in
theorem least_ok (A : Nat → Addr) (v : Value) (zs : List Int) (w : World) (hv : IsSl w v zs) (hE : Held3 w A) (hc : errW zs = 0) :
    Calls Tryd.prog 30 #[v] w fun e w' => ∃ v', e = .returned (.tuple #[v', .nilIface]) ∧ IsSl w' v' (leastTo zs (2 ^ zs.length)) ∧ Below w.heap.size w w' := by
  have hck := check_any A v zs w hv hE
  rw [hc] at hck
  have H : Hid (Calls Tryd.prog 24 #[v] w fun e w' => e = .returned .nilIface ∧ w' = w) := hck
  obtain ⟨h4, h5, h6, -⟩ := errW_zero hc
  have hp := pow_le7 h5
  have hpn : Hid ((2 : Int) ^ zs.length = ((2 ^ zs.length : Nat) : Int)) := pow_nat _
  have hp2 : 1 ≤ 2 ^ zs.length ∧ 2 ^ zs.length ≤ 128 := by have := hpn.out; omega
  obtain ⟨i0, hi, hz0, hz1, hz2⟩ := info_parts Tryd.infoInt
  have HO := hid h6
  clear hck hE hc h6
  obtain ⟨a, cap, rfl, -, -, hcc⟩ := hv
  obtain ⟨b, off, rfl, hcell⟩ := hcc (by omega)
  clear hcc
  have HC := hid hcell
  clear hcell
  go_enter Tryd.func30, Tryd.ntmps30
  go_wp2_with (first | (go_at_call 24; refine H.out.mono ?_; rintro e w' ⟨rfl, rfl⟩) | (go_at_call 67; refine (quorum_q b off cap zs _ h5 HO.out HC.out).mono ?_; rintro e w1 ⟨p, q, rfl, hQ, hb⟩))
  go_loopw [6, 7] (fun v i wr => ∃ k : Nat, 1 ≤ k ∧ k ≤ 2 ^ zs.length ∧ i = .int .i64 k ∧ wr.ownsRow w1.heap.size 3 1 v (leastTo zs k).length ((leastTo zs k).map (Value.int .i64)) ∧ Below w1.heap.size w1 wr)
    (fun _ i _ => 2 ^ zs.length - (intOf i).toNat)
  case atStart => exact ⟨1, Nat.le_refl _, hp2.1, rfl, by simpa [leastTo] using World.ownsRow_nil _ _ _ _, Below.refl _ _⟩
  case round =>
    obtain ⟨k, hk1, hk, rfl, hown, hnx⟩ := hrel
    have HW := hid hown
    clear hown
    by_cases hlt : k < 2 ^ zs.length
    · have hle : (k : Int) ≤ 2 ^ zs.length - 1 := by have := hpn.out; omega
      have hk128 : (k : Int) < 128 := by omega
      have hQ' := hQ.later hnx
      have hS : Hid (leastTo zs (k + 1) = leastTo zs k ++ if 1 ≤ k ∧ neededN zs k = k then [(k : Int)] else []) := rfl
      have hln := leastTo_length zs k
      by_cases hx : neededN zs k = k
      · have hS' : Hid (leastTo zs (k + 1) = leastTo zs k ++ [(k : Int)]) := by unfold Hid; rw [hS.out, if_pos ⟨hk1, hx⟩]
        have HX := hid hx
        clear hS hx
        go_wp2_with (first | (go_at_call 70; refine (everyone_any _ _ _ _ (by omega)).mono ?_; rintro e w' ⟨rfl, rfl⟩) | (go_at_call 68; refine (needed_any p q zs k _ h5 HO.out (by omega) (by omega) hQ').mono ?_; rw [HX.out]; rintro e w2 ⟨rfl, hb2⟩) | (at_builtin; refine wpList_append_own _ rfl (.tmp 26) (.tmp 28) 22 rfl w1.heap.size 3 i0 (.int .i64 0) 1 8 Tryd.underlying22 hi hz0 hz1 hz2 rfl (by decide) _ (leastTo zs k).length _ rfl (by exact (ownsRow_later HW.out hb2).alloc _) ⟨w2.heap.size, 0, none⟩ 1 1 [.int .i64 k] rfl rfl ?c1 ?c2 ?c3 ?c4 ?c5 ?_))
        case c1 =>
          intro j u hj
          match j, hj with
          | 0, hj => simp at hj; subst hj; rw [addr_add, World.cell?_alloc_at _ _ _ _ rfl]; rfl
        case c2 => intro u hu; simp at hu; subst hu; rfl
        case c3 => unfold maxLen; omega
        case c4 => omega
        case c5 => have := hnx.size; have := hb2.size; simp; omega
        · intro v' w3 hown' hgrow _
          have R : w3.ownsRow w1.heap.size 3 1 v' (leastTo zs (k + 1)).length ((leastTo zs (k + 1)).map (Value.int .i64)) := by
            rw [hS'.out, List.length_append, List.map_append]; exact hown'
          have hB : Below w1.heap.size w1 w3 := grown_below hnx hnx.size (below_trans hb2 ((Below.refl _ _).alloc (Nat.le_refl _) _)) HW.out hgrow
          clear hown' hgrow
          go_wp2
          go_roundw
          case rel => exact ⟨k + 1, by omega, by omega, by go_num, R, hB⟩
          case measure => simp [intOf]; omega
      · have hS' : Hid (leastTo zs (k + 1) = leastTo zs k) := by unfold Hid; rw [hS.out, if_neg (fun h => hx h.2)]; simp
        have hx' : (neededN zs k == (k : Int)) = false := beq_eq_false_iff_ne.2 hx
        clear hS hx
        go_wp2_with (first | (go_at_call 70; refine (everyone_any _ _ _ _ (by omega)).mono ?_; rintro e w' ⟨rfl, rfl⟩) | (go_at_call 68; refine (needed_any p q zs k _ h5 HO.out (by omega) (by omega) hQ').mono ?_; rintro e w2 ⟨rfl, hb2⟩))
        go_roundw
        case rel => exact ⟨k + 1, by omega, by omega, by go_num, by rw [hS'.out]; exact ownsRow_later HW.out hb2, hnx.trans (hb2.mono hnx.size)⟩
        case measure => simp [intOf]; omega
    · have hke : k = 2 ^ zs.length := by omega
      have hgt : ¬ (k : Int) ≤ 2 ^ zs.length - 1 := by have := hpn.out; omega
      have hs : IsSl wr _ (leastTo zs k) := IsSl.owned HW.out (by have := leastTo_length zs k; unfold maxLen; omega)
      rw [hke] at hs
      have HS := hid hs
      clear hs hke
      go_wp2_with (go_at_call 70; refine (everyone_any _ _ _ _ (by omega)).mono ?_; rintro e w' ⟨rfl, rfl⟩)
      go_ret2
      exact ⟨_, rfl, HS.out, below_trans hb hnx⟩
end Go.Proofs.YtkbbjkiinpimiaaDoor
