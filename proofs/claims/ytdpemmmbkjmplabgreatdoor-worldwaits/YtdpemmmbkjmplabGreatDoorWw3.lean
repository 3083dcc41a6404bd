/-
  WALKS of package play: tickAll, deliverAll, Rounds.
  append of a number to a row of the law's own; its numbers.
  THE LAW WorldAgrees, along its loops.
  THE DOCUMENT's Final.
  THE WALK of the document's SetError.
  THE LAW WorldEnds.
-/
import Derived.Test.YtdpemmmbkjmplabGreatDoorWw2
import Derived.Test.YtdpemmmbkjmplabGreatDoorBa10
import Derived.Test.YtdpemmmbkjmplabGreatDoorBa9
import Derived.Test.YtdpemmmbkjmplabGreatDoorBa6
import Derived.Test.YtdpemmmbkjmplabGreatDoorBa13
import Derived.Test.YtdpemmmbkjmplabGreatDoorBa1
import Derived.Test.YtdpemmmbkjmplabGreatDoorBa7
import Derived.Maps.AppendAt
import Derived.BigRegion
namespace Go.Proofs.YtdpemmmbkjmplabGreatDoor
open Go.RowKit

/-- Steps behind steps. -/
theorem WOut.trans {w0 w w1 w2 : World} {C : Nat → Nat} {X : XB} {zs : List Int} {V1 V2 : PX} {m1 m2 : Nat} (h : WOut w0 w w1 C X zs V1 m1) (g : ∀ C1 X1, WD w0 w1 C1 X1 zs V1 m1 → key X1 = key X → WOut w0 w1 w2 C1 X1 zs V2 m2) : WOut w0 w w2 C X zs V2 m2 := by
  obtain ⟨C1, X1, h1, h2, h3, h4⟩ := h
  exact WOut.step h2 h3 h4 (g C1 X1 h1 h2)
section
variable {w0 w : World} {C : Nat → Nat} {X : XB} {m : Nat} {zs : List Int} {V : PX} {A : Nat → Addr} {set : Int}
theorem ticks_step (k : Nat) (hb : bit set k = true) : ticksX zs set (min (k + 1) zs.length) V = if cUp zs.length (ticksX zs set (min k zs.length) V) (k : Int) = 0 then tickX zs k 6 0 (ticksX zs set (min k zs.length) V) else ticksX zs set (min k zs.length) V := by
  by_cases hk : k < zs.length
  · rw [show min (k + 1) zs.length = k + 1 by omega, show min k zs.length = k by omega]
    show (if bit set k = true ∧ upN ((ticksX zs set k V).nd k) = true then _ else _) = _
    have hc : cUp zs.length (ticksX zs set k V) (k : Int) = if upN ((ticksX zs set k V).nd k) = true then 0 else 6 := by unfold cUp; rw [if_pos (by omega), Int.toNat_natCast]
    by_cases hu : upN ((ticksX zs set k V).nd k) = true
    · rw [if_pos ⟨hb, hu⟩, hc, if_pos hu, if_pos rfl]
    · rw [if_neg (fun h => hu h.2), hc, if_neg hu, if_neg (by decide)]
  · rw [show min (k + 1) zs.length = zs.length by omega, show min k zs.length = zs.length by omega]
    have hc : cUp zs.length (ticksX zs set zs.length V) (k : Int) = 2 := by unfold cUp; rw [if_neg (by omega)]
    rw [hc, if_neg (by decide)]
theorem ticks_skip (k : Nat) (hb : bit set k = false) : ticksX zs set (min (k + 1) zs.length) V = ticksX zs set (min k zs.length) V := by
  by_cases hk : k < zs.length
  · rw [show min (k + 1) zs.length = k + 1 by omega, show min k zs.length = k by omega]
    show (if bit set k = true ∧ _ then _ else _) = _
    rw [if_neg (fun h => by rw [hb] at h; cases h.1)]
  · rw [show min (k + 1) zs.length = zs.length by omega, show min k zs.length = zs.length by omega]
set_option maxHeartbeats 2000000 in
set_option maxRecDepth 100000 in
theorem tickAll_any (h : WD w0 w C X zs V m) (hE : Held9 w0 A) (h0 : 0 ≤ set) (h1 : set ≤ 9223372036854775807) (hm : m + 294 < 900000) :
    Calls Tryz.prog 72 #[.pointer (some ⟨X.xb, 0, none⟩), .int .i64 set] w fun e w' => e = .returned (.tuple #[]) ∧ WOut w0 w w' C X zs (ticksX zs set zs.length V) (m + 294) := by
  have H := hid h
  have HE := hid hE
  have n7 := h.n7.2
  clear h hE
  go_enter Tryz.func72, Tryz.ntmps72
  go_wp2_with fail
  go_loopw [5] (fun v wr => ∃ k : Nat, k ≤ 7 ∧ v = .int .i64 (k : Int) ∧ Hid (WOut w0 w wr C X zs (ticksX zs set (min k zs.length) V) (m + 42 * k))) (fun v _ => 7 - (intOf v).toNat)
  case atStart => exact ⟨0, Nat.zero_le _, rfl, by rw [show min 0 zs.length = 0 by omega]; exact H.out.out (Below.refl _ _) (by omega)⟩
  case round =>
    obtain ⟨k, hk, rfl, HI⟩ := hrel
    by_cases hlt : k < 7
    · have hlt2 : (k : Int) < 7 := by omega
      have hk0 : ¬ ((k : Int) < 0) := by omega
      obtain ⟨b, Hb⟩ : ∃ b, Hid (bit set k = b) := ⟨_, rfl⟩
      have hbit : (bits BinOp.and IntKind.i64 (set / 2 ^ k) 1 == 1) = b := (bit_and k h0 (by omega)).trans Hb.out
      cases b with
      | true =>
        obtain ⟨C1, X1, g1, g2, g3, g4⟩ := HI.out
        have HT := hid (tick_any (k : Int) _ g1 HE.out (by omega) rfl)
        rw [key_xb g2, Int.toNat_natCast, ← ticks_step k Hb.out] at HT
        have HG := hid (And.intro g2 (And.intro g3 g4))
        clear g1 g2 g3 g4
        go_wp2_with fail
        refine HT.out.mono ?_
        rintro e w1 ⟨rfl, ho⟩
        have HO := hid (WOut.step HG.out.1 HG.out.2.1 HG.out.2.2 ho)
        clear ho
        go_wp2_with fail
        go_roundw
        case rel => exact ⟨k + 1, by omega, by go_num, by rw [show m + 42 * (k + 1) = m + 42 * k + 42 by omega]; exact HO.out⟩
        case measure => simp [intOf]; omega
      | false =>
        have HO : Hid (WOut w0 w wr C X zs (ticksX zs set (min (k + 1) zs.length) V) (m + 42 * (k + 1))) := by rw [ticks_skip k Hb.out]; exact HI.out.mono (by omega)
        go_wp2_with fail
        go_roundw
        case rel => exact ⟨k + 1, by omega, by go_num, HO.out⟩
        case measure => simp [intOf]; omega
    · obtain rfl : k = 7 := by omega
      have HO : Hid (WOut w0 w wr C X zs (ticksX zs set zs.length V) (m + 294)) := by have := HI.out; rw [show min 7 zs.length = zs.length by omega] at this; exact this
      go_wp2_with fail
      go_end0
      exact ⟨rfl, HO.out⟩
/-- What stands along deliveries. -/
def DlI (w0 w wr : World) (C : Nat → Nat) (X : XB) (zs : List Int) (V : PX) (m j : Nat) : Prop := ∃ C' X' U, WD w0 wr C' X' zs U (m + 3 * j) ∧ key X' = key X ∧ Kept (OwnX C) w wr ∧ (∀ x, x < w.heap.size → C' x = C x) ∧ flyX zs U = flyX zs V ∧ pot zs U + j ≤ pot zs V
set_option maxHeartbeats 2000000 in
set_option maxRecDepth 100000 in
theorem deliverAll_any (h : WD w0 w C X zs V m) (hE : Held9 w0 A) (hm : m + 3 * pot zs V < 900000) :
    Calls Tryz.prog 73 #[.pointer (some ⟨X.xb, 0, none⟩)] w fun e w' => ∃ c : Nat, e = .returned (.int .i64 (c : Int)) ∧ c ≤ pot zs V ∧ (flyX zs V).fly = [] ∧ WOut w0 w w' C X zs (flyX zs V) (m + 3 * pot zs V) := by
  have HI0 : Hid (DlI w0 w w C X zs V m 0) := ⟨C, X, V, h, rfl, Kept.refl _ _, fun _ _ => rfl, rfl, Nat.le_refl _⟩
  have HE := hid hE
  obtain ⟨P, HP⟩ : ∃ P, Hid (pot zs V = P) := ⟨_, rfl⟩
  rw [HP.out] at hm ⊢
  clear h hE
  go_enter Tryz.func73, Tryz.ntmps73
  go_wp2_with fail
  go_loopw [3] (fun v wr => ∃ j : Nat, j ≤ P ∧ v = .int .i64 (j : Int) ∧ Hid (DlI w0 w wr C X zs V m j)) (fun v _ => P - (intOf v).toNat)
  case atStart => exact ⟨0, Nat.zero_le _, rfl, HI0.out⟩
  case round =>
    obtain ⟨j, hj, rfl, HI⟩ := hrel
    obtain ⟨C1, X1, U, g1, g2, g3, g4, g5, g6⟩ := HI.out
    rw [HP.out] at g6
    cases hfl : U.fly with
    | nil =>
      have HD := hid (deliver_no (0 : Int) g1 HE.out (by rw [hfl]; simp))
      rw [key_xb g2] at HD
      have hU : flyX zs V = U := by rw [← g5]; exact del_nil hfl
      have HO : Hid ((flyX zs V).fly = [] ∧ WOut w0 w wr C X zs (flyX zs V) (m + 3 * P)) := by
        rw [hU]; exact ⟨hfl, C1, X1, g1.mono (by omega), g2, g3, g4⟩
      clear g1 g2 g3 g4 g5 g6 hU hfl
      go_wp2_with fail
      refine HD.out.mono ?_
      rintro e w1 ⟨rfl, hx⟩
      subst w1
      unfold ev
      go_wp2_with fail
      go_ret
      exact ⟨j, rfl, hj, HO.out.1, HO.out.2⟩
    | cons f rest =>
      have h0l : 0 < U.fly.length := by rw [hfl]; simp
      have hf0 : U.fly[0]'h0l = f := by simp [hfl]
      have HD := hid (deliver_ok 0 f g1 HE.out h0l hf0 (by omega))
      rw [key_xb g2, show ((0 : Nat) : Int) = 0 from rfl] at HD
      have hp := pot_deliver g1.inv (k := 0) (f := f) (by rw [hfl]; rfl)
      have hst := fly_step g1.inv (by omega) hfl
      have HN : Hid (∀ w1, WOut w0 wr w1 C1 X1 zs (deliverX zs U 0 f) (m + 3 * j + 3) → DlI w0 w w1 C X zs V m (j + 1)) := by
        intro w1 ho
        obtain ⟨C2, X2, y1, y2, y3, y4⟩ := WOut.step g2 g3 g4 ho
        exact ⟨C2, X2, _, by rw [show m + 3 * (j + 1) = m + 3 * j + 3 by omega]; exact y1, y2, y3, y4, hst.trans g5, by rw [HP.out]; omega⟩
      have hjP : j + 1 ≤ P := by omega
      clear g1 g2 g3 g4 g5 g6 hfl hf0 hp hst h0l
      go_wp2_with fail
      refine HD.out.mono ?_
      rintro e w1 ⟨rfl, ho⟩
      have HO := hid (HN.out w1 ho)
      clear ho
      go_wp2_with fail
      go_roundw
      case rel => exact ⟨j + 1, hjP, by go_num, HO.out⟩
      case measure => simp [intOf]; omega
/-- What stands along rounds. -/
def RdI (w0 w wr : World) (C : Nat → Nat) (X : XB) (zs : List Int) (set : Int) (V : PX) (m k B i : Nat) (c : Nat) : Prop := ∃ C' X' U m', WD w0 wr C' X' zs U m' ∧ key X' = key X ∧ Kept (OwnX C) w wr ∧ (∀ x, x < w.heap.size → C' x = C x) ∧ roundsX zs set (k - i) U = roundsX zs set k V ∧ pot zs U ≤ pot zs V + 1470 * i ∧ m' + (k - i) * B ≤ m + k * B ∧ c ≤ 700000 * i ∧ (0 < i → U.fly = [])
set_option maxHeartbeats 4000000 in
set_option maxRecDepth 100000 in
theorem rounds_any (k : Nat) (h : WD w0 w C X zs V m) (hE : Held9 w0 A) (h0 : 0 ≤ set) (h1 : set ≤ 9223372036854775807) (hk : k ≤ 10) (hm : m + k * (294 + 3 * (pot zs V + 1470 * k)) < 700000) :
    Calls Tryz.prog 32 #[.pointer (some ⟨X.xb, 0, none⟩), .int .i64 set, .int .i64 (k : Int)] w fun e w' => ∃ c : Nat, e = .returned (.tuple #[.int .i64 (c : Int), .nilIface]) ∧ (0 < k → (roundsX zs set k V).fly = []) ∧ WOut w0 w w' C X zs (roundsX zs set k V) 700000 := by
  obtain ⟨B, HB⟩ : ∃ B, Hid (294 + 3 * (pot zs V + 1470 * k) = B) := ⟨_, rfl⟩
  rw [HB.out] at hm
  have HI0 : Hid (RdI w0 w w C X zs set V m k B 0 0) := ⟨C, X, V, m, h, rfl, Kept.refl _ _, fun _ _ => rfl, rfl, Nat.le_refl _, Nat.le_refl _, Nat.le_refl _, fun h => absurd h (Nat.lt_irrefl _)⟩
  have HE := hid hE
  obtain ⟨kB, HkB⟩ : ∃ kB, Hid (k * B = kB) := ⟨_, rfl⟩
  rw [HkB.out] at hm
  have e1 : ¬ (set < 0) := by omega
  have e2 : ¬ ((k : Int) < 0) := by omega
  have e3 : ¬ ((10 : Int) < (k : Int)) := by omega
  clear h hE
  go_enter Tryz.func32, Tryz.ntmps32
  go_wp2_with fail
  go_loopw [8, 21] (fun u v wr => ∃ i c : Nat, i ≤ k ∧ u = .int .i64 (c : Int) ∧ v = .int .i64 (i : Int) ∧ Hid (RdI w0 w wr C X zs set V m k B i c)) (fun _ v _ => k - (intOf v).toNat)
  case atStart => exact ⟨0, 0, Nat.zero_le _, rfl, rfl, HI0.out⟩
  case round =>
    obtain ⟨i, c, hi, rfl, rfl, HI⟩ := hrel
    obtain ⟨C1, X1, U, m1, g1, g2, g3, g4, g5, g6, g7, g8, g9⟩ := HI.out
    rw [HkB.out] at g7
    by_cases hlt : i < k
    · have hlt2 : (i : Int) < (k : Int) := by omega
      obtain ⟨j, hj⟩ : ∃ j, k - i = j + 1 := ⟨k - i - 1, by omega⟩
      rw [hj, Nat.succ_mul] at g7
      rw [hj] at g5
      obtain ⟨jB, HjB⟩ : ∃ jB, Hid (j * B = jB) := ⟨_, rfl⟩
      rw [HjB.out] at g7
      have hBv := HB.out
      have hpt := pot_ticks_le (set := set) g1.inv
      have h14 : 1470 * i + 1470 ≤ 1470 * k := by omega
      have HT := hid (tickAll_any (set := set) g1 HE.out h0 h1 (by omega))
      rw [key_xb g2] at HT
      have hU := pot_round (set := set) g1.inv (by
        have n7 := g1.n7.2
        omega)
      have HG := hid (And.intro g2 (And.intro g3 g4))
      have HH := hid (And.intro g5 (And.intro g6 (And.intro g7 (And.intro hpt (And.intro hU hj)))))
      clear g1 g2 g3 g4 g5 g6 g7 g9 hpt hU hj
      go_wp2_with fail
      refine HT.out.mono ?_
      rintro e w1 ⟨rfl, C2, X2, y1, y2, y3, y4⟩
      have HD := hid (deliverAll_any y1 HE.out (by have := HH.out; omega))
      rw [key_xb y2, key_xb HG.out.1] at HD
      have HY := hid (And.intro y2 (And.intro y3 y4))
      clear y1 y2 y3 y4
      go_wp2_with fail
      refine HD.out.mono ?_
      rintro e w2 ⟨d, rfl, hd, hfl, ho⟩
      have ho2 := WOut.step HG.out.1 HG.out.2.1 HG.out.2.2 (WOut.step HY.out.1 HY.out.2.1 HY.out.2.2 ho)
      have hd7 : d ≤ 700000 := by have := HH.out; omega
      have HN : Hid (RdI w0 w w2 C X zs set V m k B (i + 1) (c + d)) := by
        obtain ⟨C3, X3, z1, z2, z3, z4⟩ := ho2
        obtain ⟨q5, q6, q7, q8, q9, q10⟩ := HH.out
        have ekj : k - (i + 1) = j := by omega
        refine ⟨C3, X3, roundX zs set U, m1 + B, z1.mono (by omega), z2, z3, z4, ?_, by omega, ?_, by omega, fun _ => hfl⟩
        · rw [ekj]; exact q5
        · rw [ekj, HkB.out, HjB.out]; omega
      have hcw : IntKind.i64.wrap ((c : Int) + (d : Int)) = (c : Int) + (d : Int) := by rw [IntKind.wrap_i64]; omega
      clear hfl ho ho2 hd
      go_wp2_with fail
      go_roundw
      case rel => exact ⟨i + 1, c + d, by omega, by go_num, by go_num, HN.out⟩
      case measure => simp [intOf]; omega
    · obtain rfl : i = k := by omega
      have hlt2 : ¬ ((i : Int) < (i : Int)) := by omega
      rw [Nat.sub_self] at g5 g7
      have hU : U = roundsX zs set i V := g5
      have HO : Hid ((0 < i → (roundsX zs set i V).fly = []) ∧ WOut w0 w wr C X zs (roundsX zs set i V) 700000) := by
        rw [← hU]; exact ⟨g9, C1, X1, g1.mono (by omega), g2, g3, g4⟩
      clear g1 g2 g3 g4 g5 g6 g7 g8 g9 hU
      go_wp2_with fail
      go_ret2
      exact ⟨⟨c, rfl⟩, HO.out.1, HO.out.2⟩
end
end Go.Proofs.YtdpemmmbkjmplabGreatDoor
namespace Go.Proofs.YtdpemmmbkjmplabGreatDoor
open Go.RowKit

theorem wpList_append_e1 {w : World} {ops : Array Oper} {rest : List Oper} {o : Oper} {a : Act} {Q : Exit → Act → World → Prop} (hgd : o.guard = none) (s x : Operand)
    (ho : o.op = .call { callee := .builtin .append, args := #[s, x], argTypes := #[22, 22] })
    (base n : Nat) (v : Value) (xs : List Value) (ad : Addr) (c : Nat) (F : Int) (hs : a.eval s = v) (hx : a.eval x = .slice (some ad) 1 c) (hown : w.ownsRow base 3 1 v n xs) (hu : ∀ j u, [Value.int .i64 F][j]? = some u → w.cell? (ad.add j) = some u) (hn : n ≤ 1000000000000) (hb : base ≤ w.heap.size)
    (h : ∀ ad' cap' w', w'.ownsRow base 3 1 (.slice ad' (n + 1) cap') (n + 1) (xs ++ [Value.int .i64 F]) → w.grownBy w' v.ownBlock → ((Value.slice ad' (n + 1) cap').ownBlock = v.ownBlock ∨ (Value.slice ad' (n + 1) cap').ownBlock = some w.heap.size) → wpList Tryz.prog ops Q rest (a.put o.dst (.slice ad' (n + 1) cap')) w') :
    wpList Tryz.prog ops Q (o :: rest) a w := by
  refine wpList_plain hgd fun K hK => ?_
  obtain ⟨i0, hi0, hz0, hz1, hz2⟩ := info_parts Tryz.infoInt
  obtain ⟨v', w', hr, h2, h3, -, h5⟩ := run_append_own_at (P := Tryz.prog) w base 22 o.type 3 i0 _ 1 8 Tryz.underlying22 hi0 hz0 hz1 hz2 rfl (by decide) v n xs hown ad 1 c [.int .i64 F] rfl hu (by intro u hu; simp at hu; subst hu; rfl) (by unfold maxLen; omega) (by omega) hb
  obtain ⟨ad', cap', rfl⟩ : ∃ ad' cap', v' = .slice ad' (n + 1) cap' := by
    rcases h2.2 with ⟨e, h0⟩ | ⟨g, cap, cur, e, -⟩
    · omega
    · exact ⟨_, _, e⟩
  unfold Oper.wp execOp
  simp only [ho, resolve, invoke, builtin, Sem.run_bind, Sem.run_pure, Result.andThen_ok, List.map_toArray, List.map_cons, List.map_nil, hs, hx, hr]
  exact hK _ _ (h ad' cap' w' h2 h3 h5)
theorem own_ints_e {w : World} {base n g cap : Nat} {vs : List Int} (h : w.ownsRow base 3 1 (.slice (some ⟨g, 0, none⟩) n cap) n (vs.map (Value.int .i64))) {i : Nat} (hi : i < n) : w.cell? ⟨g, i, none⟩ = some (.int .i64 (vs.getD i 0)) := by
  have hl : vs.length = n := by have := h.1; simpa using this
  have := h.cellAt i (by omega)
  rw [this, List.getElem?_map, List.getElem?_eq_getElem (by omega)]
  simp [List.getD, hl, hi]
end Go.Proofs.YtdpemmmbkjmplabGreatDoor
namespace Go.Proofs.YtdpemmmbkjmplabGreatDoor
open Go.RowKit

theorem mkW1 (w : World) : (Instr.makeSlice 22 (.int .i64 6) (.int .i64 6)).run Tryz.prog w = .ok (.slice (some ⟨w.heap.size, 0, none⟩) 6 6) (w.alloc (.cells (wasC 1 (fun _ => 0)).toArray 3)) := by kernel_rfl
theorem mkW2 (w : World) : (Instr.makeSlice 22 (.int .i64 12) (.int .i64 12)).run Tryz.prog w = .ok (.slice (some ⟨w.heap.size, 0, none⟩) 12 12) (w.alloc (.cells (wasC 2 (fun _ => 0)).toArray 3)) := by kernel_rfl
theorem mkW3 (w : World) : (Instr.makeSlice 22 (.int .i64 18) (.int .i64 18)).run Tryz.prog w = .ok (.slice (some ⟨w.heap.size, 0, none⟩) 18 18) (w.alloc (.cells (wasC 3 (fun _ => 0)).toArray 3)) := by kernel_rfl
theorem mkW4 (w : World) : (Instr.makeSlice 22 (.int .i64 24) (.int .i64 24)).run Tryz.prog w = .ok (.slice (some ⟨w.heap.size, 0, none⟩) 24 24) (w.alloc (.cells (wasC 4 (fun _ => 0)).toArray 3)) := by kernel_rfl
theorem mkW5 (w : World) : (Instr.makeSlice 22 (.int .i64 30) (.int .i64 30)).run Tryz.prog w = .ok (.slice (some ⟨w.heap.size, 0, none⟩) 30 30) (w.alloc (.cells (wasC 5 (fun _ => 0)).toArray 3)) := by kernel_rfl
theorem mkW6 (w : World) : (Instr.makeSlice 22 (.int .i64 36) (.int .i64 36)).run Tryz.prog w = .ok (.slice (some ⟨w.heap.size, 0, none⟩) 36 36) (w.alloc (.cells (wasC 6 (fun _ => 0)).toArray 3)) := by kernel_rfl
theorem mkW7 (w : World) : (Instr.makeSlice 22 (.int .i64 42) (.int .i64 42)).run Tryz.prog w = .ok (.slice (some ⟨w.heap.size, 0, none⟩) 42 42) (w.alloc (.cells (wasC 7 (fun _ => 0)).toArray 3)) := by kernel_rfl
theorem mkWas (n : Nat) (h1 : 1 ≤ n) (h7 : n ≤ 7) (w : World) : (Instr.makeSlice 22 (.int .i64 (6 * (n : Int))) (.int .i64 (6 * (n : Int)))).run Tryz.prog w = .ok (.slice (some ⟨w.heap.size, 0, none⟩) (6 * n) (6 * n)) (w.alloc (.cells (wasC n (fun _ => 0)).toArray 3)) := by
  have h : n = 1 ∨ n = 2 ∨ n = 3 ∨ n = 4 ∨ n = 5 ∨ n = 6 ∨ n = 7 := by omega
  rcases h with rfl | rfl | rfl | rfl | rfl | rfl | rfl
  · exact mkW1 w
  · exact mkW2 w
  · exact mkW3 w
  · exact mkW4 w
  · exact mkW5 w
  · exact mkW6 w
  · exact mkW7 w
set_option maxHeartbeats 8000000 in
set_option maxRecDepth 100000 in
theorem wagrees_any (A : Nat → Addr) (v : Value) (zs : List Int) (ad : Option Addr) (cap : Nat) (xs : List Step4) (w : World) (hE : Held9 w A) (hv : IsSl w v zs) (hx : SIn w ad xs) (hm : xs.length ≤ maxLen) :
    Calls Tryz.prog 4 #[v, .slice ad xs.length cap] w fun e w' => e = .returned (.bool true) ∧ Below w.heap.size w w' := by
  unfold maxLen at hm
  have HE := hid hE
  have HV := hid hv
  have HX := hid hx
  obtain ⟨av, capv, rfl, hzm, -, -⟩ := hv
  unfold maxLen at hzm
  obtain ⟨n, HN⟩ : ∃ n, Hid (zs.length = n) := ⟨_, rfl⟩
  rw [HN.out] at HV hzm ⊢
  clear hE hx
  by_cases h30 : 30 < n
  · have e1 : (30 : Int) < (n : Int) := by omega
    go_enter Tryz.func4, Tryz.ntmps4
    go_wp2_with fail
    refine (born_any A w HE.out).mono ?_
    rintro e w1 ⟨rfl, hb⟩
    have HB1 := hid hb
    clear hb
    go_wp2_with fail
    go_ret
    exact ⟨rfl, HB1.out⟩
  · have e1 : ¬ (30 : Int) < (n : Int) := by omega
    by_cases h400 : 400 < xs.length
    · have e2 : (400 : Int) < (xs.length : Int) := by omega
      go_enter Tryz.func4, Tryz.ntmps4
      go_wp2_with fail
      refine (born_any A w HE.out).mono ?_
      rintro e w1 ⟨rfl, hb⟩
      have HB1 := hid hb
      clear hb
      go_wp2_with fail
      go_ret
      exact ⟨rfl, HB1.out⟩
    · have e2 : ¬ (400 : Int) < (xs.length : Int) := by omega
      go_enter Tryz.func4, Tryz.ntmps4
      go_wp2_with fail
      refine (born_any A w HE.out).mono ?_
      rintro e w1 ⟨rfl, hb⟩
      have HB1 := hid hb
      have HOwn := hid (ownInts_any _ zs w1 (HV.out.later hb) (by rw [HN.out]; omega))
      clear hb
      go_wp2_with fail
      refine HOwn.out.mono ?_
      rintro e w2 ⟨v2, rfl, hv2, hb2⟩
      have HV2 := hid hv2
      have HB2 := hid (below_trans HB1.out hb2)
      clear hv2 hb2
      by_cases he : errW zs = 0
      · obtain ⟨n1, n7, -, -⟩ := errW_zero he
        rw [HN.out] at n1 n7
        have HNew := hid (wnew_ok v2 HV2.out (HE.out.later HB2.out) he)
        go_wp2_with fail
        refine HNew.out.mono ?_
        rintro e w3 ⟨C, X, rfl, h3⟩
        have H3 := hid h3
        have HB3 := hid (below_trans HB2.out h3.bel)
        clear h3
        have hmk := mkWas n n1 n7 w3
        obtain ⟨W4, HW4⟩ : ∃ W4, Hid (w3.alloc (.cells (wasC n (fun _ => 0)).toArray 3) = W4) := ⟨_, rfl⟩
        rw [HW4.out] at hmk
        have HI0 : Hid (AgI w2 W4 zs X.xb w3.heap.size newX 0 (fun _ => 0) C X) := by
          have hb4 : Below w3.heap.size w3 W4 := by rw [← HW4.out]; exact (Below.refl _ _).alloc (Nat.le_refl _) _
          refine ⟨AX.new, H3.out.later hb4, rfl, ?_, by rw [← HW4.out, HN.out]; exact heap_alloc_new w3 _, H3.out.bel.size, fun s d _ hd => ?_⟩
          · rcases Nat.lt_or_ge (C w3.heap.size) 2000 with q | q
            · have := H3.out.lt _ q; omega
            · exact q
          · rw [stN_new s d hd]; exact ⟨by decide, by decide, .inl rfl⟩
        go_wp2_with fail
        clear hmk
        go_loopw [9] (fun v wr => ∃ (k : Nat) (V : PX) (F : Nat → Nat) (C' : Nat → Nat) (X' : XB), k ≤ xs.length ∧ v = .int .i64 (k : Int) ∧ Hid (AgI w2 wr zs X.xb w3.heap.size V (42 * k) F C' X')) (fun v _ => xs.length - (intOf v).toNat)
        case atStart => exact ⟨0, newX, fun _ => 0, C, X, Nat.zero_le _, rfl, HI0.out⟩
        case round =>
          obtain ⟨k, V, F, C1, X1, hk, rfl, HI⟩ := hrel
          by_cases hlt : k < xs.length
          · obtain ⟨hn9, b, o, rfl, y0, y1, y2, y3⟩ := ((HX.out.later HB2.out).later HI.out.wd.bel) k hlt
            obtain ⟨⟨xk, xS, xD, xN⟩, HS⟩ : ∃ e, Hid (xs[k]'hlt = e) := ⟨_, rfl⟩
            rw [HS.out] at y0 y1 y2 y3 hn9
            have HAct := hid (act_any xk xS xD xN HI.out.wd (HE.out.later HB2.out) (by omega) hn9)
            rw [HI.out.xb] at HAct
            go_wp2_with fail
            refine HAct.out.mono ?_
            rintro e w5 ⟨rfl, ho⟩
            obtain ⟨V2, C2, X2, hI2, -, -⟩ := HI.out.act (by omega) ho
            have HI2 := hid hI2
            clear ho hI2 y0 y1 y2 y3 HAct
            go_wp2_with fail
            go_loopw [10] (fun v wr => ∃ (d : Nat) (F2 : Nat → Nat), d ≤ 6 ∧ v = .int .i64 (d : Int) ∧ Hid (AgI w2 wr zs X.xb w3.heap.size V2 (42 * k + 42) F2 C2 X2)) (fun v _ => 6 - (intOf v).toNat)
            case atStart => exact ⟨0, F, Nat.zero_le _, rfl, HI2.out⟩
            case round =>
              obtain ⟨d, F2, hd6, rfl, HId⟩ := hrel
              by_cases hdl : d < 6
              · have hd' : (d : Int) < 6 := by omega
                by_cases h5 : k % 5 = 0
                · have h5' : (Int.tmod (k : Int) 5 == 0) = true := by rw [Int.tmod_eq_emod_of_nonneg (by omega)]; exact beq_iff_eq.2 (by omega)
                  have HStt := hid (states_any d n HId.out.wd (HE.out.later HB2.out) hdl HN.out)
                  rw [HId.out.xb] at HStt
                  go_wp2_with fail
                  refine HStt.out.mono ?_
                  rintro e w6 ⟨adS, capS, rfl, hsl, hb6, hlow6⟩
                  have HNe : Hid (∀ p, adS = some p → ¬ In1 w3.heap.size p.block) := fun p hp e => by have h1 := hlow6 p hp; have h2 := row_ltJ HId.out.row; have h3 : p.block = w3.heap.size := e; omega
                  have HId6 := hid (HId.out.later hb6)
                  have HSL := hid hsl
                  have HLen := hid (stsL_length V2 d n)
                  have HAg : Hid (AgF (stsL V2 d n) 0 n) := by have := ax_agree HId.out.ax hdl; rw [HN.out] at this; exact this
                  have HJA := hid (jagree_any A adS capS (stsL V2 d n) 0 n w6 (HId6.out.wd.held (HE.out.later HB2.out)) hsl (by rw [HLen.out]; omega) HAg.out)
                  rw [HLen.out] at HJA
                  clear hsl hb6 HStt
                  go_wp2_with fail
                  refine HJA.out.mono ?_
                  rintro e w7 ⟨v7, rfl, hv7, hb7⟩
                  obtain rfl := hv7.nil
                  have HId7 := hid (HId6.out.later hb7)
                  have HSL7 := hid (HSL.out.later hb7)
                  clear hv7 hb7 HJA hlow6
                  go_wp2_with fail
                  go_loopw [13] (fun v wr => ∃ (s : Nat) (F3 : Nat → Nat), s ≤ n ∧ v = .int .i64 (s : Int) ∧ Hid (AgI w2 wr zs X.xb w3.heap.size V2 (42 * k + 42) F3 C2 X2 ∧ SL wr adS (stsL V2 d n))) (fun v _ => n - (intOf v).toNat)
                  case atStart => exact ⟨0, F2, Nat.zero_le _, rfl, HId7.out, HSL7.out⟩
                  case round =>
                    obtain ⟨s, F3, hsn, rfl, HIs⟩ := hrel
                    by_cases hsl : s < n
                    · have hsl' : (s : Int) < (n : Int) := by omega
                      obtain ⟨bS, oS, hadS, z0, -, -⟩ := HIs.out.2 s (by rw [stsL_length]; exact hsl)
                      rw [stsL_get] at z0
                      subst hadS
                      obtain ⟨ph, HPh⟩ : ∃ ph, Hid ((stN (V2.nd s) d).ph = ph) := ⟨_, rfl⟩
                      rw [HPh.out] at z0
                      obtain ⟨q, HQ⟩ : ∃ q, Hid (d * n + s = q) := ⟨_, rfl⟩
                      have hq6 : q < 6 * n := by
                        rw [← HQ.out]
                        have : d * n ≤ 5 * n := Nat.mul_le_mul_right n (by omega)
                        omega
                      obtain ⟨dn, HDn⟩ : ∃ dn, Hid (d * n = dn) := ⟨_, rfl⟩
                      have hdn1 : (d : Int) * (n : Int) = (dn : Int) := by rw [← HDn.out]; simp
                      have hdn2 : dn ≤ 42 := by
                        rw [← HDn.out]
                        exact Nat.le_trans (Nat.mul_le_mul (show d ≤ 6 by omega) n7) (by decide)
                      have hdn3 : (dn : Int) + (s : Int) = (q : Int) := by rw [← HQ.out, HDn.out]; simp
                      have f0 : wr.cell? ⟨w3.heap.size, q, none⟩ = some (.int .i64 (F3 q : Int)) := by rw [cell_of_row _ _ _ _ _ _ HIs.out.1.row, List.getElem?_toArray, HN.out]; exact wasC_get n F3 hq6
                      have z1 := frozen_of_row _ _ q _ _ HIs.out.1.row
                      have HMay : Hid (mayN (F3 q) ph) := by have := HIs.out.1.may s d (by rw [HN.out]; exact hsl) hdl; rw [HN.out, HQ.out, HPh.out] at this; exact this
                      have HSt := hid (HIs.out.1.store (q := q) (p := ph) (by rw [HN.out]; exact hsl) hdl (by rw [HN.out]; exact HQ.out) HPh.out)
                      have HSLn : Hid (SL (wr.setCell ⟨w3.heap.size, q, none⟩ (.int .i64 (ph : Int))) (some ⟨bS, oS, none⟩) (stsL V2 d n)) := HIs.out.2.kept HSt.out.2 HNe.out
                      go_wp2_with fail
                      refine (rmay_yes (F3 q) ph _ HMay.out).mono ?_
                      rintro e w8 ⟨rfl, hx⟩
                      subst w8
                      go_wp2_with fail
                      go_roundw
                      case rel => exact ⟨s + 1, setF F3 q ph, by omega, by go_num, HSt.out.1, HSLn.out⟩
                      case measure => simp [intOf]; omega
                    · have hsl' : ¬ (s : Int) < (n : Int) := by omega
                      go_wp2_with fail
                      go_roundw
                      case rel => exact ⟨d + 1, F3, by omega, by go_num, HIs.out.1⟩
                      case measure => simp [intOf]; omega
                · have h5' : (Int.tmod (k : Int) 5 == 0) = false := by rw [Int.tmod_eq_emod_of_nonneg (by omega)]; exact beq_eq_false_iff_ne.2 (by omega)
                  go_wp2_with fail
                  go_roundw
                  case rel => exact ⟨k + 1, V2, F2, C2, X2, by omega, by go_num, by rw [show 42 * (k + 1) = 42 * k + 42 by omega]; exact HId.out⟩
                  case measure => simp [intOf]; omega
              · have hd' : ¬ (d : Int) < 6 := by omega
                go_wp2_with fail
                go_roundw
                case rel => exact ⟨k + 1, V2, F2, C2, X2, by omega, by go_num, by rw [show 42 * (k + 1) = 42 * k + 42 by omega]; exact HId.out⟩
                case measure => simp [intOf]; omega
          · have hlt' : ¬ ((k : Int) < (xs.length : Int)) := by omega
            go_wp2_with fail
            go_loopw [15] (fun v wr => ∃ d : Nat, d ≤ 6 ∧ v = .int .i64 (d : Int) ∧ Hid (AgI w2 wr zs X.xb w3.heap.size V (42 * k) F C1 X1)) (fun v _ => 6 - (intOf v).toNat)
            case atStart => exact ⟨0, Nat.zero_le _, rfl, HI.out⟩
            case round =>
              obtain ⟨d, hd6, rfl, HId⟩ := hrel
              by_cases hdl : d < 6
              · have hd' : (d : Int) < 6 := by omega
                have HStt := hid (states_any d n HId.out.wd (HE.out.later HB2.out) hdl HN.out)
                rw [HId.out.xb] at HStt
                go_wp2_with fail
                refine HStt.out.mono ?_
                rintro e w6 ⟨adS, capS, rfl, hsl, hb6, -⟩
                have HId6 := hid (HId.out.later hb6)
                have HSL := hid hsl
                have HLen := hid (stsL_length V d n)
                have HAg : Hid (AgF (stsL V d n) 0 n) := by have := ax_agree HId.out.ax hdl; rw [HN.out] at this; exact this
                have HJA := hid (jagree_any A adS capS (stsL V d n) 0 n w6 (HId6.out.wd.held (HE.out.later HB2.out)) hsl (by rw [HLen.out]; omega) HAg.out)
                rw [HLen.out] at HJA
                clear hsl hb6 HStt
                go_wp2_with fail
                refine HJA.out.mono ?_
                rintro e w7 ⟨v7, rfl, hv7, hb7⟩
                obtain rfl := hv7.nil
                have HId7 := hid (HId6.out.later hb7)
                have HSL7 := hid (HSL.out.later hb7)
                clear hv7 hb7 HJA
                go_wp2_with fail
                go_loopw [18, 19, 20] (fun u t v wr => ∃ (s : Nat) (c b : Bool), s ≤ n ∧ u = .bool c ∧ t = .bool b ∧ v = .int .i64 (s : Int) ∧ wr = w7 ∧ Hid ((c = true → ∃ i, i < n ∧ ((stN (V.nd i) d).ph = 2 ∨ (stN (V.nd i) d).ph = 4)) ∧ (b = true → ∃ i, i < n ∧ (stN (V.nd i) d).ph = 0))) (fun _ _ v _ => n - (intOf v).toNat)
                case atStart => exact ⟨0, false, false, Nat.zero_le _, rfl, rfl, rfl, rfl, (fun x => by cases x), (fun x => by cases x)⟩
                case round =>
                  obtain ⟨s, c, b', hsn, rfl, rfl, rfl, hwr, HCb⟩ := hrel
                  subst hwr
                  by_cases hsl : s < n
                  · have hsl' : (s : Int) < (n : Int) := by omega
                    obtain ⟨bS, oS, hadS, z0, -, -⟩ := HSL7.out s (by rw [stsL_length]; exact hsl)
                    rw [stsL_get] at z0
                    subst hadS
                    obtain ⟨ph, HPh⟩ : ∃ ph, Hid ((stN (V.nd s) d).ph = ph) := ⟨_, rfl⟩
                    rw [HPh.out] at z0
                    by_cases p2 : ph = 2
                    · subst p2
                      rw [show ((2 : Nat) : Int) = 2 from rfl] at z0
                      have HNx : Hid ((true = true → ∃ i, i < n ∧ ((stN (V.nd i) d).ph = 2 ∨ (stN (V.nd i) d).ph = 4)) ∧ (b' = true → ∃ i, i < n ∧ (stN (V.nd i) d).ph = 0)) := ⟨fun _ => ⟨s, hsl, .inl HPh.out⟩, HCb.out.2⟩
                      go_wp2_with fail
                      go_roundw
                      case rel => exact ⟨s + 1, true, b', by omega, rfl, rfl, by go_num, by trivial, HNx.out⟩
                      case measure => simp [intOf]; omega
                    · by_cases p4 : ph = 4
                      · subst p4
                        rw [show ((4 : Nat) : Int) = 4 from rfl] at z0
                        have HNx : Hid ((true = true → ∃ i, i < n ∧ ((stN (V.nd i) d).ph = 2 ∨ (stN (V.nd i) d).ph = 4)) ∧ (b' = true → ∃ i, i < n ∧ (stN (V.nd i) d).ph = 0)) := ⟨fun _ => ⟨s, hsl, .inr HPh.out⟩, HCb.out.2⟩
                        go_wp2_with fail
                        go_roundw
                        case rel => exact ⟨s + 1, true, b', by omega, rfl, rfl, by go_num, by trivial, HNx.out⟩
                        case measure => simp [intOf]; omega
                      · have q2 : ((ph : Int) == 2) = false := beq_eq_false_iff_ne.2 (by omega)
                        have q4 : ((ph : Int) == 4) = false := beq_eq_false_iff_ne.2 (by omega)
                        by_cases p0 : ph = 0
                        · subst p0
                          rw [show ((0 : Nat) : Int) = 0 from rfl] at z0
                          have HNx : Hid ((c = true → ∃ i, i < n ∧ ((stN (V.nd i) d).ph = 2 ∨ (stN (V.nd i) d).ph = 4)) ∧ (true = true → ∃ i, i < n ∧ (stN (V.nd i) d).ph = 0)) := ⟨HCb.out.1, fun _ => ⟨s, hsl, HPh.out⟩⟩
                          clear q2 q4
                          go_wp2_with fail
                          go_roundw
                          case rel => exact ⟨s + 1, c, true, by omega, rfl, rfl, by go_num, by trivial, HNx.out⟩
                          case measure => simp [intOf]; omega
                        · have q0 : ((ph : Int) == 0) = false := beq_eq_false_iff_ne.2 (by omega)
                          go_wp2_with fail
                          go_roundw
                          case rel => exact ⟨s + 1, c, b', by omega, rfl, rfl, by go_num, by trivial, HCb.out⟩
                          case measure => simp [intOf]; omega
                  · have hsl' : ¬ (s : Int) < (n : Int) := by omega
                    have hcb : (c && b') = false := by
                      cases c with
                      | false => rfl
                      | true =>
                        cases b' with
                        | false => rfl
                        | true =>
                          obtain ⟨i, hi, h1⟩ := HCb.out.1 rfl
                          obtain ⟨j, hj, h2⟩ := HCb.out.2 rfl
                          exact absurd h2 (ax_all HId7.out.ax hdl (by rw [HN.out]; exact hi) (by rw [HN.out]; exact hj) h1)
                    cases c with
                    | false =>
                      go_wp2_with fail
                      go_roundw
                      case rel => exact ⟨d + 1, by omega, by go_num, HId7.out⟩
                      case measure => simp [intOf]; omega
                    | true =>
                      cases b' with
                      | false =>
                        go_wp2_with fail
                        go_roundw
                        case rel => exact ⟨d + 1, by omega, by go_num, HId7.out⟩
                        case measure => simp [intOf]; omega
                      | true => cases hcb
              · have hd' : ¬ (d : Int) < 6 := by omega
                have HEf := hid (ax_events HId.out.ax)
                rw [HN.out] at HEf
                have hev := HId.out.wd.inv.ev
                obtain ⟨ne, HNe⟩ : ∃ ne, Hid (V.evs.length = ne) := ⟨_, rfl⟩
                rw [HNe.out] at hev
                have HEv := hid (events_any HId.out.wd)
                rw [HId.out.xb] at HEv
                go_wp2_with fail
                refine HEv.out.mono ?_
                rintro e w6 ⟨v6, rfl, ho6, hb6⟩
                obtain ⟨ad6, cap6, rfl, -, -, hel6⟩ := own_el ho6
                have HId6 := hid (HId.out.later hb6)
                have HCk := hid (jcheck_ok A ad6 cap6 V.evs (n : Int) 0 V.evs.length w6 (HId6.out.wd.held (HE.out.later HB2.out)) (by omega) (by omega) hel6 (by rw [HNe.out]; omega) HEf.out)
                clear ho6 hb6 hel6
                go_wp2_with fail
                refine HCk.out.mono ?_
                rintro e w7 ⟨v7, rfl, hv7, hb7⟩
                obtain rfl := hv7.nil
                have HId7 := hid (HId6.out.later hb7)
                have HEv7 := hid (events_any HId7.out.wd)
                rw [HId7.out.xb] at HEv7
                clear hv7 hb7
                go_wp2_with fail
                refine HEv7.out.mono ?_
                rintro e w8 ⟨v8, rfl, ho8, hb8⟩
                obtain ⟨ad8, cap8, rfl, -, -, hel8⟩ := own_el ho8
                have HBk := hid (backEvents_any ad8 cap8 V.evs w8 hel8 (by rw [HNe.out]; omega))
                have HId8 := hid (HId7.out.later hb8)
                clear ho8 hb8 hel8
                go_wp2_with fail
                refine HBk.out.mono ?_
                rintro e w9 ⟨ad9, cap9, rfl, hel9, hb9⟩
                have HRv := hid (revf_ok ad9 cap9 V.evs (n : Int) 0 V.evs.length 0 (-1) w9 (by omega) (by omega) hel9 (by rw [HNe.out]; omega) HEf.out rfl rfl)
                have HId9 := hid (HId8.out.later hb9)
                unfold fltV at HRv
                clear hb9 hel9
                go_wp2_with fail
                refine HRv.out.mono ?_
                rintro e w10 ⟨rfl, hb10⟩
                have HB10 := hid (below_trans HB2.out (below_trans HId9.out.wd.bel hb10))
                have hfld : (Instr.field 55 (.agg #[.int .i64 0, .int .i64 (-1)]) 0).run Tryz.prog w10 = .ok (.int .i64 0) w10 := by rfl
                clear hb10
                go_wp2_with fail
                go_ret
                exact ⟨rfl, HB10.out⟩
      · obtain ⟨c, hc⟩ : ∃ c, errW zs = c + 1 := ⟨errW zs - 1, by omega⟩
        have HNew := hid (wnew_err v2 c HV2.out (HE.out.later HB2.out) hc)
        go_wp2_with fail
        refine HNew.out.mono ?_
        rintro e w3 ⟨rfl, hx⟩
        subst w3
        go_wp2_with fail
        go_ret
        exact ⟨rfl, HB2.out⟩
end Go.Proofs.YtdpemmmbkjmplabGreatDoor
namespace Go.Proofs.YtdpemmmbkjmplabGreatDoor
open Go.RowKit

theorem rfinal_is (p : Nat) (b : Bool) (w : World) (h : finB p = b) : Calls Tryz.prog 33 #[.int .i64 (p : Int)] w fun e w' => e = .returned (.bool b) ∧ w' = w := by
  subst h
  unfold finB
  by_cases h2 : p = 2
  · subst h2
    go_enter Tryz.func33, Tryz.ntmps33
    go_wp2_with fail
    go_ret
    exact ⟨rfl, rfl⟩
  · by_cases h3 : p = 3
    · subst h3
      go_enter Tryz.func33, Tryz.ntmps33
      go_wp2_with fail
      go_ret
      exact ⟨rfl, rfl⟩
    · rw [decide_eq_false (by omega)]
      have g2 : ¬ (p : Int) = 2 := by omega
      have g3 : ¬ (p : Int) = 3 := by omega
      go_enter Tryz.func33, Tryz.ntmps33
      go_wp2_with fail
      go_ret
      exact ⟨by simp; omega, rfl⟩
end Go.Proofs.YtdpemmmbkjmplabGreatDoor
namespace Go.Proofs.YtdpemmmbkjmplabGreatDoor
open Go.RowKit

theorem rSetErr_any (v : Value) (zs : List Int) (s : Int) (w : World) (hv : IsSl w v zs) :
    Calls Tryz.prog 27 #[v, .int .i64 s] w fun e w' => e = .returned (.int .i64 (errS zs s)) ∧ w' = w := by
  have H := hid (rErr_any v zs w hv)
  obtain ⟨a, cap, rfl, hm, -, -⟩ := hv
  unfold maxLen at hm
  unfold errS
  by_cases h : errW zs = 0
  · rw [h] at H
    rw [if_pos h]
    have hl := (errW_zero h).2.1
    have hp := pow_le7 hl
    clear h
    by_cases c1 : s < 0
    · rw [if_pos (Or.inl c1)]
      go_enter Tryz.func27, Tryz.ntmps27
      go_wp2_with (first | (go_at_call 8; refine H.out.mono ?_; rintro e w' ⟨rfl, rfl⟩) | (go_at_call 9; refine (two_any zs.length _ (by omega)).mono ?_; rintro e w' ⟨rfl, rfl⟩))
      go_ret
      exact ⟨rfl, rfl⟩
    · by_cases c2 : 2 ^ zs.length ≤ s
      · rw [if_pos (Or.inr c2)]
        go_enter Tryz.func27, Tryz.ntmps27
        go_wp2_with (first | (go_at_call 8; refine H.out.mono ?_; rintro e w' ⟨rfl, rfl⟩) | (go_at_call 9; refine (two_any zs.length _ (by omega)).mono ?_; rintro e w' ⟨rfl, rfl⟩))
        go_ret
        exact ⟨rfl, rfl⟩
      · rw [if_neg (by omega)]
        go_enter Tryz.func27, Tryz.ntmps27
        go_wp2_with (first | (go_at_call 8; refine H.out.mono ?_; rintro e w' ⟨rfl, rfl⟩) | (go_at_call 9; refine (two_any zs.length _ (by omega)).mono ?_; rintro e w' ⟨rfl, rfl⟩))
        go_ret
        exact ⟨rfl, rfl⟩
  · rw [if_neg h]
    obtain ⟨c, hc⟩ : ∃ c, errW zs = c + 1 := ⟨errW zs - 1, by omega⟩
    rw [hc] at H ⊢
    clear h hc
    have hc : (((c + 1 : Nat) : Int) == 0) = false := beq_eq_false_iff_ne.2 (by omega)
    go_enter Tryz.func27, Tryz.ntmps27
    go_wp2_with (go_at_call 8; refine H.out.mono ?_; rintro e w' ⟨rfl, rfl⟩)
    go_ret
    exact ⟨rfl, rfl⟩
end Go.Proofs.YtdpemmmbkjmplabGreatDoor
namespace Go.Proofs.YtdpemmmbkjmplabGreatDoor
open Go.RowKit

theorem rSetErr_i (v : Value) (zs : List Int) (s n : Int) (w : World) (hv : IsSl w v zs) (hn : (errS zs s : Int) = n) : Calls Tryz.prog 27 #[v, .int .i64 s] w fun e w' => e = .returned (.int .i64 n) ∧ w' = w := by
  subst hn; exact rSetErr_any v zs s w hv
theorem FB.new (zs : List Int) : FB zs newX 0 :=
  ⟨fun i d _ hd => by rw [stN_new i d hd]; exact Nat.le_refl _, fun i d x _ _ hx => (by cases hx), fun f hf => (by cases hf)⟩
theorem pot_new (zs : List Int) : pot zs newX ≤ 0 := by
  unfold pot
  have h : ∀ n k, sumN (fun i => potN n (newX.nd i)) k = 0 := by
    intro n k
    induction k with
    | zero => rfl
    | succ k ih => unfold sumN; rw [ih]; rfl
  rw [h]
  exact Nat.le_refl _
/-- What stands behind k steps. -/
def AtI (w0 wr : World) (zs : List Int) (xb : Nat) (k : Nat) : Prop := ∃ V C X, WD w0 wr C X zs V (42 * k) ∧ X.xb = xb ∧ AX zs V ∧ FB zs V (42 * k) ∧ pot zs V ≤ 210 * k
theorem at_step {w0 wr w' : World} {zs : List Int} {xb k : Nat} {V : PX} {C : Nat → Nat} {X : XB} (h : WD w0 wr C X zs V (42 * k) ∧ X.xb = xb ∧ AX zs V ∧ FB zs V (42 * k) ∧ pot zs V ≤ 210 * k) (hk : k < 1000) (ho : StpOut w0 wr w' C X zs V (42 * k)) : AtI w0 w' zs xb (k + 1) := by
  obtain ⟨h1, h2, h3, h4, h5⟩ := h
  obtain ⟨V', hs, C', X', g1, g2, -, -⟩ := ho
  refine ⟨V', C', X', g1.mono (by omega), (key_xb g2).trans h2, (hs.ax h3 h1.inv (by omega)).1, (hs.fb h4 h1.inv (by omega)).mono (by omega), ?_⟩
  have := hs.pot h1.inv
  omega
/-- What stands along the links' loop. -/
def LkI (w0 wr : World) (zs : List Int) (set : Int) (xb : Nat) (V0 : PX) (a b : Nat) : Prop := ∃ V C X, WD w0 wr C X zs V (8400 + 9 * a + b) ∧ X.xb = xb ∧ Bare zs set V0 V a b
theorem down_bare {w0 w : World} {C : Nat → Nat} {X : XB} {zs : List Int} {V V0 : PX} {m a xb : Nat} {set : Int} {A : Nat → Addr} (h : WD w0 w C X zs V m) (hE : Held9 w0 A) (ha : a < zs.length) (hx : X.xb = xb) (hB : Bare zs set V0 V a zs.length) :
    Calls Tryz.prog 30 #[.pointer (some ⟨xb, 0, none⟩), .int .i64 (a : Int)] w fun e w' => (∃ u, e = .returned u) ∧ ∃ V' C' X', WD w0 w' C' X' zs V' (m + 1) ∧ X'.xb = xb ∧ Bare zs set V0 V' a zs.length ∧ upN (V'.nd a) = false ∧ ∀ d, (V'.nd a).ld d = none := by
  cases hu : upN (V.nd a) with
  | true =>
    have h1 := down_any (a : Int) 0 h hE (by unfold cUp; rw [if_pos (by omega), Int.toNat_natCast, hu]; rfl)
    rw [hx] at h1
    refine h1.mono ?_
    rintro e w' ⟨rfl, C', X', g1, g2, -, -⟩
    rw [if_pos rfl, Int.toNat_natCast] at g1
    exact ⟨⟨_, rfl⟩, _, C', X', g1, (key_xb g2).trans hx, hB.down.1, by unfold downX; rw [nd_at]; rfl, hB.down.2⟩
  | false =>
    have h1 := down_any (a : Int) 6 h hE (by unfold cUp; rw [if_pos (by omega), Int.toNat_natCast, hu]; rfl)
    rw [hx] at h1
    refine h1.mono ?_
    rintro e w' ⟨rfl, C', X', g1, g2, -, -⟩
    rw [if_neg (by decide)] at g1
    refine ⟨⟨_, rfl⟩, _, C', X', g1, (key_xb g2).trans hx, hB, hu, fun d => ?_⟩
    cases hl : (V.nd a).ld d with
    | none => rfl
    | some x =>
      have h2 := ((h.inv.nd a ha).ld d x hl).1
      unfold upN at hu
      simp at hu
      exact absurd hu h2
/-- The deals that are known, as they are gathered. -/
def KnI (w7 wr : World) (n : Nat) (set : Int) (V : PX) (v : Value) (L : List Int) : Prop := wr.ownsRow w7.heap.size 3 1 v L.length (L.map (Value.int .i64)) ∧ Below w7.heap.size w7 wr ∧ ∀ x, x ∈ L → ∃ e : Nat, e < 6 ∧ x = (e : Int) ∧ ∃ i, i < n ∧ bit set i = true ∧ stN (V.nd i) e ≠ St.zero
theorem KnI.later {w7 wr w' : World} {n : Nat} {set : Int} {V : PX} {v : Value} {L : List Int} (h : KnI w7 wr n set V v L) (hb : Below wr.heap.size wr w') : KnI w7 w' n set V v L :=
  ⟨own_later h.1 hb (Nat.le_refl _), below_trans h.2.1 hb, h.2.2⟩
theorem st_none (w : World) : (binOp .neq 43 (.agg #[.int .i64 0, .int .i64 0, .int .i64 0]) (.agg #[.int .i64 0, .int .i64 0, .int .i64 0])).run Tryz.prog w = .ok (.bool false) w := by
  go_simp
theorem st_isnt (h1 h2 h3 : Nat) (h : ¬ (h1 = 0 ∧ h2 = 0 ∧ h3 = 0)) (w : World) : (binOp .neq 43 (.agg #[.int .i64 (h1 : Int), .int .i64 (h2 : Int), .int .i64 (h3 : Int)]) (.agg #[.int .i64 0, .int .i64 0, .int .i64 0])).run Tryz.prog w = .ok (.bool true) w := by
  by_cases a1 : h1 = 0
  · by_cases a2 : h2 = 0
    · have a3 : ¬ ((h3 : Int) = 0) := by omega
      subst a1 a2
      go_simp
      omega
    · have a3 : ¬ ((h2 : Int) = 0) := by omega
      go_simp
  · have a3 : ¬ ((h1 : Int) = 0) := by omega
    go_simp
set_option maxHeartbeats 8000000 in
set_option maxRecDepth 100000 in
theorem wends_any (A : Nat → Addr) (v : Value) (zs : List Int) (ad : Option Addr) (cap : Nat) (xs : List Step4) (set : Int) (w : World) (hE : Held9 w A) (hv : IsSl w v zs) (hx : SIn w ad xs) (hm : xs.length ≤ maxLen) :
    Calls Tryz.prog 5 #[v, .slice ad xs.length cap, .int .i64 set] w fun e w' => e = .returned (.bool true) ∧ Below w.heap.size w w' := by
  unfold maxLen at hm
  have HE := hid hE
  have HV := hid hv
  have HX := hid hx
  obtain ⟨av, capv, rfl, hzm, -, hcell⟩ := hv
  unfold maxLen at hzm
  obtain ⟨n, HN⟩ : ∃ n, Hid (zs.length = n) := ⟨_, rfl⟩
  clear hE hx
  by_cases he : errS zs set = 0
  · obtain ⟨hW, s0, s1⟩ := errS_zero he
    obtain ⟨n1, n7, hok, -⟩ := errW_zero hW
    have hp7 := (pow_le7 n7).1
    have s2 : set < 128 := by omega
    obtain ⟨vb, vo, rfl, hcs⟩ := hcell (by omega)
    have HO := hid hok
    have HCs := hid hcs
    have HSz : Hid (((errS zs set : Nat) : Int) = 0) := by rw [he]; rfl
    clear hok hcs he
    cases hen : enoughB zs set with
    | false =>
      rw [HN.out] at n1 n7 hzm
      have HV2 := HV
      rw [HN.out] at HV ⊢
      go_enter Tryz.func5, Tryz.ntmps5
      go_wp2_with fail
      refine (born_any A w HE.out).mono ?_
      rintro e w1 ⟨rfl, hb⟩
      have HB1 := hid hb
      have HSe := hid (rSetErr_i _ zs set 0 w1 (HV.out.later hb) HSz.out)
      have HEn := hid (rEnough_is vb vo capv zs set false w1 (by rw [HN.out]; omega) HO.out s0 (by omega) (fun i hi => cell_later hb (HCs.out i hi)) hen)
      rw [HN.out] at HEn
      clear hb
      go_wp2_with fail
      refine HSe.out.mono ?_
      rintro e w2 ⟨rfl, hx⟩
      subst w2
      go_wp2_with fail
      refine HEn.out.mono ?_
      rintro e w2 ⟨rfl, hx⟩
      subst w2
      go_wp2_with fail
      go_ret
      exact ⟨rfl, HB1.out⟩
    | true =>
      have HEnT := hid hen
      by_cases h200 : 200 < xs.length
      · have e2 : (200 : Int) < (xs.length : Int) := by omega
        rw [HN.out] at n1 n7 hzm
        rw [HN.out] at HV ⊢
        go_enter Tryz.func5, Tryz.ntmps5
        go_wp2_with fail
        refine (born_any A w HE.out).mono ?_
        rintro e w1 ⟨rfl, hb⟩
        have HB1 := hid hb
        have HSe := hid (rSetErr_i _ zs set 0 w1 (HV.out.later hb) HSz.out)
        have HEn := hid (rEnough_is vb vo capv zs set true w1 (by rw [HN.out]; omega) HO.out s0 (by omega) (fun i hi => cell_later hb (HCs.out i hi)) hen)
        rw [HN.out] at HEn
        clear hb hen
        go_wp2_with fail
        refine HSe.out.mono ?_
        rintro e w2 ⟨rfl, hx⟩
        subst w2
        go_wp2_with fail
        refine HEn.out.mono ?_
        rintro e w2 ⟨rfl, hx⟩
        subst w2
        go_wp2_with fail
        go_ret
        exact ⟨rfl, HB1.out⟩
      · have e2 : ¬ (200 : Int) < (xs.length : Int) := by omega
        rw [HN.out] at n1 n7 hzm
        rw [HN.out] at HV ⊢
        go_enter Tryz.func5, Tryz.ntmps5
        go_wp2_with fail
        refine (born_any A w HE.out).mono ?_
        rintro e w1 ⟨rfl, hb⟩
        have HB1 := hid hb
        have HSe := hid (rSetErr_i _ zs set 0 w1 (HV.out.later hb) HSz.out)
        have HEn := hid (rEnough_is vb vo capv zs set true w1 (by rw [HN.out]; omega) HO.out s0 (by omega) (fun i hi => cell_later hb (HCs.out i hi)) hen)
        rw [HN.out] at HEn
        have HOwn := hid (ownInts_any _ zs w1 (HV.out.later hb) (by rw [HN.out]; omega))
        clear hb hen
        go_wp2_with fail
        refine HSe.out.mono ?_
        rintro e w2 ⟨rfl, hx⟩
        subst w2
        go_wp2_with fail
        refine HEn.out.mono ?_
        rintro e w2 ⟨rfl, hx⟩
        subst w2
        go_wp2_with fail
        refine HOwn.out.mono ?_
        rintro e w2 ⟨v2, rfl, hv2, hb2⟩
        have HV2 := hid hv2
        have HB2 := hid (below_trans HB1.out hb2)
        have HNew := hid (wnew_ok v2 HV2.out (HE.out.later HB2.out) hW)
        clear hv2 hb2
        go_wp2_with fail
        refine HNew.out.mono ?_
        rintro e w3 ⟨C, X, rfl, h3⟩
        have HI0 : Hid (AtI w2 w3 zs X.xb 0) := ⟨newX, C, X, h3, rfl, AX.new, FB.new zs, pot_new zs⟩
        clear h3
        go_wp2_with fail
        go_loopw [10] (fun v wr => ∃ k : Nat, k ≤ xs.length ∧ v = .int .i64 (k : Int) ∧ Hid (AtI w2 wr zs X.xb k)) (fun v _ => xs.length - (intOf v).toNat)
        case atStart => exact ⟨0, Nat.zero_le _, rfl, HI0.out⟩
        case round =>
          obtain ⟨k, hk, rfl, HI⟩ := hrel
          by_cases hlt : k < xs.length
          · obtain ⟨V, C1, X1, HT⟩ : ∃ V C1 X1, Hid (WD w2 wr C1 X1 zs V (42 * k) ∧ X1.xb = X.xb ∧ AX zs V ∧ FB zs V (42 * k) ∧ pot zs V ≤ 210 * k) := HI.out
            obtain ⟨hn9, b, o, rfl, y0, y1, y2, y3⟩ := ((HX.out.later HB2.out).later HT.out.1.bel) k hlt
            obtain ⟨⟨xk, xS, xD, xN⟩, HS⟩ : ∃ e, Hid (xs[k]'hlt = e) := ⟨_, rfl⟩
            rw [HS.out] at y0 y1 y2 y3 hn9
            have HAct := hid (act_any xk xS xD xN HT.out.1 (HE.out.later HB2.out) (by omega) hn9)
            rw [HT.out.2.1] at HAct
            go_wp2_with fail
            refine HAct.out.mono ?_
            rintro e w5 ⟨rfl, ho⟩
            have HI2 := hid (at_step HT.out (by omega) ho)
            clear ho y0 y1 y2 y3 HAct
            go_wp2_with fail
            go_roundw
            case rel => exact ⟨k + 1, by omega, by go_num, HI2.out⟩
            case measure => simp [intOf]; omega
          · have hlt' : ¬ ((k : Int) < (xs.length : Int)) := by omega
            obtain ⟨V0, C1, X1, HT⟩ : ∃ V C1 X1, Hid (WD w2 wr C1 X1 zs V (42 * k) ∧ X1.xb = X.xb ∧ AX zs V ∧ FB zs V (42 * k) ∧ pot zs V ≤ 210 * k) := HI.out
            have HL0 : Hid (LkI w2 wr zs set X.xb V0 0 0) := ⟨V0, C1, X1, HT.out.1.mono (by omega), HT.out.2.1, Bare.start V0⟩
            go_wp2_with fail
            go_loopw [11] (fun v wr => ∃ a : Nat, a ≤ n ∧ v = .int .i64 (a : Int) ∧ Hid (LkI w2 wr zs set X.xb V0 a 0)) (fun v _ => n - (intOf v).toNat)
            case atStart => exact ⟨0, Nat.zero_le _, rfl, HL0.out⟩
            case round =>
              obtain ⟨a, han, rfl, HLa⟩ := hrel
              by_cases hal : a < n
              · have hal' : (a : Int) < (n : Int) := by omega
                go_wp2_with fail
                go_loopw [12] (fun v wr => ∃ b : Nat, b ≤ n ∧ v = .int .i64 (b : Int) ∧ Hid (LkI w2 wr zs set X.xb V0 a b)) (fun v _ => n - (intOf v).toNat)
                case atStart => exact ⟨0, Nat.zero_le _, rfl, HLa.out⟩
                case round =>
                  obtain ⟨b, hbn, rfl, HLb⟩ := hrel
                  obtain ⟨V, C2, X2, HW⟩ : ∃ V C X', Hid (WD w2 wr C X' zs V (8400 + 9 * a + b) ∧ X'.xb = X.xb ∧ Bare zs set V0 V a b) := HLb.out
                  by_cases hbl : b < n
                  · have hbl' : (b : Int) < (n : Int) := by omega
                    have HLk : ∀ x : Bool, (bit set a && bit set b) = x → Hid (Calls Tryz.prog 29 #[.pointer (some ⟨X.xb, 0, none⟩), .int .i64 (a : Int), .int .i64 (b : Int), .bool x] wr fun e w' => e = .returned .nilIface ∧ LkI w2 w' zs set X.xb V0 a (b + 1)) := fun x hxb => by
                      have h1 := link_ok a b x HW.out.1 (by rw [HN.out]; omega) (by rw [HN.out]; omega) (by omega)
                      rw [HW.out.2.1] at h1
                      refine h1.mono ?_
                      rintro e w' ⟨rfl, C', X', g1, g2, -, -⟩
                      refine ⟨rfl, linkX V a b x, C', X', g1.mono (by omega), (key_xb g2).trans HW.out.2.1, ?_⟩
                      rw [← hxb]
                      exact HW.out.2.2.link
                    cases hba : bit set a with
                    | false =>
                      have HHa := hid (rHas_is set a false wr (by omega) s0 (by omega) hba)
                      have HL := HLk false (by rw [hba]; rfl)
                      clear HLk
                      go_wp2_with fail
                      refine HHa.out.mono ?_
                      rintro e w6 ⟨rfl, hx⟩
                      subst w6
                      go_wp2_with fail
                      refine HL.out.mono ?_
                      rintro e w6 ⟨rfl, ho⟩
                      have HLn := hid ho
                      clear ho
                      go_wp2_with fail
                      go_roundw
                      case rel => exact ⟨b + 1, by omega, by go_num, HLn.out⟩
                      case measure => simp [intOf]; omega
                    | true =>
                      have HHa := hid (rHas_is set a true wr (by omega) s0 (by omega) hba)
                      obtain ⟨x, HXb⟩ : ∃ x, Hid (bit set b = x) := ⟨_, rfl⟩
                      have HHb := hid (rHas_is set b x wr (by omega) s0 (by omega) HXb.out)
                      have HL := HLk x (by rw [hba, HXb.out]; rfl)
                      clear HLk
                      go_wp2_with fail
                      refine HHa.out.mono ?_
                      rintro e w6 ⟨rfl, hx⟩
                      subst w6
                      go_wp2_with fail
                      refine HHb.out.mono ?_
                      rintro e w6 ⟨rfl, hx⟩
                      subst w6
                      go_wp2_with fail
                      refine HL.out.mono ?_
                      rintro e w6 ⟨rfl, ho⟩
                      have HLn := hid ho
                      clear ho
                      go_wp2_with fail
                      go_roundw
                      case rel => exact ⟨b + 1, by omega, by go_num, HLn.out⟩
                      case measure => simp [intOf]; omega
                  · obtain rfl : b = n := by omega
                    have hbl' : ¬ (b : Int) < (b : Int) := by omega
                    have HBn : Hid (Bare zs set V0 V a zs.length) := by rw [HN.out]; exact HW.out.2.2
                    cases hba : bit set a with
                    | false =>
                      have HHa := hid (rHas_is set a false wr (by omega) s0 (by omega) hba)
                      have HLn : Hid (LkI w2 wr zs set X.xb V0 (a + 1) 0) := ⟨V, C2, X2, HW.out.1.mono (by omega), HW.out.2.1, HBn.out.row hba⟩
                      go_wp2_with fail
                      refine HHa.out.mono ?_
                      rintro e w6 ⟨rfl, hx⟩
                      subst w6
                      go_wp2_with fail
                      go_roundw
                      case rel => exact ⟨a + 1, by omega, by go_num, HLn.out⟩
                      case measure => simp [intOf]; omega
                    | true =>
                      have HHa := hid (rHas_is set a true wr (by omega) s0 (by omega) hba)
                      have HDn := hid (down_bare (xb := X.xb) HW.out.1 (HE.out.later HB2.out) (by rw [HN.out]; omega) HW.out.2.1 HBn.out)
                      go_wp2_with fail
                      refine HHa.out.mono ?_
                      rintro e w6 ⟨rfl, hx⟩
                      subst w6
                      go_wp2_with fail
                      refine HDn.out.mono ?_
                      rintro e w6 ⟨⟨u, rfl⟩, V3, C3, X3, g1, g2, g3, g4, g5⟩
                      have HUp : Hid (Calls Tryz.prog 31 #[.pointer (some ⟨X.xb, 0, none⟩), .int .i64 (a : Int)] w6 fun e w' => e = .returned .nilIface ∧ LkI w2 w' zs set X.xb V0 (a + 1) 0) := by
                        have h1 := wake_any (a : Int) 0 g1 (HE.out.later HB2.out) (by
                          unfold cWake
                          rw [if_pos (by rw [HN.out]; omega), Int.toNat_natCast, g4]
                          rfl)
                        rw [g2] at h1
                        refine h1.mono ?_
                        rintro e w' ⟨rfl, C', X', q1, q2, -, -⟩
                        rw [if_pos rfl, Int.toNat_natCast] at q1
                        exact ⟨rfl, _, C', X', q1.mono (by omega), (key_xb q2).trans g2, g3.wake g5⟩
                      clear g1 g2 g3 g4 g5
                      go_wp2_with fail
                      refine HUp.out.mono ?_
                      rintro e w7 ⟨rfl, ho⟩
                      have HLn := hid ho
                      clear ho
                      go_wp2_with fail
                      go_roundw
                      case rel => exact ⟨a + 1, by omega, by go_num, HLn.out⟩
                      case measure => simp [intOf]; omega
              · obtain rfl : a = n := by omega
                have hal' : ¬ (a : Int) < (a : Int) := by omega
                obtain ⟨w7, rfl⟩ : ∃ w7, w7 = wr := ⟨wr, rfl⟩
                obtain ⟨V, C2, X2, HW⟩ : ∃ V C X', Hid (WD w2 w7 C X' zs V (8400 + 9 * a + 0) ∧ X'.xb = X.xb ∧ Bare zs set V0 V a 0) := HLa.out
                have HK0 : Hid (KnI w7 w7 a set V (.slice none 0 0) []) := ⟨World.ownsRow_nil _ _ _ _, Below.refl _ _, fun x hx => by cases hx⟩
                obtain ⟨i0, hi, hz0, hz1, hz2⟩ := info_parts Tryz.infoInt
                go_wp2_with fail
                go_loopw [13, 14] (fun v i wr => ∃ (d : Nat) (L : List Int), d ≤ 6 ∧ i = .int .i64 (d : Int) ∧ L.length ≤ d ∧ Hid (KnI w7 wr a set V v L)) (fun _ i _ => 6 - (intOf i).toNat)
                case atStart => exact ⟨0, [], Nat.zero_le _, rfl, Nat.zero_le _, HK0.out⟩
                case round =>
                  obtain ⟨d, L, hd6, rfl, hLd, HK⟩ := hrel
                  by_cases hdl : d < 6
                  · have hd' : (d : Int) < 6 := by omega
                    have HStt := hid (states_any d a (HW.out.1.later HK.out.2.1) (HE.out.later HB2.out) hdl HN.out)
                    rw [HW.out.2.1] at HStt
                    go_wp2_with fail
                    refine HStt.out.mono ?_
                    rintro e w8 ⟨adS, capS, rfl, hsl, hb8, -⟩
                    have HK8 := hid (HK.out.later hb8)
                    have HSL := hid hsl
                    clear hsl hb8 HStt HK
                    go_wp2_with fail
                    go_loopw [13, 17] (fun v t wr => ∃ s : Nat, s ≤ a ∧ v = u13 ∧ t = .int .i64 (s : Int) ∧ wr = w8) (fun _ t _ => a - (intOf t).toNat)
                    case atStart => exact ⟨0, Nat.zero_le _, rfl, rfl, rfl⟩
                    case round =>
                      obtain ⟨s, hsa, hv13, rfl, hwr⟩ := hrel
                      subst hv13
                      subst hwr
                      by_cases hsl : s < a
                      · have hsl' : (s : Int) < (a : Int) := by omega
                        cases hbs : bit set s with
                        | false =>
                          have HHs := hid (rHas_is set s false wr (by omega) s0 (by omega) hbs)
                          go_wp2_with fail
                          refine HHs.out.mono ?_
                          rintro e w9 ⟨rfl, hx⟩
                          subst w9
                          go_wp2_with fail
                          go_roundw
                          case rel => exact ⟨s + 1, by omega, by trivial, by go_num, by trivial⟩
                          case measure => simp [intOf]; omega
                        | true =>
                          have HHs := hid (rHas_is set s true wr (by omega) s0 (by omega) hbs)
                          obtain ⟨bS, oS, hadS, z0, z1, z2⟩ := HSL.out s (by rw [stsL_length]; exact hsl)
                          rw [stsL_get] at z0 z1 z2
                          subst hadS
                          obtain ⟨⟨h1, h2, h3⟩, HSt⟩ : ∃ x, Hid (stN (V.nd s) d = x) := ⟨_, rfl⟩
                          rw [HSt.out] at z0 z1 z2
                          simp only at z0 z1 z2
                          by_cases hz : h1 = 0 ∧ h2 = 0 ∧ h3 = 0
                          · obtain ⟨rfl, rfl, rfl⟩ := hz
                            rw [show ((0 : Nat) : Int) = 0 from rfl] at z0 z1 z2
                            have hne := st_none wr
                            go_wp2_with fail
                            refine HHs.out.mono ?_
                            rintro e w9 ⟨rfl, hx⟩
                            subst w9
                            go_wp2_with fail
                            go_roundw
                            case rel => exact ⟨s + 1, by omega, by trivial, by go_num, by trivial⟩
                            case measure => simp [intOf]; omega
                          · have hne := st_isnt h1 h2 h3 hz wr
                            have HNz : Hid (stN (V.nd s) d ≠ St.zero) := by
                              rw [HSt.out]
                              intro e
                              cases e
                              exact hz ⟨rfl, rfl, rfl⟩
                            have hbz := HK8.out.2.1.size
                            go_wp2_with fail
                            refine HHs.out.mono ?_
                            rintro e w9 ⟨rfl, hx⟩
                            subst w9
                            obtain ⟨W9, HW9⟩ : ∃ W9, Hid (wr.alloc (.cells #[.int .i64 (d : Int)] 3) = W9) := ⟨_, rfl⟩
                            have hW9 := HW9.out
                            have HB9 : Hid (Below wr.heap.size wr W9) := by rw [← HW9.out]; exact (Below.refl _ _).alloc (Nat.le_refl _) _
                            have HO9 : Hid (W9.ownsRow w7.heap.size 3 1 u13 L.length (L.map (Value.int .i64))) := own_later HK8.out.1 HB9.out (Nat.le_refl _)
                            have HLit : Hid (∀ j u, [Value.int .i64 (d : Int)][j]? = some u → W9.cell? ((⟨wr.heap.size, 0, none⟩ : Addr).add j) = some u) := by rw [← HW9.out]; exact lit_cellsM wr 3 [.int .i64 (d : Int)]
                            have hbs9 : w7.heap.size ≤ W9.heap.size := Nat.le_trans HK8.out.2.1.size HB9.out.size
                            have hk60 : L.length ≤ 1000000000000 := by omega
                            have HBo : Hid (∀ w', W9.grownBy w' u13.ownBlock → Below w7.heap.size w7 w') := fun w' hg => Below.grown (below_trans HK8.out.2.1 HB9.out) hg hbs9 (fun q hq => (HO9.out.lt q hq).1)
                            have HKf : Hid (∀ (v' : Value) (w' : World), w'.ownsRow w7.heap.size 3 1 v' (L.length + 1) (L.map (Value.int .i64) ++ [.int .i64 (d : Int)]) → Below w7.heap.size w7 w' → KnI w7 w' a set V v' (L ++ [(d : Int)])) := fun v' w' q1 q2 => by
                              refine ⟨by rw [List.length_append, List.map_append]; exact q1, q2, fun x hx => ?_⟩
                              rcases List.mem_append.1 hx with y | y
                              · exact HK8.out.2.2 x y
                              · rw [List.mem_singleton] at y
                                exact ⟨d, hdl, y, s, hsl, hbs, HNz.out⟩
                            go_wp2_with (at_builtin; refine wpList_append_e1 rfl _ _ rfl w7.heap.size L.length u13 (L.map (Value.int .i64)) ⟨wr.heap.size, 0, none⟩ 1 (d : Int) rfl rfl HO9.out HLit.out hk60 hbs9 ?_; intro ad' cap' w' hown hg _; have HS2 := hid (HKf.out _ w' hown (HBo.out w' hg)); clear hown hg)
                            all_goals refine ⟨⟨d + 1, L ++ [(d : Int)], by omega, by go_num, by rw [List.length_append]; simp; omega, HS2.out⟩, ?_⟩
                            all_goals simp [intOf]
                            all_goals omega
                      · have hsl' : ¬ (s : Int) < (a : Int) := by omega
                        go_wp2_with fail
                        go_roundw
                        case rel => exact ⟨d + 1, L, by omega, by go_num, by omega, HK8.out⟩
                        case measure => simp [intOf]; omega
                  · have hd' : ¬ (d : Int) < 6 := by omega
                    have hk200 : k ≤ 200 := by omega
                    have hpt : pot zs V ≤ 42000 := by have h1 := HW.out.2.2.pot; have h2 := HT.out.2.2.2.2; omega
                    have HBare : Hid (Bare zs set V0 V zs.length 0) := by rw [HN.out]; exact HW.out.2.2
                    have HEnd := hid (ends_all HW.out.1.inv (HBare.out.ax HT.out.2.2.1) (HBare.out.fb HT.out.2.2.2.1) (by omega) HBare.out.end.1 HBare.out.end.2 HEnT.out (by omega))
                    have HRo := hid (rounds_any 2 (HW.out.1.later HK.out.2.1) (HE.out.later HB2.out) s0 (by omega) (by decide) (by omega))
                    rw [HW.out.2.1, show ((2 : Nat) : Int) = 2 from rfl] at HRo
                    obtain ⟨adk, capk, hu13⟩ : ∃ ad cp, u13 = Value.slice ad L.length cp := by
                      rcases HK.out.1.2 with ⟨e, h0⟩ | ⟨g', cap', cur', e, -⟩
                      · exact ⟨none, 0, by rw [e, h0]⟩
                      · exact ⟨_, _, e⟩
                    subst hu13
                    go_wp2_with fail
                    refine HRo.out.mono ?_
                    rintro e w10 ⟨cnt, rfl, -, C4, X4, g1, g2, g3, g4⟩
                    have HKn : Hid (w10.ownsRow w7.heap.size 3 1 (.slice adk L.length capk) L.length (L.map (Value.int .i64))) := own_kept HK.out.1 g3 (fun g hg e => by
                      have h1 := (HK.out.1.lt g hg).1
                      have h2 : C2 g < 2000 := e
                      have := HW.out.1.lt g h2
                      omega)
                    have HG := hid (And.intro g1 ((key_xb g2).trans HW.out.2.1))
                    have HFl := hid (flying_any g1 (by omega))
                    rw [HEnd.out.2.1, key_xb g2, HW.out.2.1] at HFl
                    clear g1 g2 g3 g4
                    go_wp2_with fail
                    refine HFl.out.mono ?_
                    rintro e w11 ⟨vf, rfl, hof, hb11⟩
                    obtain ⟨adf, capf, hvf⟩ : ∃ ad cp, vf = Value.slice ad 0 cp := by
                      rcases hof.2 with ⟨e, h0⟩ | ⟨g', cap', cur', e, -⟩
                      · exact ⟨none, 0, e⟩
                      · exact ⟨_, _, e⟩
                    subst hvf
                    have HG11 := hid (HG.out.1.later hb11)
                    have HKn11 := hid (own_later HKn.out hb11 (Nat.le_refl _))
                    obtain ⟨nl, HNl⟩ : ∃ nl, Hid (L.length = nl) := ⟨_, rfl⟩
                    have hnl : nl ≤ 6 := by rw [← HNl.out]; omega
                    rw [HNl.out] at HKn11
                    rw [HNl.out]
                    clear hof hb11
                    go_wp2_with fail
                    go_loopw [18] (fun v wr => ∃ i : Nat, i ≤ nl ∧ v = .int .i64 (i : Int) ∧ Hid (Below w11.heap.size w11 wr)) (fun v _ => nl - (intOf v).toNat)
                    case atStart => exact ⟨0, Nat.zero_le _, rfl, Below.refl _ _⟩
                    case round =>
                      obtain ⟨i, hin, rfl, HBi⟩ := hrel
                      have HGi := hid (HG11.out.later HBi.out)
                      by_cases hil : i < nl
                      · have hil' : (i : Int) < (nl : Int) := by omega
                        have HOi := hid (own_later HKn11.out HBi.out (Nat.le_refl _))
                        obtain ⟨gk, hgk⟩ : ∃ g, adk = some ⟨g, 0, none⟩ := by
                          rcases HOi.out.2 with ⟨e, h0⟩ | ⟨g', cap', cur', e, -⟩
                          · omega
                          · injection e with e1; exact ⟨g', e1⟩
                        subst hgk
                        have c0 := own_ints_e HOi.out hil
                        obtain ⟨e, he6, hxe, j, hj1, hj2, hj3⟩ := HK.out.2.2 (L.getD i 0) (by rw [List.getD, List.getElem?_eq_getElem (by rw [HNl.out]; exact hil)]; exact List.getElem_mem _)
                        rw [hxe] at c0
                        have HAll := hid (HEnd.out.2.2 e he6 ⟨j, by rw [HN.out]; exact hj1, hj2, hj3⟩)
                        have HStt := hid (states_any e a HGi.out (HE.out.later HB2.out) he6 HN.out)
                        rw [HG.out.2] at HStt
                        clear hj1 hj2 hj3 hxe
                        go_wp2_with fail
                        refine HStt.out.mono ?_
                        rintro ee w12 ⟨adS, capS, rfl, hsl, hb12, -⟩
                        have HG12 := hid (HGi.out.later hb12)
                        have HSL := hid hsl
                        have HLen := hid (stsL_length (roundsX zs set 2 V) e a)
                        have HAg : Hid (AgF (stsL (roundsX zs set 2 V) e a) 0 a) := by have := ax_agree HEnd.out.1 he6; rw [HN.out] at this; exact this
                        have HJA := hid (jagree_any A adS capS (stsL (roundsX zs set 2 V) e a) 0 a w12 (HG12.out.held (HE.out.later HB2.out)) hsl (by rw [HLen.out]; omega) HAg.out)
                        rw [HLen.out] at HJA
                        have HB12 := hid (below_trans HBi.out hb12)
                        clear hsl hb12 HStt c0
                        go_wp2_with fail
                        refine HJA.out.mono ?_
                        rintro ee w13 ⟨v13, rfl, hv13, hb13⟩
                        obtain rfl := hv13.nil
                        have HSL13 := hid (HSL.out.later hb13)
                        have HB13 := hid (below_trans HB12.out hb13)
                        clear hv13 hb13 HJA
                        go_wp2_with fail
                        go_loopw [21] (fun t wr => ∃ s : Nat, s ≤ a ∧ t = .int .i64 (s : Int) ∧ wr = w13) (fun t _ => a - (intOf t).toNat)
                        case atStart => exact ⟨0, Nat.zero_le _, rfl, rfl⟩
                        case round =>
                          obtain ⟨s, hsa, rfl, hwr⟩ := hrel
                          subst hwr
                          by_cases hsl : s < a
                          · have hsl' : (s : Int) < (a : Int) := by omega
                            cases hbs : bit set s with
                            | false =>
                              have HHs := hid (rHas_is set s false wr (by omega) s0 (by omega) hbs)
                              go_wp2_with fail
                              refine HHs.out.mono ?_
                              rintro ee w14 ⟨rfl, hx⟩
                              subst w14
                              go_wp2_with fail
                              go_roundw
                              case rel => exact ⟨s + 1, by omega, by go_num, by trivial⟩
                              case measure => simp [intOf]; omega
                            | true =>
                              have HHs := hid (rHas_is set s true wr (by omega) s0 (by omega) hbs)
                              obtain ⟨bS, oS, hadS, z0, -, -⟩ := HSL13.out s (by rw [stsL_length]; exact hsl)
                              rw [stsL_get] at z0
                              subst hadS
                              obtain ⟨ph, HPh⟩ : ∃ ph, Hid ((stN ((roundsX zs set 2 V).nd s) e).ph = ph) := ⟨_, rfl⟩
                              rw [HPh.out] at z0
                              have HFin := hid (rfinal_is ph true wr (by rw [← HPh.out]; exact HAll.out s (by rw [HN.out]; exact hsl) hbs))
                              go_wp2_with fail
                              refine HHs.out.mono ?_
                              rintro ee w14 ⟨rfl, hx⟩
                              subst w14
                              go_wp2_with fail
                              refine HFin.out.mono ?_
                              rintro ee w14 ⟨rfl, hx⟩
                              subst w14
                              go_wp2_with fail
                              go_roundw
                              case rel => exact ⟨s + 1, by omega, by go_num, by trivial⟩
                              case measure => simp [intOf]; omega
                          · have hsl' : ¬ (s : Int) < (a : Int) := by omega
                            go_wp2_with fail
                            go_roundw
                            case rel => exact ⟨i + 1, by omega, by go_num, HB13.out⟩
                            case measure => simp [intOf]; omega
                      · have hil' : ¬ (i : Int) < (nl : Int) := by omega
                        have HBz := hid (below_trans HB2.out HGi.out.bel)
                        go_wp2_with fail
                        go_ret
                        exact ⟨rfl, HBz.out⟩
  · have hp : 0 < (errS zs set : Int) := by omega
    obtain ⟨c, HC⟩ : ∃ c : Int, Hid ((errS zs set : Int) = c) := ⟨_, rfl⟩
    rw [HC.out] at hp
    rw [HN.out] at HV hzm ⊢
    go_enter Tryz.func5, Tryz.ntmps5
    go_wp2_with fail
    refine (born_any A w HE.out).mono ?_
    rintro e w1 ⟨rfl, hb⟩
    have HB1 := hid hb
    have HSe := hid (rSetErr_i _ zs set c w1 (HV.out.later hb) HC.out)
    clear hb
    go_wp2_with fail
    refine HSe.out.mono ?_
    rintro e w2 ⟨rfl, hx⟩
    subst w2
    go_wp2_with fail
    go_ret
    exact ⟨rfl, HB1.out⟩
end Go.Proofs.YtdpemmmbkjmplabGreatDoor
