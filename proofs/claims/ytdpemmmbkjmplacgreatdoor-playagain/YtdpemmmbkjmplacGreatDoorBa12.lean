/-
  WALKS of package play: play, answer; OwnInts of many numbers.
  WALK of package play: Run.
  PLAIN: events: the first that is not well, as the document tells it, and by what the program keeps of those ahead (an end and a set of sites a deal).
  WALKS of package judge: below, isEnd, fault.
  WALKS of package judge: Check.
  Plain: the events of a world are well.
  WALKS of package world: Flying, Events.
-/
import Derived.Test.YtdpemmmbkjmplacGreatDoorBa11
import Derived.Test.YtdpemmmbkjmplacGreatDoorBa6
import Derived.Test.YtdpemmmbkjmplacGreatDoorBa7
import Derived.Test.YtdpemmmbkjmplacGreatDoorBa1
import Derived.Test.YtdpemmmbkjmplacGreatDoorBa2
import Derived.Test.YtdpemmmbkjmplacGreatDoorBa8
import Derived.Maps.AppendAt
import Derived.Lib.MinMax
import Derived.Deep.RegionHeld3
import Derived.Deep.Slices
namespace Go.Proofs.YtdpemmmbkjmplacGreatDoor
open Go.RowKit

set_option maxHeartbeats 400000 in
/-- OwnInts of a longer one. -/
theorem ownInts_long (v : Value) (zs : List Int) (w : World) (hv : IsSl w v zs) (hl : zs.length ≤ 100000) :
    Calls Tryz.prog 10 #[v] w fun e w' => ∃ v', e = .returned v' ∧ w'.ownsRow w.heap.size 3 1 v' zs.length (zs.map (Value.int .i64)) ∧ Below w.heap.size w w' := by
  obtain ⟨i0, hi, hz0, hz1, hz2⟩ := info_parts Tryz.infoInt
  obtain ⟨a, cap, rfl, hm, hn, hc⟩ := hv
  have HM := hid hm
  cases a with
  | none =>
    have hcap := hn rfl
    subst hcap
    have hz : zs = [] := by
      cases zs with
      | nil => rfl
      | cons x r => obtain ⟨b, off, h, _⟩ := hc (by simp); cases h
    subst hz
    clear hn hc
    go_enter Tryz.func10, Tryz.ntmps10
    go_wp2_with (at_builtin; refine wpList_append_own_none rfl _ _ 22 rfl w.heap.size 3 i0 1 Tryz.underlying22 hi _ 0 [] rfl (World.ownsRow_nil _ _ _ _) rfl ?_)
    go_ret
    exact ⟨_, rfl, World.ownsRow_nil _ _ _ _, Below.refl _ _⟩
  | some ad =>
    have HC : Hid (∀ j u, (zs.map (Value.int .i64))[j]? = some u → w.cell? (ad.add j) = some u) := by
      intro j u hj
      rw [List.getElem?_map] at hj
      rcases Nat.lt_or_ge j zs.length with h | h
      · obtain ⟨b, off, e, hcc⟩ := hc (by omega)
        have e' := Option.some.inj e
        subst e'
        rw [List.getElem?_eq_getElem h] at hj
        simp at hj
        subst hj
        have := hcc j h
        rw [getD_lt zs j h] at this
        rw [addr_add]; exact this
      · rw [List.getElem?_eq_none h] at hj; cases hj
    clear hc hn
    have HO : Hid (∀ u ∈ zs.map (Value.int .i64), u.oneCell' = true) := by
      intro u hu
      obtain ⟨n, -, rfl⟩ := List.mem_map.1 hu
      rfl
    go_enter Tryz.func10, Tryz.ntmps10
    go_wp2_with (at_builtin; refine wpList_append_own _ rfl _ _ 22 rfl w.heap.size 3 i0 (.int .i64 0) 1 8 Tryz.underlying22 hi hz0 hz1 hz2 rfl (by decide) _ 0 [] rfl (World.ownsRow_nil _ _ _ _) ad zs.length cap (zs.map (Value.int .i64)) rfl (by simp) HC.out HO.out (by have := HM.out; omega) (by omega) (Nat.le_refl _) ?_)
    intro v' w1 hown hgrow _
    have ho2 : w1.ownsRow w.heap.size 3 1 v' zs.length (zs.map (Value.int .i64)) := by simpa using hown
    clear hown
    go_wp2
    go_ret
    exact ⟨_, rfl, ho2, (Below.refl _ _).grown hgrow (Nat.le_refl _) (fun k h => by cases h)⟩
theorem ownInts_many (v : Value) (zs : List Int) (w : World) (hv : IsSl w v zs) (hl : zs.length ≤ 100000) :
    Calls Tryz.prog 10 #[v] w fun e w' => ∃ v', e = .returned v' ∧ IsSl w' v' zs ∧ Below w.heap.size w w' := by
  refine (ownInts_long v zs w hv hl).mono ?_
  rintro e w' ⟨v', rfl, ho, hb⟩
  exact ⟨v', rfl, IsSl.owned ho (by unfold maxLen; omega), hb⟩
theorem code_ev (A : Nat → Addr) (c : Nat) (w : World) (hE : Held9 w A) (hc : c ≤ 9) :
    Calls Tryz.prog 34 #[ev A c] w fun e w' => e = .returned (.tuple #[.int .i64 (c : Int), .int .i64 (-1)]) ∧ Below w.heap.size w w' := by
  match c, hc with
  | 0, _ =>
    refine (code_nil w).mono ?_
    rintro e w' ⟨rfl, rfl⟩
    exact ⟨rfl, Below.refl _ _⟩
  | k + 1, h =>
    refine (code_at A k w hE (by omega)).mono ?_
    rintro e w' ⟨rfl, hb⟩
    exact ⟨rfl, hb⟩
section
variable {w0 w : World} {C : Nat → Nat} {X : XB} {m : Nat} {zs : List Int} {V : PX} {A : Nat → Addr}
set_option maxHeartbeats 2000000 in
set_option maxRecDepth 100000 in
theorem pl_drop (q : Nat) (h : WD w0 w C X zs V m) (hE : Held9 w0 A) (hm : m < 800000) (hq : q ≤ 9223372036854775807) :
    Calls Tryz.prog 115 #[.pointer (some ⟨X.xb, 0, none⟩), .int .i64 7, .int .i64 (q : Int)] w (PlayO A w0 w C X zs V m 7 q) := by
  have H := hid h
  have HE := hid hE
  clear h hE
  obtain ⟨s, Hs⟩ : ∃ s, Hid (q % 7 = s) := ⟨_, rfl⟩
  obtain ⟨q7, Hq7⟩ : ∃ q7, Hid (q / 7 = q7) := ⟨_, rfl⟩
  obtain ⟨d, Hd⟩ : ∃ d, Hid (q7 % 6 = d) := ⟨_, rfl⟩
  have t7 : Int.tmod (q : Int) 7 = (s : Int) := by rw [Int.tmod_eq_emod_of_nonneg (by omega), ← Hs.out]; simp
  have d7 : Int.tdiv (q : Int) 7 = (q7 : Int) := by rw [Int.tdiv_eq_ediv_of_nonneg (by omega), ← Hq7.out]; simp
  have t6 : Int.tmod (q7 : Int) 6 = (d : Int) := by rw [Int.tmod_eq_emod_of_nonneg (by omega), ← Hd.out]; simp
  have lq7 : q7 ≤ 9223372036854775807 := by have := Hq7.out; omega
  have HP := hid (play_drop q H.out HE.out hm)
  go_enter Tryz.func115, Tryz.ntmps115
  go_wp2_with fail
  refine (pick_is q H.out).mono ?_
  rintro e w1 ⟨rfl, hx⟩
  subst w1
  go_wp2_with fail
  refine HP.out.mono ?_
  rintro e w2 ⟨rfl, ho⟩
  have HO := hid ho
  clear ho
  go_wp2_with fail
  go_ret
  exact ⟨rfl, HO.out⟩
set_option maxHeartbeats 2000000 in
set_option maxRecDepth 100000 in
theorem pl_twice (q : Nat) (h : WD w0 w C X zs V m) (hE : Held9 w0 A) (hm : m < 800000) (hq : q ≤ 9223372036854775807) :
    Calls Tryz.prog 115 #[.pointer (some ⟨X.xb, 0, none⟩), .int .i64 8, .int .i64 (q : Int)] w (PlayO A w0 w C X zs V m 8 q) := by
  have H := hid h
  have HE := hid hE
  clear h hE
  obtain ⟨s, Hs⟩ : ∃ s, Hid (q % 7 = s) := ⟨_, rfl⟩
  obtain ⟨q7, Hq7⟩ : ∃ q7, Hid (q / 7 = q7) := ⟨_, rfl⟩
  obtain ⟨d, Hd⟩ : ∃ d, Hid (q7 % 6 = d) := ⟨_, rfl⟩
  have t7 : Int.tmod (q : Int) 7 = (s : Int) := by rw [Int.tmod_eq_emod_of_nonneg (by omega), ← Hs.out]; simp
  have d7 : Int.tdiv (q : Int) 7 = (q7 : Int) := by rw [Int.tdiv_eq_ediv_of_nonneg (by omega), ← Hq7.out]; simp
  have t6 : Int.tmod (q7 : Int) 6 = (d : Int) := by rw [Int.tmod_eq_emod_of_nonneg (by omega), ← Hd.out]; simp
  have lq7 : q7 ≤ 9223372036854775807 := by have := Hq7.out; omega
  have HP := hid (play_twice q H.out HE.out hm)
  go_enter Tryz.func115, Tryz.ntmps115
  go_wp2_with fail
  refine (pick_is q H.out).mono ?_
  rintro e w1 ⟨rfl, hx⟩
  subst w1
  go_wp2_with fail
  refine HP.out.mono ?_
  rintro e w2 ⟨rfl, ho⟩
  have HO := hid ho
  clear ho
  go_wp2_with fail
  go_ret
  exact ⟨rfl, HO.out⟩
set_option maxHeartbeats 2000000 in
set_option maxRecDepth 100000 in
theorem pl_begin (q : Nat) (h : WD w0 w C X zs V m) (hE : Held9 w0 A) (hm : m < 800000) (hq : q ≤ 9223372036854775807) :
    Calls Tryz.prog 115 #[.pointer (some ⟨X.xb, 0, none⟩), .int .i64 9, .int .i64 (q : Int)] w (PlayO A w0 w C X zs V m 9 q) := by
  have H := hid h
  have HE := hid hE
  clear h hE
  obtain ⟨s, Hs⟩ : ∃ s, Hid (q % 7 = s) := ⟨_, rfl⟩
  obtain ⟨q7, Hq7⟩ : ∃ q7, Hid (q / 7 = q7) := ⟨_, rfl⟩
  obtain ⟨d, Hd⟩ : ∃ d, Hid (q7 % 6 = d) := ⟨_, rfl⟩
  have t7 : Int.tmod (q : Int) 7 = (s : Int) := by rw [Int.tmod_eq_emod_of_nonneg (by omega), ← Hs.out]; simp
  have d7 : Int.tdiv (q : Int) 7 = (q7 : Int) := by rw [Int.tdiv_eq_ediv_of_nonneg (by omega), ← Hq7.out]; simp
  have t6 : Int.tmod (q7 : Int) 6 = (d : Int) := by rw [Int.tmod_eq_emod_of_nonneg (by omega), ← Hd.out]; simp
  have lq7 : q7 ≤ 9223372036854775807 := by have := Hq7.out; omega
  have HP := hid (play_begin q H.out HE.out hm)
  rw [Hs.out, Hq7.out, Hd.out] at HP
  go_enter Tryz.func115, Tryz.ntmps115
  go_wp2_with fail
  refine HP.out.mono ?_
  rintro e w2 ⟨rfl, ho⟩
  have HO := hid ho
  clear ho
  go_wp2_with fail
  go_ret
  exact ⟨rfl, HO.out⟩
set_option maxHeartbeats 2000000 in
set_option maxRecDepth 100000 in
theorem pl_tick (q : Nat) (h : WD w0 w C X zs V m) (hE : Held9 w0 A) (hm : m < 800000) (hq : q ≤ 9223372036854775807) :
    Calls Tryz.prog 115 #[.pointer (some ⟨X.xb, 0, none⟩), .int .i64 10, .int .i64 (q : Int)] w (PlayO A w0 w C X zs V m 10 q) := by
  have H := hid h
  have HE := hid hE
  clear h hE
  obtain ⟨s, Hs⟩ : ∃ s, Hid (q % 7 = s) := ⟨_, rfl⟩
  obtain ⟨q7, Hq7⟩ : ∃ q7, Hid (q / 7 = q7) := ⟨_, rfl⟩
  obtain ⟨d, Hd⟩ : ∃ d, Hid (q7 % 6 = d) := ⟨_, rfl⟩
  have t7 : Int.tmod (q : Int) 7 = (s : Int) := by rw [Int.tmod_eq_emod_of_nonneg (by omega), ← Hs.out]; simp
  have d7 : Int.tdiv (q : Int) 7 = (q7 : Int) := by rw [Int.tdiv_eq_ediv_of_nonneg (by omega), ← Hq7.out]; simp
  have t6 : Int.tmod (q7 : Int) 6 = (d : Int) := by rw [Int.tmod_eq_emod_of_nonneg (by omega), ← Hd.out]; simp
  have lq7 : q7 ≤ 9223372036854775807 := by have := Hq7.out; omega
  have HP := hid (play_tick q H.out HE.out hm)
  rw [Hs.out] at HP
  go_enter Tryz.func115, Tryz.ntmps115
  go_wp2_with fail
  refine HP.out.mono ?_
  rintro e w2 ⟨rfl, ho⟩
  have HO := hid ho
  clear ho
  go_wp2_with fail
  go_ret
  exact ⟨rfl, HO.out⟩
set_option maxHeartbeats 2000000 in
set_option maxRecDepth 100000 in
theorem pl_refuse (q : Nat) (h : WD w0 w C X zs V m) (hE : Held9 w0 A) (hm : m < 800000) (hq : q ≤ 9223372036854775807) :
    Calls Tryz.prog 115 #[.pointer (some ⟨X.xb, 0, none⟩), .int .i64 11, .int .i64 (q : Int)] w (PlayO A w0 w C X zs V m 11 q) := by
  have H := hid h
  have HE := hid hE
  clear h hE
  obtain ⟨s, Hs⟩ : ∃ s, Hid (q % 7 = s) := ⟨_, rfl⟩
  obtain ⟨q7, Hq7⟩ : ∃ q7, Hid (q / 7 = q7) := ⟨_, rfl⟩
  obtain ⟨d, Hd⟩ : ∃ d, Hid (q7 % 6 = d) := ⟨_, rfl⟩
  have t7 : Int.tmod (q : Int) 7 = (s : Int) := by rw [Int.tmod_eq_emod_of_nonneg (by omega), ← Hs.out]; simp
  have d7 : Int.tdiv (q : Int) 7 = (q7 : Int) := by rw [Int.tdiv_eq_ediv_of_nonneg (by omega), ← Hq7.out]; simp
  have t6 : Int.tmod (q7 : Int) 6 = (d : Int) := by rw [Int.tmod_eq_emod_of_nonneg (by omega), ← Hd.out]; simp
  have lq7 : q7 ≤ 9223372036854775807 := by have := Hq7.out; omega
  have HP := hid (play_refuse q H.out HE.out hm)
  rw [Hs.out, Hq7.out, Hd.out] at HP
  go_enter Tryz.func115, Tryz.ntmps115
  go_wp2_with fail
  refine HP.out.mono ?_
  rintro e w2 ⟨rfl, ho⟩
  have HO := hid ho
  clear ho
  go_wp2_with fail
  go_ret
  exact ⟨rfl, HO.out⟩
set_option maxHeartbeats 2000000 in
set_option maxRecDepth 100000 in
theorem pl_link (q : Nat) (h : WD w0 w C X zs V m) (hE : Held9 w0 A) (hm : m < 800000) (hq : q ≤ 9223372036854775807) :
    Calls Tryz.prog 115 #[.pointer (some ⟨X.xb, 0, none⟩), .int .i64 12, .int .i64 (q : Int)] w (PlayO A w0 w C X zs V m 12 q) := by
  have H := hid h
  have HE := hid hE
  clear h hE
  obtain ⟨s, Hs⟩ : ∃ s, Hid (q % 7 = s) := ⟨_, rfl⟩
  obtain ⟨q7, Hq7⟩ : ∃ q7, Hid (q / 7 = q7) := ⟨_, rfl⟩
  obtain ⟨d, Hd⟩ : ∃ d, Hid (q7 % 6 = d) := ⟨_, rfl⟩
  have t7 : Int.tmod (q : Int) 7 = (s : Int) := by rw [Int.tmod_eq_emod_of_nonneg (by omega), ← Hs.out]; simp
  have d7 : Int.tdiv (q : Int) 7 = (q7 : Int) := by rw [Int.tdiv_eq_ediv_of_nonneg (by omega), ← Hq7.out]; simp
  have t6 : Int.tmod (q7 : Int) 6 = (d : Int) := by rw [Int.tmod_eq_emod_of_nonneg (by omega), ← Hd.out]; simp
  have lq7 : q7 ≤ 9223372036854775807 := by have := Hq7.out; omega
  obtain ⟨b2, H2⟩ : ∃ b, Hid ((q % 2 == 0) = b) := ⟨_, rfl⟩
  have t2 : ((q : Int) % 2 == 0) = b2 := by
    rw [← H2.out]
    by_cases g : q % 2 = 0
    · rw [beq_iff_eq.2 (show (q : Int) % 2 = 0 by omega), beq_iff_eq.2 g]
    · rw [beq_eq_false_iff_ne.2 (show (q : Int) % 2 ≠ 0 by omega), beq_eq_false_iff_ne.2 g]
  have HP := hid (play_link q H.out HE.out hm)
  rw [Hs.out, Hq7.out, Hd.out, H2.out] at HP
  go_enter Tryz.func115, Tryz.ntmps115
  go_wp2_with fail
  refine HP.out.mono ?_
  rintro e w2 ⟨rfl, ho⟩
  have HO := hid ho
  clear ho
  go_wp2_with fail
  go_ret
  exact ⟨rfl, HO.out⟩
set_option maxHeartbeats 2000000 in
set_option maxRecDepth 100000 in
theorem pl_cut (q : Nat) (h : WD w0 w C X zs V m) (hE : Held9 w0 A) (hq : q ≤ 9223372036854775807) :
    Calls Tryz.prog 115 #[.pointer (some ⟨X.xb, 0, none⟩), .int .i64 13, .int .i64 (q : Int)] w (PlayO A w0 w C X zs V m 13 q) := by
  have H := hid h
  have HE := hid hE
  clear h hE
  obtain ⟨s, Hs⟩ : ∃ s, Hid (q % 7 = s) := ⟨_, rfl⟩
  obtain ⟨q7, Hq7⟩ : ∃ q7, Hid (q / 7 = q7) := ⟨_, rfl⟩
  obtain ⟨d, Hd⟩ : ∃ d, Hid (q7 % 6 = d) := ⟨_, rfl⟩
  have t7 : Int.tmod (q : Int) 7 = (s : Int) := by rw [Int.tmod_eq_emod_of_nonneg (by omega), ← Hs.out]; simp
  have d7 : Int.tdiv (q : Int) 7 = (q7 : Int) := by rw [Int.tdiv_eq_ediv_of_nonneg (by omega), ← Hq7.out]; simp
  have t6 : Int.tmod (q7 : Int) 6 = (d : Int) := by rw [Int.tmod_eq_emod_of_nonneg (by omega), ← Hd.out]; simp
  have lq7 : q7 ≤ 9223372036854775807 := by have := Hq7.out; omega
  obtain ⟨x40, H40⟩ : ∃ x, Hid (q % 40 = x) := ⟨_, rfl⟩
  have t40 : Int.tmod (q : Int) 40 = (x40 : Int) := by rw [Int.tmod_eq_emod_of_nonneg (by omega), ← H40.out]; simp
  have HP := hid (play_cut q H.out HE.out)
  rw [Hs.out, H40.out] at HP
  go_enter Tryz.func115, Tryz.ntmps115
  go_wp2_with fail
  refine HP.out.mono ?_
  rintro e w2 ⟨rfl, ho⟩
  have HO := hid ho
  clear ho
  go_wp2_with fail
  go_ret
  exact ⟨rfl, HO.out⟩
set_option maxHeartbeats 2000000 in
set_option maxRecDepth 100000 in
theorem pl_down (q : Nat) (h : WD w0 w C X zs V m) (hE : Held9 w0 A) (hq : q ≤ 9223372036854775807) :
    Calls Tryz.prog 115 #[.pointer (some ⟨X.xb, 0, none⟩), .int .i64 14, .int .i64 (q : Int)] w (PlayO A w0 w C X zs V m 14 q) := by
  have H := hid h
  have HE := hid hE
  clear h hE
  obtain ⟨s, Hs⟩ : ∃ s, Hid (q % 7 = s) := ⟨_, rfl⟩
  obtain ⟨q7, Hq7⟩ : ∃ q7, Hid (q / 7 = q7) := ⟨_, rfl⟩
  obtain ⟨d, Hd⟩ : ∃ d, Hid (q7 % 6 = d) := ⟨_, rfl⟩
  have t7 : Int.tmod (q : Int) 7 = (s : Int) := by rw [Int.tmod_eq_emod_of_nonneg (by omega), ← Hs.out]; simp
  have d7 : Int.tdiv (q : Int) 7 = (q7 : Int) := by rw [Int.tdiv_eq_ediv_of_nonneg (by omega), ← Hq7.out]; simp
  have t6 : Int.tmod (q7 : Int) 6 = (d : Int) := by rw [Int.tmod_eq_emod_of_nonneg (by omega), ← Hd.out]; simp
  have lq7 : q7 ≤ 9223372036854775807 := by have := Hq7.out; omega
  have HP := hid (play_down q H.out HE.out)
  rw [Hs.out] at HP
  go_enter Tryz.func115, Tryz.ntmps115
  go_wp2_with fail
  refine HP.out.mono ?_
  rintro e w2 ⟨rfl, ho⟩
  have HO := hid ho
  clear ho
  go_wp2_with fail
  go_ret
  exact ⟨rfl, HO.out⟩
set_option maxHeartbeats 2000000 in
set_option maxRecDepth 100000 in
theorem pl_wake (q : Nat) (h : WD w0 w C X zs V m) (hE : Held9 w0 A) (hq : q ≤ 9223372036854775807) :
    Calls Tryz.prog 115 #[.pointer (some ⟨X.xb, 0, none⟩), .int .i64 15, .int .i64 (q : Int)] w (PlayO A w0 w C X zs V m 15 q) := by
  have H := hid h
  have HE := hid hE
  clear h hE
  obtain ⟨s, Hs⟩ : ∃ s, Hid (q % 7 = s) := ⟨_, rfl⟩
  obtain ⟨q7, Hq7⟩ : ∃ q7, Hid (q / 7 = q7) := ⟨_, rfl⟩
  obtain ⟨d, Hd⟩ : ∃ d, Hid (q7 % 6 = d) := ⟨_, rfl⟩
  have t7 : Int.tmod (q : Int) 7 = (s : Int) := by rw [Int.tmod_eq_emod_of_nonneg (by omega), ← Hs.out]; simp
  have d7 : Int.tdiv (q : Int) 7 = (q7 : Int) := by rw [Int.tdiv_eq_ediv_of_nonneg (by omega), ← Hq7.out]; simp
  have t6 : Int.tmod (q7 : Int) 6 = (d : Int) := by rw [Int.tmod_eq_emod_of_nonneg (by omega), ← Hd.out]; simp
  have lq7 : q7 ≤ 9223372036854775807 := by have := Hq7.out; omega
  have HP := hid (play_wake q H.out HE.out)
  rw [Hs.out] at HP
  go_enter Tryz.func115, Tryz.ntmps115
  go_wp2_with fail
  refine HP.out.mono ?_
  rintro e w2 ⟨rfl, ho⟩
  have HO := hid ho
  clear ho
  go_wp2_with fail
  go_ret
  exact ⟨rfl, HO.out⟩
set_option maxHeartbeats 2000000 in
set_option maxRecDepth 100000 in
theorem pl_deliver (mv q : Nat) (hv : mv < 7) (h : WD w0 w C X zs V m) (hE : Held9 w0 A) (hm : m < 800000) (hq : q ≤ 9223372036854775807) :
    Calls Tryz.prog 115 #[.pointer (some ⟨X.xb, 0, none⟩), .int .i64 (mv : Int), .int .i64 (q : Int)] w (PlayO A w0 w C X zs V m mv q) := by
  have H := hid h
  have HE := hid hE
  clear h hE
  obtain ⟨s, Hs⟩ : ∃ s, Hid (q % 7 = s) := ⟨_, rfl⟩
  obtain ⟨q7, Hq7⟩ : ∃ q7, Hid (q / 7 = q7) := ⟨_, rfl⟩
  obtain ⟨d, Hd⟩ : ∃ d, Hid (q7 % 6 = d) := ⟨_, rfl⟩
  have t7 : Int.tmod (q : Int) 7 = (s : Int) := by rw [Int.tmod_eq_emod_of_nonneg (by omega), ← Hs.out]; simp
  have d7 : Int.tdiv (q : Int) 7 = (q7 : Int) := by rw [Int.tdiv_eq_ediv_of_nonneg (by omega), ← Hq7.out]; simp
  have t6 : Int.tmod (q7 : Int) 6 = (d : Int) := by rw [Int.tmod_eq_emod_of_nonneg (by omega), ← Hd.out]; simp
  have lq7 : q7 ≤ 9223372036854775807 := by have := Hq7.out; omega
  have e7 : ((mv : Int) == 7) = false := beq_eq_false_iff_ne.2 (by omega)
  have e8 : ((mv : Int) == 8) = false := beq_eq_false_iff_ne.2 (by omega)
  have e9 : ((mv : Int) == 9) = false := beq_eq_false_iff_ne.2 (by omega)
  have e10 : ((mv : Int) == 10) = false := beq_eq_false_iff_ne.2 (by omega)
  have e11 : ((mv : Int) == 11) = false := beq_eq_false_iff_ne.2 (by omega)
  have e12 : ((mv : Int) == 12) = false := beq_eq_false_iff_ne.2 (by omega)
  have e13 : ((mv : Int) == 13) = false := beq_eq_false_iff_ne.2 (by omega)
  have e14 : ((mv : Int) == 14) = false := beq_eq_false_iff_ne.2 (by omega)
  have e15 : ((mv : Int) == 15) = false := beq_eq_false_iff_ne.2 (by omega)
  have HP := hid (play_deliver mv q hv H.out HE.out hm)
  go_enter Tryz.func115, Tryz.ntmps115
  go_wp2_with fail
  refine (pick_is q H.out).mono ?_
  rintro e w1 ⟨rfl, hx⟩
  subst w1
  go_wp2_with fail
  refine HP.out.mono ?_
  rintro e w2 ⟨rfl, ho⟩
  have HO := hid ho
  clear ho
  go_wp2_with fail
  go_ret
  exact ⟨rfl, HO.out⟩
theorem play_any (mv q : Nat) (h : WD w0 w C X zs V m) (hE : Held9 w0 A) (hm : m < 800000) (hv : mv < 16) (hq : q ≤ 9223372036854775807) :
    Calls Tryz.prog 115 #[.pointer (some ⟨X.xb, 0, none⟩), .int .i64 (mv : Int), .int .i64 (q : Int)] w (PlayO A w0 w C X zs V m mv q) := by
  by_cases h7 : mv < 7
  · exact pl_deliver mv q h7 h hE hm hq
  · have hc : mv = 7 ∨ mv = 8 ∨ mv = 9 ∨ mv = 10 ∨ mv = 11 ∨ mv = 12 ∨ mv = 13 ∨ mv = 14 ∨ mv = 15 := by omega
    rcases hc with rfl | rfl | rfl | rfl | rfl | rfl | rfl | rfl | rfl
    · exact pl_drop q h hE hm hq
    · exact pl_twice q h hE hm hq
    · exact pl_begin q h hE hm hq
    · exact pl_tick q h hE hm hq
    · exact pl_refuse q h hE hm hq
    · exact pl_link q h hE hm hq
    · exact pl_cut q h hE hq
    · exact pl_down q h hE hq
    · exact pl_wake q h hE hq
set_option maxRecDepth 100000 in
theorem answer_any (v : Int) (h : WD w0 w C X zs V m) (hE : Held9 w0 A) (hm : m < 800000) (hv : v ≤ 9223372036854775807) :
    Calls Tryz.prog 60 #[.pointer (some ⟨X.xb, 0, none⟩), .int .i64 v] w fun e w' => e = .returned (.int .i64 (numP zs V v).2) ∧ WOut w0 w w' C X zs (numP zs V v).1 (m + 42) := by
  have H := hid h
  have HE := hid hE
  clear h hE
  by_cases h0 : v < 0
  · have HN : Hid (numP zs V v = (V, -1)) := if_pos h0
    rw [HN.out]
    go_enter Tryz.func60, Tryz.ntmps60
    go_wp2_with fail
    go_ret
    exact ⟨rfl, H.out.out (Below.refl _ _) (by omega)⟩
  · have HN : Hid (numP zs V v = ((stepP zs V (v.toNat % 16) (v.toNat / 16)).1, (((stepP zs V (v.toNat % 16) (v.toNat / 16)).2 : Nat) : Int))) := if_neg h0
    obtain ⟨k, rfl⟩ := Int.eq_ofNat_of_zero_le (show 0 ≤ v by omega)
    rw [Int.toNat_natCast] at HN
    obtain ⟨mv, Hmv⟩ : ∃ mv, Hid (k % 16 = mv) := ⟨_, rfl⟩
    obtain ⟨q, Hq⟩ : ∃ q, Hid (k / 16 = q) := ⟨_, rfl⟩
    rw [Hmv.out, Hq.out] at HN
    have tm : Int.tmod (k : Int) 16 = (mv : Int) := by rw [Int.tmod_eq_emod_of_nonneg (by omega), ← Hmv.out]; simp
    have td : Int.tdiv (k : Int) 16 = (q : Int) := by rw [Int.tdiv_eq_ediv_of_nonneg (by omega), ← Hq.out]; simp
    have hq9 : q ≤ 9223372036854775807 := by have := Hq.out; omega
    have HP := hid (play_any mv q H.out HE.out hm (by rw [← Hmv.out]; exact Nat.mod_lt _ (by decide)) hq9)
    rw [HN.out]
    go_enter Tryz.func60, Tryz.ntmps60
    go_wp2_with fail
    refine HP.out.mono ?_
    rintro e w1 ⟨rfl, C1, X1, g1, g2, g3, g4⟩
    have HC := hid (code_ev A (stepP zs V mv q).2 w1 (g1.held HE.out) (stepP_code mv q))
    have HO : Hid (WOut w0 w w1 C X zs (stepP zs V mv q).1 (m + 42)) := ⟨C1, X1, g1, g2, g3, g4⟩
    clear g1 g2 g3 g4
    go_wp2_with fail
    refine HC.out.mono ?_
    rintro e w2 ⟨rfl, hb2⟩
    have HO2 := hid (HO.out.later hb2)
    clear hb2
    go_wp2_with fail
    go_ret
    exact ⟨rfl, HO2.out⟩
end
end Go.Proofs.YtdpemmmbkjmplacGreatDoor
namespace Go.Proofs.YtdpemmmbkjmplacGreatDoor
open Go.RowKit

/-- A script's play: the world behind it; its answers. -/
def runX (zs : List Int) : List Int → PX → PX
  | [], V => V
  | v :: r, V => runX zs r (numP zs V v).1
def runA (zs : List Int) : List Int → PX → List Int
  | [], _ => []
  | v :: r, V => (numP zs V v).2 :: runA zs r (numP zs V v).1
theorem runX_app (zs : List Int) : ∀ (a b : List Int) (V : PX), runX zs (a ++ b) V = runX zs b (runX zs a V)
  | [], _, _ => rfl
  | v :: r, b, V => runX_app zs r b (numP zs V v).1
theorem runA_app (zs : List Int) : ∀ (a b : List Int) (V : PX), runA zs (a ++ b) V = runA zs a V ++ runA zs b (runX zs a V)
  | [], _, _ => rfl
  | v :: r, b, V => by
    show (numP zs V v).2 :: runA zs (r ++ b) (numP zs V v).1 = _
    rw [runA_app zs r b]; rfl
theorem runA_length (zs : List Int) : ∀ (a : List Int) (V : PX), (runA zs a V).length = a.length
  | [], _ => rfl
  | v :: r, V => by
    show (runA zs r (numP zs V v).1).length + 1 = r.length + 1
    rw [runA_length zs r]
theorem takeI_snoc {vs : List Int} {k : Nat} (h : k < vs.length) : vs.take (k + 1) = vs.take k ++ [vs.getD k 0] := by
  rw [List.take_add_one, List.getElem?_eq_getElem h]
  simp [List.getD, h]
theorem runX_take (zs : List Int) {vs : List Int} {k : Nat} (h : k < vs.length) (V : PX) : runX zs (vs.take (k + 1)) V = (numP zs (runX zs (vs.take k) V) (vs.getD k 0)).1 := by
  rw [takeI_snoc h, runX_app]; rfl
theorem runA_take (zs : List Int) {vs : List Int} {k : Nat} (h : k < vs.length) (V : PX) : runA zs (vs.take (k + 1)) V = runA zs (vs.take k) V ++ [(numP zs (runX zs (vs.take k) V) (vs.getD k 0)).2] := by
  rw [takeI_snoc h, runA_app]; rfl
theorem runA_take_length (zs : List Int) {vs : List Int} {k : Nat} (h : k ≤ vs.length) (V : PX) : (runA zs (vs.take k) V).length = k := by rw [runA_length, List.length_take]; omega
theorem wpList_append_i1 {w : World} {ops : Array Oper} {rest : List Oper} {o : Oper} {a : Act} {Q : Exit → Act → World → Prop} (hgd : o.guard = none) (s x : Operand)
    (ho : o.op = .call { callee := .builtin .append, args := #[s, x], argTypes := #[22, 22] })
    (base n : Nat) (v : Value) (xs : List Value) (ad : Addr) (c : Nat) (F : Int) (hs : a.eval s = v) (hx : a.eval x = .slice (some ad) 1 c) (hown : w.ownsRow base 3 1 v n xs) (hu : ∀ j u, [Value.int .i64 F][j]? = some u → w.cell? (ad.add j) = some u) (hn : n ≤ 1000000000000) (hb : base ≤ w.heap.size)
    (h : ∀ ad' cap' w', w'.ownsRow base 3 1 (.slice ad' (n + 1) cap') (n + 1) (xs ++ [Value.int .i64 F]) → w.grownBy w' v.ownBlock → ((Value.slice ad' (n + 1) cap').ownBlock = v.ownBlock ∨ (Value.slice ad' (n + 1) cap').ownBlock = some w.heap.size) → wpList Tryz.prog ops Q rest (a.put o.dst (.slice ad' (n + 1) cap')) w') :
    wpList Tryz.prog ops Q (o :: rest) a w := by
  refine wpList_plain hgd fun K hK => ?_
  obtain ⟨i0, hi0, hz0, hz1, hz2⟩ := info_parts Tryz.infoInt
  obtain ⟨v', w', hr, h2, h3, -, h5⟩ := run_append_own_at (P := Tryz.prog) w base 22 o.type 3 i0 _ 1 8 Tryz.underlying22 hi0 hz0 hz1 hz2 rfl (by decide) v n xs hown ad 1 c [.int .i64 F] rfl hu (by intro u hu; simp at hu; subst hu; rfl) (by unfold maxLen; omega) (by omega) hb
  obtain ⟨ad', cap', rfl⟩ : ∃ ad' cap', v' = .slice ad' (n + 1) cap' := by
    rcases h2.2 with ⟨e, h0⟩ | ⟨g, cap, cur, e, -⟩
    · omega
    · exact ⟨_, _, e⟩
  unfold Oper.wp execOp
  simp only [ho, resolve, invoke, builtin, Sem.run_bind, Sem.run_pure, Result.andThen_ok, List.map_toArray, List.map_cons, List.map_nil, hs, hx, hr]
  exact hK _ _ (h ad' cap' w' h2 h3 h5)
/-- What stands along a play. -/
structure RuI (w0 w wr : World) (C : Nat → Nat) (X : XB) (zs vs : List Int) (V : PX) (m k : Nat) (u : Value) (C' : Nat → Nat) (X' : XB) : Prop where
  wd : WD w0 wr C' X' zs (runX zs (vs.take k) V) (m + 42 * k)
  ky : key X' = key X
  kept : Kept (OwnX C) w wr
  col : ∀ x, x < w.heap.size → C' x = C x
  own : wr.ownsRow w.heap.size 3 1 u k ((runA zs (vs.take k) V).map (Value.int .i64))
  far : ∀ g, u.ownBlock = some g → 2000 ≤ C' g
  ax : AX zs V → AX zs (runX zs (vs.take k) V)
theorem Kept.past {S T : Nat → Prop} {w w1 w2 : World} (h1 : Kept S w w1) (h2 : Kept T w1 w2) (hT : ∀ x, T x → w.heap.size ≤ x) : Kept S w w2 :=
  ⟨h2.os.trans h1.os, h2.tape.trans h1.tape, h2.output.trans h1.output, Nat.le_trans h1.size h2.size, fun y hy hn => (h2.block y (Nat.lt_of_lt_of_le hy h1.size) (fun e => by have := hT y e; omega)).trans (h1.block y hy hn)⟩
section
variable {w0 w wr : World} {C C' : Nat → Nat} {X X' : XB} {m k : Nat} {zs vs : List Int} {V : PX} {A : Nat → Addr} {u : Value}
theorem new_far {w0 w1 : World} {C1 : Nat → Nat} {X1 : XB} {V1 : PX} {m1 : Nat} (h : WD w0 w1 C1 X1 zs V1 m1) : 2000 ≤ C1 w1.heap.size := by
  rcases Nat.lt_or_ge (C1 w1.heap.size) 2000 with q | q
  · have := h.lt _ q; omega
  · exact q
/-- A number was played. -/
theorem RuI.answered {w1 : World} (h : RuI w0 w wr C X zs vs V m k u C' X') (hk : k < vs.length) (ho : WOut w0 wr w1 C' X' zs (numP zs (runX zs (vs.take k) V) (vs.getD k 0)).1 (m + 42 * k + 42)) (hm : m + 42 * k < 900000) :
    ∃ C1 X1, WD w0 w1 C1 X1 zs (runX zs (vs.take (k + 1)) V) (m + 42 * (k + 1)) ∧ key X1 = key X ∧ Kept (OwnX C) w w1 ∧ (∀ x, x < w.heap.size → C1 x = C x) ∧ w1.ownsRow w.heap.size 3 1 u k ((runA zs (vs.take k) V).map (Value.int .i64)) ∧ (∀ g, u.ownBlock = some g → 2000 ≤ C1 g) ∧ (AX zs V → AX zs (runX zs (vs.take (k + 1)) V)) := by
  obtain ⟨C1, X1, g1, g2, g3, g4⟩ := ho
  rw [← runX_take zs hk, Nat.add_assoc, show 42 * k + 42 = 42 * (k + 1) by omega] at g1
  have hs := h.kept.size
  refine ⟨C1, X1, g1, g2.trans h.ky, ?_, fun x hx => (g4 x (by omega)).trans (h.col x hx), own_kept h.own g3 (fun g hg => fun e => by have := h.far g hg; have : C' g < 2000 := e; omega), fun g hg => by rw [g4 g (own_lt h.own hg)]; exact h.far g hg, fun hA => by rw [runX_take zs hk]; exact ((numP_stp _).ax (h.ax hA) h.wd.inv hm).1⟩
  refine ⟨g3.os.trans h.kept.os, g3.tape.trans h.kept.tape, g3.output.trans h.kept.output, Nat.le_trans hs g3.size, fun y hy hn => ?_⟩
  refine (g3.block y (by omega) (fun e => hn ?_)).trans (h.kept.block y hy hn)
  show C y < 2000
  rw [← h.col y hy]; exact e
/-- Its answer was appended. -/
theorem RuI.appended {w1 W2 w3 : World} {C1 : Nat → Nat} {X1 : XB} {u' : Value} (g1 : WD w0 w1 C1 X1 zs (runX zs (vs.take (k + 1)) V) (m + 42 * (k + 1))) (g2 : key X1 = key X) (g3 : Kept (OwnX C) w w1) (g4 : ∀ x, x < w.heap.size → C1 x = C x) (g5 : w1.ownsRow w.heap.size 3 1 u k ((runA zs (vs.take k) V).map (Value.int .i64))) (g6 : ∀ g, u.ownBlock = some g → 2000 ≤ C1 g) (g7 : AX zs V → AX zs (runX zs (vs.take (k + 1)) V)) (h0 : w0.heap.size ≤ w.heap.size) (hk : k < vs.length)
    (hb : Below w1.heap.size w1 W2) (hown : w3.ownsRow w.heap.size 3 1 u' (k + 1) ((runA zs (vs.take k) V).map (Value.int .i64) ++ [Value.int .i64 (numP zs (runX zs (vs.take k) V) (vs.getD k 0)).2])) (hg : W2.grownBy w3 u.ownBlock) (hat : u'.ownBlock = u.ownBlock ∨ u'.ownBlock = some W2.heap.size) :
    RuI w0 w w3 C X zs vs V m (k + 1) u' C1 X1 := by
  have hlow : ∀ x, u.ownBlock = some x → w.heap.size ≤ x := fun x hx => (g5.lt x hx).1
  have hW := g1.later hb
  have hs1 := g3.size
  refine ⟨hW.far (grown_kept hg) g6 (fun x hx => Nat.le_trans h0 (hlow x hx)), g2, (g3.past (Kept.of_below hb) (S := OwnX C) (T := fun _ => False) (fun _ h => h.elim)).past (grown_kept hg) hlow, g4, ?_, fun g hg' => ?_, g7⟩
  · rw [runA_take zs hk, List.map_append]; exact hown
  · rcases hat with e | e
    · rw [e] at hg'; exact g6 g hg'
    · rw [e] at hg'
      obtain rfl := Option.some.inj hg'
      exact new_far hW
theorem own_ints_at {w : World} {base n g cap : Nat} {vs : List Int} (h : w.ownsRow base 3 1 (.slice (some ⟨g, 0, none⟩) n cap) n (vs.map (Value.int .i64))) {i : Nat} (hi : i < n) : w.cell? ⟨g, i, none⟩ = some (.int .i64 (vs.getD i 0)) := by
  have hl : vs.length = n := by have := h.1; simpa using this
  have := h.cellAt i (by omega)
  rw [this, List.getElem?_map, List.getElem?_eq_getElem (by omega)]
  simp [List.getD, hl, hi]
set_option maxHeartbeats 4000000 in
set_option maxRecDepth 100000 in
theorem run_any (v : Value) (bs : Nat) (h : WD w0 w C X zs V m) (hE : Held9 w0 A) (hv : w.ownsRow bs 3 1 v vs.length (vs.map (Value.int .i64))) (hl : vs.length ≤ 3000) (hr : ∀ x, x ∈ vs → x ≤ 9223372036854775807) (hm : m + 42 * vs.length < 800000) (hsl : ∀ g, v.ownBlock = some g → 2000 ≤ C g) :
    Calls Tryz.prog 17 #[.pointer (some ⟨X.xb, 0, none⟩), v] w fun e w' => ∃ u C' X', e = .returned u ∧ RuI w0 w w' C X zs vs V m vs.length u C' X' := by
  have HE := hid hE
  have HR := hid hr
  have h0 := h.bel.size
  have HI0 : Hid (RuI w0 w w C X zs vs V m 0 (.slice none 0 0) C X) := ⟨h, rfl, Kept.refl _ _, fun _ _ => rfl, World.ownsRow_nil _ _ _ _, (fun g hg => by cases hg), id⟩
  obtain ⟨n, HN⟩ : ∃ n, Hid (vs.length = n) := ⟨_, rfl⟩
  have HSl := hid hsl
  have HO := hid hv
  rw [HN.out] at hl hm HO ⊢
  clear h hE hr hsl
  rcases hv.2 with ⟨e, hz⟩ | ⟨g, cap, cur, e, -, hrow, hnc, hcm, -⟩
  · subst e
    have hn0 : n = 0 := by rw [← HN.out]; exact hz
    subst hn0
    clear hv hz
    go_enter Tryz.func17, Tryz.ntmps17
    go_wp2_with fail
    go_loopw [5, 14] (fun u v wr => u = .slice none 0 0 ∧ v = .int .i64 0 ∧ wr = w) (fun _ _ _ => 0)
    case atStart => exact ⟨rfl, rfl, rfl⟩
    case round =>
      obtain ⟨rfl, rfl, hx⟩ := hrel
      subst hx
      go_wp2_with fail
      go_ret
      exact ⟨_, C, X, rfl, HI0.out⟩
  · subst e
    rw [HN.out] at hnc HSl ⊢
    have hlt := row_ltJ hrow
    have h63 : cap ≤ 9223372036854775807 := by unfold maxLen at hcm; omega
    rw [HN.out] at HO
    have HCg : Hid (2000 ≤ C g) := HSl.out g rfl
    have hmin : min (n : Int) 3000 = (n : Int) := by omega
    have hmax : max (n : Int) 0 = (n : Int) := by omega
    clear hv hrow hcm
    go_enter Tryz.func17, Tryz.ntmps17
    go_wp2_with fail
    go_loopw [5, 14] (fun u v wr => ∃ (k : Nat) (C' : Nat → Nat) (X' : XB), k ≤ n ∧ v = .int .i64 (k : Int) ∧ Hid (RuI w0 w wr C X zs vs V m k u C' X')) (fun _ v _ => n - (intOf v).toNat)
    case atStart => exact ⟨0, C, X, Nat.zero_le _, rfl, HI0.out⟩
    case round =>
      obtain ⟨k, C1, X1, hk, rfl, HI⟩ := hrel
      obtain ⟨adu, capu, hu⟩ : ∃ ad cp, u5 = Value.slice ad k cp := by
        rcases HI.out.own.2 with ⟨e, hz⟩ | ⟨g', cap', cur', e, -⟩
        · exact ⟨none, 0, by rw [e, hz]⟩
        · exact ⟨_, _, e⟩
      subst hu
      by_cases hlt2 : k < n
      · have hlt3 : (k : Int) < (n : Int) := by omega
        have c0 : wr.cell? ⟨g, k, none⟩ = some (.int .i64 (vs.getD k 0)) := cell_kept (own_ints_at HO.out hlt2) HI.out.kept (fun e => by have h1 := HCg.out; have h2 : C g < 2000 := e; omega)
        have HKl : Hid (k < vs.length) := by rw [HN.out]; exact hlt2
        have HAns := hid (answer_any (vs.getD k 0) HI.out.wd HE.out (by omega) (HR.out _ (by rw [List.getD, List.getElem?_eq_getElem HKl.out]; exact List.getElem_mem _)))
        rw [key_xb HI.out.ky] at HAns
        generalize HA0 : vs.getD k 0 = x0 at c0
        rw [HA0] at HAns
        go_wp2_with fail
        refine HAns.out.mono ?_
        rintro e w1 ⟨rfl, ho⟩
        rw [← HA0] at ho
        obtain ⟨C2, X2, g1, g2, g3, g4, g5, g6, g7⟩ := HI.out.answered HKl.out ho (by omega)
        rw [HA0] at ho
        obtain ⟨a, Ha⟩ : ∃ a, Hid ((numP zs (runX zs (vs.take k) V) x0).2 = a) := ⟨_, rfl⟩
        rw [Ha.out]
        obtain ⟨W2, HW2⟩ : ∃ W2, Hid (w1.alloc (.cells #[.int .i64 a] 3) = W2) := ⟨_, rfl⟩
        have HB2 : Hid (Below w1.heap.size w1 W2) := by rw [← HW2.out]; exact (Below.refl _ _).alloc (Nat.le_refl _) _
        have HO2 := hid (own_later g5 HB2.out (Nat.le_refl _))
        have HLit : Hid (∀ j z, [Value.int .i64 a][j]? = some z → W2.cell? ((⟨w1.heap.size, 0, none⟩ : Addr).add j) = some z) := by rw [← HW2.out]; exact lit_cellsQ w1 3 [.int .i64 a]
        have hbs : w.heap.size ≤ W2.heap.size := Nat.le_trans g3.size HB2.out.size
        have HG := hid (And.intro g1 (And.intro g2 (And.intro g3 (And.intro g4 (And.intro g5 (And.intro g6 g7))))))
        have hW2 := HW2.out
        have HX0 := hid HA0
        clear ho g1 g2 g3 g4 g5 g6 g7 c0 HA0
        go_wp2_with (at_builtin; refine wpList_append_i1 rfl _ _ rfl w.heap.size k (.slice adu k capu) ((runA zs (vs.take k) V).map (Value.int .i64)) ⟨w1.heap.size, 0, none⟩ 1 a rfl rfl HO2.out HLit.out (by omega) hbs ?_; intro ad' cap' w3 hown hg hat; have HS := hid (And.intro hown (And.intro hg hat)); clear hown hg hat)
        go_roundw
        case rel =>
          refine ⟨k + 1, C2, X2, by omega, by go_num, ?_⟩
          rw [← Ha.out, ← HX0.out] at HS
          exact RuI.appended HG.out.1 HG.out.2.1 HG.out.2.2.1 HG.out.2.2.2.1 HG.out.2.2.2.2.1 HG.out.2.2.2.2.2.1 HG.out.2.2.2.2.2.2 h0 HKl.out HB2.out HS.out.1 HS.out.2.1 HS.out.2.2
        case measure => simp [intOf]; omega
      · obtain rfl : k = n := by omega
        have hlt3 : ¬ ((k : Int) < (k : Int)) := by omega
        go_wp2_with fail
        go_ret
        exact ⟨_, rfl, C1, X1, HI.out⟩
end
end Go.Proofs.YtdpemmmbkjmplacGreatDoor
namespace Go.Proofs.YtdpemmmbkjmplacGreatDoor
open Go.RowKit

def bdB (n : Int) (e : E3) : Bool := decide ((0 ≤ e.s ∧ e.s < n) ∧ (0 ≤ e.d ∧ e.d < 6) ∧ (e.p = 2 ∨ e.p = 3))
def spB (P : List E3) (e : E3) : Bool := P.any fun q => decide (q.d = e.d ∧ q.p ≠ e.p)
def heB (P : List E3) (e : E3) : Bool := P.any fun q => decide (q.d = e.d ∧ q.s = e.s)
/-- The number of an event's fault, behind others. -/
def evC (n : Int) (P : List E3) (e : E3) : Nat := if bdB n e = false then 2 else if spB P e = true then 9 else if heB P e = true then 8 else 0
theorem evC_le (n : Int) (P : List E3) (e : E3) : evC n P e ≤ 9 := by
  unfold evC
  repeat' split
  all_goals omega
/-- All of the first k are well. -/
def EvW (n : Int) (L : List E3) (k : Nat) : Prop := ∀ j (h : j < L.length), j < k → evC n (L.take j) (L[j]'h) = 0
theorem EvW.succ {n : Int} {L : List E3} {k : Nat} (h : EvW n L k) (hk : k < L.length) (hc : evC n (L.take k) (L[k]'hk) = 0) : EvW n L (k + 1) := by
  intro j hj hlt
  rcases Nat.lt_succ_iff_lt_or_eq.1 hlt with x | rfl
  · exact h j hj x
  · exact hc
/-- The first fault: its number and place; 0: none. -/
def EvF (n : Int) (L : List E3) (c k : Nat) : Prop := EvW n L k ∧ ((c = 0 ∧ k = L.length) ∨ ∃ h : k < L.length, c ≠ 0 ∧ evC n (L.take k) (L[k]'h) = c)
theorem evF_ex (n : Int) (L : List E3) : ∃ c k, EvF n L c k := by
  have gen : ∀ r k, k + r = L.length → EvW n L k → ∃ c k, EvF n L c k := by
    intro r
    induction r with
    | zero => intro k hk hw; exact ⟨0, k, hw, .inl ⟨rfl, hk⟩⟩
    | succ r ih =>
      intro k hk hw
      have hlt : k < L.length := by omega
      by_cases hc : evC n (L.take k) (L[k]'hlt) = 0
      · exact ih (k + 1) (by omega) (hw.succ hlt hc)
      · exact ⟨_, k, hw, .inr ⟨hlt, hc, rfl⟩⟩
  exact gen L.length 0 (by omega) (fun j _ h => absurd h (Nat.not_lt_zero _))
theorem EvF.le {n : Int} {L : List E3} {c k : Nat} (h : EvF n L c k) : c ≤ 9 := by
  obtain ⟨-, g⟩ := h
  rcases g with ⟨g, -⟩ | ⟨_, _, g⟩
  · omega
  · rw [← g]; exact evC_le _ _ _
/-- What is kept of a deal: its end, and the set of its sites. -/
def endL (P : List E3) (d : Nat) : Int := P.foldl (fun x e => if e.d = (d : Int) then e.p else x) 0
def sitL (P : List E3) (d : Nat) : Int := P.foldl (fun x e => if e.d = (d : Int) then bits .or .i64 x (2 ^ e.s.toNat) else x) 0
theorem endL_snoc (P : List E3) (e : E3) (d : Nat) : endL (P ++ [e]) d = if e.d = (d : Int) then e.p else endL P d := by simp [endL, List.foldl_append]
theorem sitL_snoc (P : List E3) (e : E3) (d : Nat) : sitL (P ++ [e]) d = if e.d = (d : Int) then bits .or .i64 (sitL P d) (2 ^ e.s.toNat) else sitL P d := by simp [sitL, List.foldl_append]
/-- What stands of events that are all well. -/
structure EvK (n : Int) (P : List E3) : Prop where
  bd : ∀ q, q ∈ P → bdB n q = true
  en : ∀ q, q ∈ P → ∀ d : Nat, q.d = (d : Int) → endL P d = q.p
  e0 : ∀ d : Nat, endL P d ≠ 0 → ∃ q, q ∈ P ∧ q.d = (d : Int)
  s0 : ∀ d : Nat, 0 ≤ sitL P d ∧ sitL P d < 128
  si : ∀ (d i : Nat), i < 7 → bit (sitL P d) i = P.any fun q => decide (q.d = (d : Int) ∧ q.s = (i : Int))
theorem EvK.nil (n : Int) : EvK n [] := ⟨fun _ h => (by cases h), fun _ h => (by cases h), fun _ h => absurd rfl h, fun _ => ⟨(show (0 : Int) ≤ 0 by omega), (show (0 : Int) < 128 by omega)⟩, fun d i _ => by show bit 0 i = false; unfold bit; simp⟩
theorem orAllE : ((List.range 128).all fun s => (List.range 7).all fun q => (decide (s ||| 2 ^ q < 128)) && (List.range 7).all fun j => (Nat.testBit (s ||| 2 ^ q) j == (Nat.testBit s j || decide (q = j)))) = true := by decide +kernel
theorem bit_orE {x : Int} {q : Nat} (h0 : 0 ≤ x) (h1 : x < 128) (hq : q < 7) : (0 ≤ bits .or .i64 x (2 ^ q) ∧ bits .or .i64 x (2 ^ q) < 128) ∧ ∀ j, j < 7 → bit (bits .or .i64 x (2 ^ q)) j = (bit x j || decide (q = j)) := by
  obtain ⟨s, rfl⟩ := Int.eq_ofNat_of_zero_le h0
  have hs : s < 128 := by omega
  have h := List.all_eq_true.1 (List.all_eq_true.1 orAllE s (List.mem_range.2 hs)) q (List.mem_range.2 hq)
  rw [Bool.and_eq_true] at h
  have h3 : (2 : Nat) ^ q < 9223372036854775808 := Nat.lt_of_lt_of_le (Nat.pow_lt_pow_right (by decide) hq) (by decide)
  have h4 := of_decide_eq_true h.1
  rw [pow_nat, bits_or_nat s (2 ^ q) (by omega) h3]
  refine ⟨by omega, fun j hj => ?_⟩
  have := List.all_eq_true.1 h.2 j (List.mem_range.2 hj)
  unfold bit
  rw [Int.toNat_natCast, Int.toNat_natCast]
  exact eq_of_beq this
theorem evC_zero {n : Int} {P : List E3} {e : E3} (h : evC n P e = 0) : bdB n e = true ∧ spB P e = false ∧ heB P e = false := by
  unfold evC at h
  split at h
  · cases h
  · rename_i h1
    split at h
    · cases h
    · rename_i h2
      split at h
      · cases h
      · rename_i h3
        refine ⟨?_, ?_, ?_⟩
        · cases hb : bdB n e with
          | true => rfl
          | false => exact absurd hb h1
        · cases hb : spB P e with
          | false => rfl
          | true => exact absurd hb h2
        · cases hb : heB P e with
          | false => rfl
          | true => exact absurd hb h3
theorem EvK.snoc {n : Int} {P : List E3} {e : E3} (hn : n ≤ 7) (h : EvK n P) (hc : evC n P e = 0) : EvK n (P ++ [e]) := by
  obtain ⟨c1, c2, c3⟩ := evC_zero hc
  have b := of_decide_eq_true c1
  refine ⟨fun q hq => ?_, fun q hq d hd => ?_, fun d hd => ?_, fun d => ?_, fun d i hi => ?_⟩
  · rcases List.mem_append.1 hq with x | x
    · exact h.bd q x
    · rw [List.mem_singleton] at x; rw [x]; exact c1
  · rw [endL_snoc]
    rcases List.mem_append.1 hq with x | x
    · split
      · rename_i he
        have := List.any_eq_false.1 c2 q x
        simp only [decide_eq_true_eq, not_and] at this
        have h2 := this (by omega)
        omega
      · exact h.en q x d hd
    · rw [List.mem_singleton] at x
      subst x
      rw [if_pos hd]
  · rw [endL_snoc] at hd
    split at hd
    · rename_i he
      exact ⟨e, List.mem_append.2 (.inr (List.mem_singleton.2 rfl)), he⟩
    · obtain ⟨q, h1, h2⟩ := h.e0 d hd
      exact ⟨q, List.mem_append.2 (.inl h1), h2⟩
  · rw [sitL_snoc]
    split
    · exact (bit_orE (h.s0 d).1 (h.s0 d).2 (by omega)).1
    · exact h.s0 d
  · rw [sitL_snoc, List.any_append, List.any_cons, List.any_nil, Bool.or_false]
    split
    · rename_i he
      rw [(bit_orE (h.s0 d).1 (h.s0 d).2 (by omega)).2 i hi, h.si d i hi]
      congr 1
      refine decide_eq_decide.2 ?_
      omega
    · rename_i he
      rw [h.si d i hi, decide_eq_false (fun x => he x.1), Bool.or_false]
theorem EvW.kept {n : Int} {L : List E3} (hn : n ≤ 7) : ∀ {k : Nat}, k ≤ L.length → EvW n L k → EvK n (L.take k)
  | 0, _, _ => by rw [List.take_zero]; exact EvK.nil n
  | k + 1, hk, h => by
    rw [take_snoc L k hk]
    exact (EvW.kept hn (Nat.le_of_succ_le hk) (fun j hj hlt => h j hj (Nat.lt_succ_of_lt hlt))).snoc hn (h k hk (Nat.lt_succ_self _))
/-- The program's tests, by what it keeps. -/
theorem EvK.split {n : Int} {P : List E3} (h : EvK n P) {e : E3} {d : Nat} (hd : e.d = (d : Int)) : spB P e = (endL P d != 0 && endL P d != e.p) := by
  rw [Bool.eq_iff_iff, Bool.and_eq_true, bne_iff_ne, bne_iff_ne]
  unfold spB
  rw [List.any_eq_true]
  constructor
  · rintro ⟨q, hq, hx⟩
    have hx := of_decide_eq_true hx
    have h1 := h.en q hq d (by omega)
    have h2 := of_decide_eq_true (h.bd q hq)
    omega
  · rintro ⟨h1, h2⟩
    obtain ⟨q, hq, hqd⟩ := h.e0 d h1
    have h3 := h.en q hq d hqd
    exact ⟨q, hq, decide_eq_true ⟨by omega, by omega⟩⟩
theorem EvK.held {n : Int} {P : List E3} (h : EvK n P) {e : E3} {d i : Nat} (hd : e.d = (d : Int)) (hi : e.s = (i : Int)) (h7 : i < 7) : heB P e = bit (sitL P d) i := by
  rw [h.si d i h7]
  unfold heB
  rw [hd, hi]
end Go.Proofs.YtdpemmmbkjmplacGreatDoor
namespace Go.Proofs.YtdpemmmbkjmplacGreatDoor
open Go.RowKit

theorem jbelow_is (x n : Int) (b : Bool) (w : World) (hb : decide (0 ≤ x ∧ x < n) = b) : Calls Tryz.prog 116 #[.int .i64 x, .int .i64 n] w fun e w' => e = .returned (.bool b) ∧ w' = w := by
  subst hb
  by_cases h0 : 0 ≤ x
  · by_cases h1 : x < n
    · rw [decide_eq_true (show 0 ≤ x ∧ x < n from ⟨h0, h1⟩)]
      go_enter Tryz.func116, Tryz.ntmps116
      go_wp2_with fail
      go_ret
      exact ⟨rfl, rfl⟩
    · rw [decide_eq_false (show ¬ (0 ≤ x ∧ x < n) from fun h => h1 h.2)]
      have e1 : decide (x < n) = false := decide_eq_false h1
      go_enter Tryz.func116, Tryz.ntmps116
      go_wp2_with fail
      go_ret
      exact ⟨rfl, rfl⟩
  · rw [decide_eq_false (show ¬ (0 ≤ x ∧ x < n) from fun h => h0 h.1)]
    have e1 : decide (0 ≤ x) = false := decide_eq_false h0
    go_enter Tryz.func116, Tryz.ntmps116
    go_wp2_with fail
    go_ret
    exact ⟨rfl, rfl⟩
theorem jisEnd_is (p : Int) (b : Bool) (w : World) (hb : decide (p = 2 ∨ p = 3) = b) : Calls Tryz.prog 114 #[.int .i64 p] w fun e w' => e = .returned (.bool b) ∧ w' = w := by
  subst hb
  by_cases h2 : p = 2
  · subst h2
    go_enter Tryz.func114, Tryz.ntmps114
    go_wp2_with fail
    go_ret
    exact ⟨rfl, rfl⟩
  · by_cases h3 : p = 3
    · subst h3
      go_enter Tryz.func114, Tryz.ntmps114
      go_wp2_with fail
      go_ret
      exact ⟨rfl, rfl⟩
    · rw [decide_eq_false (show ¬ (p = 2 ∨ p = 3) by omega)]
      have b2 : (p == 2) = false := beq_eq_false_iff_ne.2 h2
      have b3 : (p == 3) = false := beq_eq_false_iff_ne.2 h3
      go_enter Tryz.func114, Tryz.ntmps114
      go_wp2_with fail
      go_ret
      exact ⟨rfl, rfl⟩
theorem threeE {w : World} {b : Nat} {a c e : Value} {t : TypeId} {f : Nat × Nat} (h : w.heap[b]? = some (.cells #[a, c, e] t f)) : w.cell? ⟨b, 0, none⟩ = some a ∧ w.cell? ⟨b, 1, none⟩ = some c ∧ w.cell? ⟨b, 2, none⟩ = some e :=
  ⟨by rw [cell_of_row _ _ _ _ _ _ h]; rfl, by rw [cell_of_row _ _ _ _ _ _ h]; rfl, by rw [cell_of_row _ _ _ _ _ _ h]; rfl⟩
/-- What is kept of the six deals. -/
def verL (E S : Nat → Int) : List Value := [.int .i64 (E 0), .int .i64 (S 0), .int .i64 (E 1), .int .i64 (S 1), .int .i64 (E 2), .int .i64 (S 2), .int .i64 (E 3), .int .i64 (S 3), .int .i64 (E 4), .int .i64 (S 4), .int .i64 (E 5), .int .i64 (S 5)]
def verV (E S : Nat → Int) : Value := .agg #[.int .i64 (E 0), .int .i64 (S 0), .int .i64 (E 1), .int .i64 (S 1), .int .i64 (E 2), .int .i64 (S 2), .int .i64 (E 3), .int .i64 (S 3), .int .i64 (E 4), .int .i64 (S 4), .int .i64 (E 5), .int .i64 (S 5)]
theorem verL_get (E S : Nat → Int) {d : Nat} (hd : d < 6) : (verL E S)[d * 2]? = some (.int .i64 (E d)) ∧ (verL E S)[d * 2 + 1]? = some (.int .i64 (S d)) := by
  have h : d = 0 ∨ d = 1 ∨ d = 2 ∨ d = 3 ∨ d = 4 ∨ d = 5 := by omega
  rcases h with rfl | rfl | rfl | rfl | rfl | rfl <;> exact ⟨rfl, rfl⟩
theorem ver_cells {w : World} {b : Nat} {E S : Nat → Int} {t : TypeId} (h : w.heap[b]? = some (.cells (verL E S).toArray t (0, 0))) {d : Nat} (hd : d < 6) : w.cell? ⟨b, d * 2, none⟩ = some (.int .i64 (E d)) ∧ w.cell? ⟨b, d * 2 + 1, none⟩ = some (.int .i64 (S d)) := by
  obtain ⟨h1, h2⟩ := verL_get E S hd
  exact ⟨by rw [cell_of_row _ _ _ _ _ _ h, List.getElem?_toArray]; exact h1, by rw [cell_of_row _ _ _ _ _ _ h, List.getElem?_toArray]; exact h2⟩
set_option maxHeartbeats 2000000 in
set_option maxRecDepth 100000 in
theorem jfault_bad (A : Nat → Addr) (s d p n : Int) (E S : Nat → Int) (w : World) (hE : Held9 w A) (hb : bdB n ⟨s, d, p⟩ = false) :
    Calls Tryz.prog 62 #[.agg #[.int .i64 s, .int .i64 d, .int .i64 p], .int .i64 n, verV E S] w fun e w' => e = .returned (ev A 2) ∧ Below w.heap.size w w' := by
  obtain ⟨x1, H1⟩ : ∃ x, Hid (decide (0 ≤ s ∧ s < n) = x) := ⟨_, rfl⟩
  obtain ⟨x2, H2⟩ : ∃ x, Hid (decide (0 ≤ d ∧ d < 6) = x) := ⟨_, rfl⟩
  obtain ⟨x3, H3⟩ : ∃ x, Hid (decide (p = 2 ∨ p = 3) = x) := ⟨_, rfl⟩
  have HX : Hid (x1 = true → x2 = true → x3 = false) := fun e1 e2 => by
    have h1 := of_decide_eq_true (H1.out.trans e1)
    have h2 := of_decide_eq_true (H2.out.trans e2)
    rw [← H3.out]
    refine decide_eq_false fun h3 => ?_
    exact of_decide_eq_false hb ⟨h1, h2, h3⟩
  obtain ⟨W, HW⟩ : ∃ W, Hid ((w.alloc (.cells #[.int .i64 s, .int .i64 d, .int .i64 p] 45)).alloc (.cells #[.int .i64 (E 0), .int .i64 (S 0), .int .i64 (E 1), .int .i64 (S 1), .int .i64 (E 2), .int .i64 (S 2), .int .i64 (E 3), .int .i64 (S 3), .int .i64 (E 4), .int .i64 (S 4), .int .i64 (E 5), .int .i64 (S 5)] 111) = W) := ⟨_, rfl⟩
  have HB : Hid (Below w.heap.size w W) := by rw [← HW.out]; exact ((Below.refl _ _).alloc (Nat.le_refl _) _).alloc (by simp) _
  have HR : Hid (W.heap[w.heap.size]? = some (.cells #[.int .i64 s, .int .i64 d, .int .i64 p] 45 (0, 0))) := by
    rw [← HW.out]
    exact (heap_alloc_old _ _ (by simp)).trans (heap_alloc_new w _)
  obtain ⟨b0, b1, b2⟩ := threeE HR.out
  have hW := HW.out
  have c1 := (hE.later HB.out).cells.2.1
  unfold verV
  clear hE hb
  cases x1 with
  | false =>
    go_enter Tryz.func62, Tryz.ntmps62
    go_wp2_with fail
    refine (jbelow_is s n false _ H1.out).mono ?_
    rintro e w1 ⟨rfl, hx⟩
    subst w1
    go_wp2_with fail
    go_ret
    exact ⟨rfl, HB.out⟩
  | true =>
    cases x2 with
    | false =>
      go_enter Tryz.func62, Tryz.ntmps62
      go_wp2_with fail
      refine (jbelow_is s n true _ H1.out).mono ?_
      rintro e w1 ⟨rfl, hx⟩
      subst w1
      go_wp2_with fail
      refine (jbelow_is d 6 false _ H2.out).mono ?_
      rintro e w1 ⟨rfl, hx⟩
      subst w1
      go_wp2_with fail
      go_ret
      exact ⟨rfl, HB.out⟩
    | true =>
      obtain rfl := HX.out rfl rfl
      go_enter Tryz.func62, Tryz.ntmps62
      go_wp2_with fail
      refine (jbelow_is s n true _ H1.out).mono ?_
      rintro e w1 ⟨rfl, hx⟩
      subst w1
      go_wp2_with fail
      refine (jbelow_is d 6 true _ H2.out).mono ?_
      rintro e w1 ⟨rfl, hx⟩
      subst w1
      go_wp2_with fail
      refine (jisEnd_is p false _ H3.out).mono ?_
      rintro e w1 ⟨rfl, hx⟩
      subst w1
      go_wp2_with fail
      go_ret
      exact ⟨rfl, HB.out⟩
theorem bit_and1 {s : Int} (k : Nat) (h0 : 0 ≤ s) (h1 : s < 9223372036854775808) : (bits BinOp.and IntKind.i64 (s / 2 ^ k) 1 == 1) = bit s k := by
  obtain ⟨m, rfl⟩ := Int.eq_ofNat_of_zero_le h0
  have e : ((m : Int) / 2 ^ k) = ((m / 2 ^ k : Nat) : Int) := by simp
  have hlt : m / 2 ^ k < 9223372036854775808 := Nat.lt_of_le_of_lt (Nat.div_le_self _ _) (by omega)
  rw [e, show (1 : Int) = ((1 : Nat) : Int) from rfl, bits_and_nat _ 1 hlt (by decide), Nat.and_one_is_mod]
  unfold bit
  rw [Int.toNat_natCast, Nat.testBit_eq_decide_div_mod_eq, Bool.eq_iff_iff]
  simp; omega
set_option maxHeartbeats 2000000 in
set_option maxRecDepth 100000 in
theorem jfault_ok (A : Nat → Addr) (s d : Nat) (p n : Int) (E S : Nat → Int) (x y : Bool) (w : World) (hE : Held9 w A) (hs : (s : Int) < n) (hn : n ≤ 7) (hd : d < 6) (hp : p = 2 ∨ p = 3) (hx : (E d != 0 && E d != p) = x) (h0 : 0 ≤ S d) (h1 : S d < 128) (hy : bit (S d) s = y) :
    Calls Tryz.prog 62 #[.agg #[.int .i64 (s : Int), .int .i64 (d : Int), .int .i64 p], .int .i64 n, verV E S] w fun e w' => e = .returned (ev A (if x = true then 9 else if y = true then 8 else 0)) ∧ Below w.heap.size w w' := by
  have H1 : Hid (decide (0 ≤ (s : Int) ∧ (s : Int) < n) = true) := hid (decide_eq_true ⟨by omega, hs⟩)
  have H2 : Hid (decide (0 ≤ (d : Int) ∧ (d : Int) < 6) = true) := hid (decide_eq_true ⟨by omega, by omega⟩)
  have H3 : Hid (decide (p = 2 ∨ p = 3) = true) := hid (decide_eq_true hp)
  obtain ⟨W, HW⟩ : ∃ W, Hid ((w.alloc (.cells #[.int .i64 (s : Int), .int .i64 (d : Int), .int .i64 p] 45)).alloc (.cells #[.int .i64 (E 0), .int .i64 (S 0), .int .i64 (E 1), .int .i64 (S 1), .int .i64 (E 2), .int .i64 (S 2), .int .i64 (E 3), .int .i64 (S 3), .int .i64 (E 4), .int .i64 (S 4), .int .i64 (E 5), .int .i64 (S 5)] 111) = W) := ⟨_, rfl⟩
  have HB : Hid (Below w.heap.size w W) := by rw [← HW.out]; exact ((Below.refl _ _).alloc (Nat.le_refl _) _).alloc (by simp) _
  have HR : Hid (W.heap[w.heap.size]? = some (.cells #[.int .i64 (s : Int), .int .i64 (d : Int), .int .i64 p] 45 (0, 0))) := by
    rw [← HW.out]
    exact (heap_alloc_old _ _ (by simp)).trans (heap_alloc_new w _)
  have HV : Hid (W.heap[w.heap.size + 1]? = some (.cells (verL E S).toArray 111 (0, 0))) := by
    rw [← HW.out]
    have := heap_alloc_new (w.alloc (.cells #[.int .i64 (s : Int), .int .i64 (d : Int), .int .i64 p] 45)) (.cells (verL E S).toArray 111)
    rw [World.size_alloc] at this
    exact this
  obtain ⟨b0, b1, b2⟩ := threeE HR.out
  obtain ⟨v0, v1⟩ := ver_cells HV.out hd
  have hW := HW.out
  obtain ⟨-, c1, -, -, -, -, -, c7, c8⟩ := (hE.later HB.out).cells
  have hbit : Hid ((bits BinOp.and IntKind.i64 (S d / 2 ^ s) 1 == 1) = y) := by rw [← hy]; exact bit_and1 s h0 (by omega)
  obtain ⟨ed, HED⟩ : ∃ z, Hid (E d = z) := ⟨_, rfl⟩
  obtain ⟨sd, HSD⟩ : ∃ z, Hid (S d = z) := ⟨_, rfl⟩
  rw [HED.out] at v0 hx
  rw [HSD.out] at v1 hbit h0 h1
  unfold verV
  clear hE hp HR HV
  cases x with
  | true =>
    rw [Bool.and_eq_true, bne_iff_ne, bne_iff_ne] at hx
    have e1 : (ed != 0) = true := bne_iff_ne.2 hx.1
    have e2 : (ed != p) = true := bne_iff_ne.2 hx.2
    rw [if_pos rfl]
    go_enter Tryz.func62, Tryz.ntmps62
    go_wp2_with fail
    refine (jbelow_is s n true _ H1.out).mono ?_
    rintro e w1 ⟨rfl, hx⟩
    subst w1
    go_wp2_with fail
    refine (jbelow_is d 6 true _ H2.out).mono ?_
    rintro e w1 ⟨rfl, hx⟩
    subst w1
    go_wp2_with fail
    refine (jisEnd_is p true _ H3.out).mono ?_
    rintro e w1 ⟨rfl, hx⟩
    subst w1
    go_wp2_with fail
    go_quiet (fail)
    go_wp2
    go_ret
    exact ⟨rfl, below_drewN HB.out _⟩
  | false =>
    rw [if_neg (by decide)]
    have key : ∀ f1 f2 : Bool, (ed != 0) = f1 → (f1 = true → (ed != p) = f2 ∧ f2 = false) → Calls Tryz.prog 62 #[.agg #[.int .i64 (s : Int), .int .i64 (d : Int), .int .i64 p], .int .i64 n, .agg #[.int .i64 (E 0), .int .i64 (S 0), .int .i64 (E 1), .int .i64 (S 1), .int .i64 (E 2), .int .i64 (S 2), .int .i64 (E 3), .int .i64 (S 3), .int .i64 (E 4), .int .i64 (S 4), .int .i64 (E 5), .int .i64 (S 5)]] w fun e w' => e = .returned (ev A (if y = true then 8 else 0)) ∧ Below w.heap.size w w' := by
      intro f1 f2 e1 e2
      have e3 : f1 = true → (ed != p) = false := fun h => by obtain ⟨a1, a2⟩ := e2 h; rw [a1, a2]
      clear e2
      cases f1 with
      | true =>
        have e4 := e3 rfl
        clear e3 hx
        go_enter Tryz.func62, Tryz.ntmps62
        go_wp2_with fail
        refine (jbelow_is s n true _ H1.out).mono ?_
        rintro e w1 ⟨rfl, hx⟩
        subst w1
        go_wp2_with fail
        refine (jbelow_is d 6 true _ H2.out).mono ?_
        rintro e w1 ⟨rfl, hx⟩
        subst w1
        go_wp2_with fail
        refine (jisEnd_is p true _ H3.out).mono ?_
        rintro e w1 ⟨rfl, hx⟩
        subst w1
        go_wp2_with fail
        go_quiet (fail)
        go_wp2
        go_quiet (fail)
        rw [hbit.out]
        cases y with
        | true =>
          go_wp2
          go_ret
          exact ⟨rfl, below_drewN HB.out _⟩
        | false =>
          go_wp2
          go_ret
          exact ⟨rfl, below_drewN HB.out _⟩
      | false =>
        clear e3 hx
        go_enter Tryz.func62, Tryz.ntmps62
        go_wp2_with fail
        refine (jbelow_is s n true _ H1.out).mono ?_
        rintro e w1 ⟨rfl, hx⟩
        subst w1
        go_wp2_with fail
        refine (jbelow_is d 6 true _ H2.out).mono ?_
        rintro e w1 ⟨rfl, hx⟩
        subst w1
        go_wp2_with fail
        refine (jisEnd_is p true _ H3.out).mono ?_
        rintro e w1 ⟨rfl, hx⟩
        subst w1
        go_wp2_with fail
        go_quiet (fail)
        go_wp2
        go_quiet (fail)
        rw [hbit.out]
        cases y with
        | true =>
          go_wp2
          go_ret
          exact ⟨rfl, below_drewN HB.out _⟩
        | false =>
          go_wp2
          go_ret
          exact ⟨rfl, below_drewN HB.out _⟩
    refine key _ (ed != p) rfl fun h => ⟨rfl, ?_⟩
    rw [h, Bool.true_and] at hx
    exact hx
/-- A fault of an event, behind others that are well. -/
theorem jfault_any (A : Nat → Addr) (e : E3) (n : Int) (P : List E3) (c : Nat) (w : World) (hE : Held9 w A) (hn : n ≤ 7) (hk : EvK n P) (hc : evC n P e = c) :
    Calls Tryz.prog 62 #[.agg #[.int .i64 e.s, .int .i64 e.d, .int .i64 e.p], .int .i64 n, verV (endL P) (sitL P)] w fun r w' => r = .returned (ev A c) ∧ Below w.heap.size w w' := by
  subst hc
  unfold evC
  cases hb : bdB n e with
  | false =>
    rw [if_pos rfl]
    exact jfault_bad A e.s e.d e.p n _ _ w hE hb
  | true =>
    rw [if_neg (by decide)]
    obtain ⟨⟨s0, s1⟩, ⟨d0, d1⟩, hp⟩ := of_decide_eq_true hb
    obtain ⟨s, hs⟩ := Int.eq_ofNat_of_zero_le s0
    obtain ⟨d, hd⟩ := Int.eq_ofNat_of_zero_le d0
    have h := jfault_ok A s d e.p n (endL P) (sitL P) _ _ w hE (by omega) hn (by omega) hp rfl (hk.s0 d).1 (hk.s0 d).2 rfl
    rw [← hk.split hd, ← hk.held hd hs (by omega)] at h
    rw [hs, hd]
    exact h
end Go.Proofs.YtdpemmmbkjmplacGreatDoor
namespace Go.Proofs.YtdpemmmbkjmplacGreatDoor
open Go.RowKit

/-- One deal's entry is written. -/
theorem ver_set {w : World} {b : Nat} {E S : Nat → Int} {t : TypeId} (h : w.heap[b]? = some (.cells (verL E S).toArray t (0, 0))) {d : Nat} (hd : d < 6) (p q : Int) :
    ((w.setCell ⟨b, d * 2, none⟩ (.int .i64 p)).setCell ⟨b, d * 2 + 1, none⟩ (.int .i64 q)).heap[b]? = some (.cells (verL (fun x => if x = d then p else E x) (fun x => if x = d then q else S x)).toArray t (0, 0)) := by
  have e1 := heap_setCell_same w b (d * 2) _ _ (.int .i64 p) h
  rw [heap_setCell_same _ b (d * 2 + 1) _ _ _ e1, List.setIfInBounds_toArray, List.setIfInBounds_toArray]
  have hd6 : d = 0 ∨ d = 1 ∨ d = 2 ∨ d = 3 ∨ d = 4 ∨ d = 5 := by omega
  rcases hd6 with rfl | rfl | rfl | rfl | rfl | rfl <;> rfl
theorem verL_snoc (P : List E3) (e : E3) {d s : Nat} (hd : e.d = (d : Int)) (hs : e.s = (s : Int)) : (fun x => if x = d then e.p else endL P x) = endL (P ++ [e]) ∧ (fun x => if x = d then bits .or .i64 (sitL P d) (2 ^ s) else sitL P x) = sitL (P ++ [e]) := by
  constructor
  · funext x
    rw [endL_snoc]
    by_cases c : x = d
    · rw [if_pos c, if_pos (by omega)]
    · rw [if_neg c, if_neg (by omega)]
  · funext x
    rw [sitL_snoc]
    by_cases c : x = d
    · rw [if_pos c, if_pos (by omega), c, hs, Int.toNat_natCast]
    · rw [if_neg c, if_neg (by omega)]
theorem ver_twelve {w : World} {b : Nat} {E S : Nat → Int} {t : TypeId} (h : w.heap[b]? = some (.cells (verL E S).toArray t (0, 0))) :
    w.cell? ⟨b, 0, none⟩ = some (.int .i64 (E 0)) ∧ w.cell? ⟨b, 1, none⟩ = some (.int .i64 (S 0)) ∧ w.cell? ⟨b, 2, none⟩ = some (.int .i64 (E 1)) ∧ w.cell? ⟨b, 3, none⟩ = some (.int .i64 (S 1)) ∧ w.cell? ⟨b, 4, none⟩ = some (.int .i64 (E 2)) ∧ w.cell? ⟨b, 5, none⟩ = some (.int .i64 (S 2)) ∧ w.cell? ⟨b, 6, none⟩ = some (.int .i64 (E 3)) ∧ w.cell? ⟨b, 7, none⟩ = some (.int .i64 (S 3)) ∧ w.cell? ⟨b, 8, none⟩ = some (.int .i64 (E 4)) ∧ w.cell? ⟨b, 9, none⟩ = some (.int .i64 (S 4)) ∧ w.cell? ⟨b, 10, none⟩ = some (.int .i64 (E 5)) ∧ w.cell? ⟨b, 11, none⟩ = some (.int .i64 (S 5)) := by
  refine ⟨?_, ?_, ?_, ?_, ?_, ?_, ?_, ?_, ?_, ?_, ?_, ?_⟩ <;> rw [cell_of_row _ _ _ _ _ _ h] <;> rfl
/-- What Check answers: nothing, or a fault in a block of its own. -/
def FltV (w : World) (A : Nat → Addr) (c k : Nat) (v : Value) (base : Nat) : Prop := (c = 0 ∧ v = .nilIface) ∨ (∃ x fb, c = x + 1 ∧ base ≤ fb ∧ v = .iface 113 (.pointer (some ⟨fb, 0, none⟩)) ∧ w.cell? ⟨fb, 0, none⟩ = some (.int .i64 (k : Int)) ∧ w.cell? ⟨fb, 1, none⟩ = some (.iface 266 (.pointer (some (A x)))))
theorem jcheck_no (A : Nat → Addr) (v : Value) (n : Int) (w : World) (hE : Held9 w A) (hn : ¬ (1 ≤ n ∧ n ≤ 7)) :
    Calls Tryz.prog 19 #[v, .int .i64 n] w fun e w' => e = .returned (ev A 2) ∧ w' = w := by
  have c1 := hE.cells.2.1
  clear hE
  by_cases h1 : n < 1
  · go_enter Tryz.func19, Tryz.ntmps19
    go_wp2_with fail
    go_ret
    exact ⟨rfl, rfl⟩
  · have h2 : 7 < n := by omega
    go_enter Tryz.func19, Tryz.ntmps19
    go_wp2_with fail
    go_ret
    exact ⟨rfl, rfl⟩
set_option maxHeartbeats 2000000 in
set_option maxRecDepth 100000 in
theorem jcheck_ok (A : Nat → Addr) (ad : Option Addr) (cap : Nat) (L : List E3) (n : Int) (c kk : Nat) (w : World) (hE : Held9 w A) (h1 : 1 ≤ n) (h7 : n ≤ 7) (hL : EL w ad L) (hl : L.length ≤ 100000) (hF : EvF n L c kk) :
    Calls Tryz.prog 19 #[.slice ad L.length cap, .int .i64 n] w fun e w' => ∃ v, e = .returned v ∧ FltV w' A c kk v w.heap.size ∧ Below w.heap.size w w' := by
  have HE := hid hE
  have HL := hid hL
  have HF := hid hF
  have H7 := hid h7
  clear hE hL hF
  go_enter Tryz.func19, Tryz.ntmps19
  go_wp2_with fail
  go_loopw [19] (fun v wr => ∃ k : Nat, k ≤ kk ∧ v = .int .i64 (k : Int) ∧ wr.heap[w.heap.size]? = some (.cells (verL (endL (L.take k)) (sitL (L.take k))).toArray 111 (0, 0)) ∧ Below w.heap.size w wr) (fun v _ => L.length - (intOf v).toNat)
  case atStart =>
    refine ⟨0, Nat.zero_le _, rfl, ?_, (Below.refl _ _).alloc (Nat.le_refl _) _⟩
    exact heap_alloc_new w _
  case round =>
    obtain ⟨k, hk, rfl, hrow, hb⟩ := hrel
    have HB := hid hb
    by_cases hlt : k < L.length
    · obtain ⟨b, o, rfl, y0, y1, y2⟩ := HL.out k hlt
      obtain ⟨⟨s, d, p⟩, HS⟩ : ∃ e, Hid (L[k]'hlt = e) := ⟨_, rfl⟩
      rw [HS.out] at y0 y1 y2
      replace y0 := cell_later hb y0
      replace y1 := cell_later hb y1
      replace y2 := cell_later hb y2
      obtain ⟨W2, HW2⟩ : ∃ W2, Hid (wr.alloc (.cells #[.int .i64 s, .int .i64 d, .int .i64 p] 45) = W2) := ⟨_, rfl⟩
      have hW2 := HW2.out
      have HB2 : Hid (Below wr.heap.size wr W2) := by rw [← HW2.out]; exact (Below.refl _ _).alloc (Nat.le_refl _) _
      have HR2 : Hid (W2.heap[w.heap.size]? = some (.cells (verL (endL (L.take k)) (sitL (L.take k))).toArray 111 (0, 0))) := row_later HB2.out hrow
      obtain ⟨z0, z1, z2, z3, z4, z5, z6, z7, z8, z9, z10, z11⟩ := ver_twelve HR2.out
      have HRe : Hid (W2.heap[wr.heap.size]? = some (.cells #[.int .i64 s, .int .i64 d, .int .i64 p] 45 (0, 0))) := by rw [← HW2.out]; exact heap_alloc_new wr _
      obtain ⟨r0, r1, r2⟩ := threeE HRe.out
      have hwb := row_ltJ hrow
      have HK : Hid (EvK n (L.take k)) := (show EvW n L k from fun j hj hjk => HF.out.1 j hj (by omega)).kept H7.out (by omega)
      clear hb
      by_cases hkk : k < kk
      · have HC : Hid (evC n (L.take k) ⟨s, d, p⟩ = 0) := by have := HF.out.1 k hlt hkk; rw [HS.out] at this; exact this
        have HFa := hid (jfault_any A ⟨s, d, p⟩ n (L.take k) 0 W2 ((HE.out.later HB.out).later HB2.out) H7.out HK.out HC.out)
        unfold verV at HFa
        rw [show ev A 0 = .nilIface from rfl] at HFa
        obtain ⟨⟨s0, s1⟩, ⟨d0, d1⟩, -⟩ := of_decide_eq_true (evC_zero HC.out).1
        simp only at s0 s1 d0 d1
        obtain ⟨sn, rfl⟩ := Int.eq_ofNat_of_zero_le s0
        obtain ⟨dn, rfl⟩ := Int.eq_ofNat_of_zero_le d0
        have hs7 : sn < 7 := by omega
        have hd6 : dn < 6 := by omega
        have HSn : Hid (L.take (k + 1) = L.take k ++ [⟨sn, dn, p⟩]) := by show _ = _; rw [take_snoc L k hlt, HS.out]
        go_wp2_with fail
        refine HFa.out.mono ?_
        rintro e w3 ⟨rfl, hb3⟩
        have HR3 := hid (row_later hb3 HR2.out)
        have HRe3 := hid (row_later hb3 HRe.out)
        have HB3 := hid (below_trans (below_trans HB.out HB2.out) hb3)
        clear hb3 r0 r1 r2 z0 z1 z2 z3 z4 z5 z6 z7 z8 z9 z10 z11
        obtain ⟨r0, r1, r2⟩ := threeE HRe3.out
        obtain ⟨v0, v1⟩ := ver_cells HR3.out hd6
        have f0 := frozen_of_row _ _ (dn * 2) _ _ HR3.out
        have f1 := frozen_of_row _ _ (dn * 2 + 1) _ _ HR3.out
        have HV := hid (ver_set HR3.out hd6 p (bits .or .i64 (sitL (L.take k) dn) (2 ^ sn)))
        rw [(verL_snoc (L.take k) ⟨sn, dn, p⟩ rfl rfl).1, (verL_snoc (L.take k) ⟨sn, dn, p⟩ rfl rfl).2, ← HSn.out] at HV
        have hp := (pow_le7 (n := sn) (by omega)).1
        have hp2 := (pow_le7 (n := sn) (by omega)).2
        obtain ⟨W4, HW4⟩ : ∃ W4, Hid (w3.setCell ⟨w.heap.size, dn * 2, none⟩ (.int .i64 p) = W4) := ⟨_, rfl⟩
        have hW4 := HW4.out
        rw [hW4] at HV
        have HR4 := hid (heap_setCell_same w3 w.heap.size (dn * 2) _ _ (.int .i64 p) HR3.out)
        have HRe4 := hid ((heap_setCell_other w3 ⟨w.heap.size, dn * 2, none⟩ wr.heap.size (.int .i64 p) (by show wr.heap.size ≠ w.heap.size; omega)).trans HRe3.out)
        rw [hW4] at HR4 HRe4
        have q1 : W4.cell? ⟨w.heap.size, dn * 2 + 1, none⟩ = some (.int .i64 (sitL (L.take k) dn)) := by rw [cell_of_row _ _ _ _ _ _ HR4.out, List.setIfInBounds_toArray, List.getElem?_toArray, List.getElem?_set_ne (by omega)]; exact (verL_get _ _ hd6).2
        obtain ⟨q2, q3, q4⟩ := threeE HRe4.out
        have f4 := frozen_of_row _ _ (dn * 2 + 1) _ _ HR4.out
        have HB4 : Hid (Below w.heap.size w W4) := by rw [← hW4]; exact HB3.out.setCell (Nat.le_refl _) _
        go_wp2_with fail
        go_region
        all_goals go_wp2_with fail
        go_roundw
        case rel =>
          refine ⟨k + 1, by omega, by go_num, HV.out, ?_⟩
          exact (HB4.out.setCell (Nat.le_refl _) _).drew
        case measure => simp [intOf]; omega
      · obtain rfl : k = kk := by omega
        obtain ⟨cx, HCx⟩ : ∃ cx, Hid (c = cx + 1 ∧ evC n (L.take k) ⟨s, d, p⟩ = cx + 1) := by
          rcases HF.out.2 with ⟨-, h⟩ | ⟨h, hc, he⟩
          · omega
          · rw [HS.out] at he
            exact ⟨c - 1, by omega, by rw [he]; omega⟩
        have HFa := hid (jfault_any A ⟨s, d, p⟩ n (L.take k) (cx + 1) W2 ((HE.out.later HB.out).later HB2.out) H7.out HK.out HCx.out.2)
        unfold verV at HFa
        rw [show ev A (cx + 1) = .iface 266 (.pointer (some (A cx))) from rfl] at HFa
        go_wp2_with fail
        refine HFa.out.mono ?_
        rintro e w3 ⟨rfl, hb3⟩
        have HB3 := hid (below_trans (below_trans HB.out HB2.out) hb3)
        clear hb3
        go_wp2_with fail
        go_ret
        refine ⟨_, rfl, .inr ⟨cx, w3.heap.size, HCx.out.1, HB3.out.size, rfl, ?_, ?_⟩, HB3.out.alloc HB3.out.size _⟩
        · rw [cell_of_row _ _ _ _ _ _ (heap_alloc_new w3 _)]; rfl
        · rw [cell_of_row _ _ _ _ _ _ (heap_alloc_new w3 _)]; rfl
    · have HC0 : Hid (c = 0 ∧ k = L.length) := by
        rcases HF.out.2 with ⟨h1, h2⟩ | ⟨h1, h2, h3⟩
        · exact ⟨h1, by omega⟩
        · omega
      have hk2 : ¬ ((k : Int) < (L.length : Int)) := by omega
      go_wp2_with fail
      go_ret
      exact ⟨_, rfl, .inl ⟨HC0.out.1, rfl⟩, HB.out⟩
theorem FltV.nil {w : World} {A : Nat → Addr} {k base : Nat} {v : Value} (h : FltV w A 0 k v base) : v = .nilIface := by
  rcases h with ⟨-, h⟩ | ⟨x, _, h, -⟩
  · exact h
  · cases h
end Go.Proofs.YtdpemmmbkjmplacGreatDoor
namespace Go.Proofs.YtdpemmmbkjmplacGreatDoor
open Go.RowKit

/-- The events are well. -/
theorem ax_events {zs : List Int} {V : PX} (hA : AX zs V) : EvF zs.length V.evs 0 V.evs.length := by
  refine ⟨fun j hj _ => ?_, .inl ⟨rfl, rfl⟩⟩
  obtain ⟨i, d, p, h1, h2, h3, h4, h5⟩ := hA.ex.at_ (V.evs[j]'hj) (List.getElem_mem hj)
  have hpre : ∀ q, q ∈ V.evs.take j → q ∈ V.evs ∧ ¬ (q.s = (V.evs[j]'hj).s ∧ q.d = (V.evs[j]'hj).d) := by
    intro q hq
    refine ⟨List.mem_of_mem_take hq, ?_⟩
    have hp := hA.ex.once
    rw [← List.take_append_drop j V.evs, List.pairwise_append] at hp
    exact hp.2.2 q hq _ (by rw [List.drop_eq_getElem_cons hj]; exact List.mem_cons_self)
  obtain ⟨g, hg⟩ := hA.gx d h3
  have hb : bdB zs.length (V.evs[j]'hj) = true := by rw [h1]; exact decide_eq_true ⟨⟨by simp only; omega, by simp only; omega⟩, ⟨by simp only; omega, by simp only; omega⟩, by simp only; omega⟩
  have hs : spB (V.evs.take j) (V.evs[j]'hj) = false := by
    unfold spB
    rw [List.any_eq_false]
    intro q hq hx
    obtain ⟨x1, x2⟩ := of_decide_eq_true hx
    obtain ⟨i', d', p', g1, g2, g3, g4, g5⟩ := hA.ex.at_ q (hpre q hq).1
    rw [h1, g1] at x1 x2
    simp only at x1 x2
    have ed : d' = d := by omega
    subst ed
    have s2 := hg.co.s2
    have s3 := hg.co.s3
    rcases h4 with h4 | h4 <;> rcases g4 with g4 | g4
    · omega
    · exact hg.co.split (s2 i h2 (by show (stN (V.nd i) d').ph = 2; omega)) (s3 i' g2 (by show (stN (V.nd i') d').ph = 3; omega))
    · exact hg.co.split (s2 i' g2 (by show (stN (V.nd i') d').ph = 2; omega)) (s3 i h2 (by show (stN (V.nd i) d').ph = 3; omega))
    · omega
  have hh : heB (V.evs.take j) (V.evs[j]'hj) = false := by
    unfold heB
    rw [List.any_eq_false]
    intro q hq hx
    obtain ⟨x1, x2⟩ := of_decide_eq_true hx
    exact (hpre q hq).2 ⟨x2, x1⟩
  unfold evC
  rw [if_neg (by rw [hb]; decide), if_neg (by rw [hs]; decide), if_neg (by rw [hh]; decide)]
end Go.Proofs.YtdpemmmbkjmplacGreatDoor
namespace Go.Proofs.YtdpemmmbkjmplacGreatDoor
open Go.RowKit

set_option maxRecDepth 100000 in
theorem sl_nilF (b off n cap : Nat) (w : World) : (binOp .eql 49 (.slice (some ⟨b, off, none⟩) n cap) (.slice none 0 0)).run Tryz.prog w = .ok (.bool false) w := by
  rfl
set_option maxRecDepth 100000 in
theorem sl_nilF0 (w : World) : (binOp .eql 49 (.slice none 0 0) (.slice none 0 0)).run Tryz.prog w = .ok (.bool true) w := by
  rfl
set_option maxRecDepth 100000 in
theorem sl_nilE0 (w : World) : (binOp .eql 41 (.slice none 0 0) (.slice none 0 0)).run Tryz.prog w = .ok (.bool true) w := by
  rfl
set_option maxRecDepth 100000 in
theorem sl_nilE (b off n cap : Nat) (w : World) : (binOp .eql 41 (.slice (some ⟨b, off, none⟩) n cap) (.slice none 0 0)).run Tryz.prog w = .ok (.bool false) w := by
  rfl
set_option maxHeartbeats 1000000 in
set_option maxRecDepth 100000 in
theorem cloneFrs_any (base : Nat) (v : Value) (L : List F9) (w : World) (hv : OwnF w base v L) (hl : L.length ≤ 1000000000000) :
    Calls Tryz.prog 63 #[v] w fun e w' => ∃ v', e = .returned v' ∧ w'.ownsRow w.heap.size 118 9 v' L.length (frCells L) ∧ Below w.heap.size w w' := by
  have hf := hv.isFr
  rcases hv with ⟨e, h0⟩ | ⟨g, o, cap, cur, e, -⟩
  · subst e
    subst h0
    clear hf
    have hnil := sl_nilF0
    go_enter Tryz.func63, Tryz.ntmps63
    go_wp2_with fail
    go_ret
    exact ⟨_, rfl, World.ownsRow_nil _ _ _ _, Below.refl _ _⟩
  · subst e
    have hnil := sl_nilF g o L.length cap
    have HF := hid (hf.later ((Below.refl w.heap.size w).alloc (Nat.le_refl _) (.cells #[] 118)))
    have HOw : Hid ((w.alloc (.cells #[] 118)).ownsRow w.heap.size 118 9 (.slice (some ⟨w.heap.size, 0, none⟩) 0 0) 0 []) := World.ownsRow_lit w #[] 0 (Nat.le_refl _) (by unfold maxLen; omega) rfl
    clear hf
    go_enter Tryz.func63, Tryz.ntmps63
    go_wp2_with (at_builtin; refine wpList_append_frs rfl _ _ rfl w.heap.size 0 (.slice (some ⟨w.heap.size, 0, none⟩) 0 0) (.slice (some ⟨g, o, none⟩) L.length cap) [] L rfl rfl HOw.out HF.out (by omega) (by simp) ?_; intro ad' cap' w1 hown hg ho; have HS := hid (And.intro hown hg); clear hown hg ho)
    go_ret
    refine ⟨_, rfl, ?_, ((Below.refl w.heap.size w).alloc (Nat.le_refl _) (.cells #[] 118)).grown HS.out.2 (by simp) (fun j hj => (HOw.out.lt j hj).1)⟩
    have := HS.out.1
    simpa using this
theorem wpList_append_evs {w : World} {ops : Array Oper} {rest : List Oper} {o : Oper} {a : Act} {Q : Exit → Act → World → Prop} (hgd : o.guard = none) (s x : Operand)
    (ho : o.op = .call { callee := .builtin .append, args := #[s, x], argTypes := #[41, 41] })
    (base n : Nat) (v : Value) (ad : Addr) (c : Nat) (xs : List Value) (L : List E3) (hs : a.eval s = v) (hx : a.eval x = .slice (some ad) L.length c) (hown : w.ownsRow base 45 3 v n xs) (hu : ∀ j u, (evCells L)[j]? = some u → w.cell? (ad.add j) = some u) (hn : n + L.length ≤ 1000000000000) (hb : base ≤ w.heap.size)
    (h : ∀ ad' cap' w', w'.ownsRow base 45 3 (.slice ad' (n + L.length) cap') (n + L.length) (xs ++ evCells L) → w.grownBy w' v.ownBlock → wpList Tryz.prog ops Q rest (a.put o.dst (.slice ad' (n + L.length) cap')) w') :
    wpList Tryz.prog ops Q (o :: rest) a w := by
  obtain ⟨i0, hi0, hz0, hz1, hz2⟩ := info_parts Tryz.infoEv
  refine wpList_append_own_at w hgd s x 41 ho base 45 i0 _ 3 24 Tryz.underlying41 hi0 hz0 hz1 hz2 rfl (by decide) v n xs hs hown ad L.length c (evCells L) hx (evCells_length L) hu (fun u hu => ?_) (by unfold maxLen; omega) (by omega) hb ?_
  · unfold evCells at hu
    obtain ⟨y, -, hy⟩ := List.mem_flatMap.1 hu
    exact e3_one y u hy
  · intro v' w' h2 h3 _ h5
    obtain ⟨ad', cap', rfl⟩ : ∃ ad' cap', v' = .slice ad' (n + L.length) cap' := by
      rcases h2.2 with ⟨e, h0⟩ | ⟨g, cap, cur, e, -⟩
      · exact ⟨none, 0, by rw [e, h0]⟩
      · exact ⟨_, _, e⟩
    exact h ad' cap' w' h2 h3
set_option maxHeartbeats 1000000 in
set_option maxRecDepth 100000 in
theorem cloneEvs_any (base : Nat) (v : Value) (L : List E3) (w : World) (hv : w.ownsRow base 45 3 v L.length (evCells L)) (hl : L.length ≤ 1000000000000) :
    Calls Tryz.prog 61 #[v] w fun e w' => ∃ v', e = .returned v' ∧ w'.ownsRow w.heap.size 45 3 v' L.length (evCells L) ∧ Below w.heap.size w w' := by
  rcases hv.2 with ⟨e, h0⟩ | ⟨g, cap, cur, e, -⟩
  · subst e
    obtain rfl : L = [] := List.length_eq_zero_iff.1 h0
    clear hv h0
    have hnil := sl_nilE0
    go_enter Tryz.func61, Tryz.ntmps61
    go_wp2_with fail
    go_ret
    exact ⟨_, rfl, World.ownsRow_nil _ _ _ _, Below.refl _ _⟩
  · subst e
    have hnil := sl_nilE g 0 L.length cap
    have HF : Hid (∀ j u, (evCells L)[j]? = some u → (w.alloc (.cells #[] 45)).cell? ((⟨g, 0, none⟩ : Addr).add j) = some u) := fun j u hu => cell_alloc _ (hv.cells rfl j u hu)
    have HOw : Hid ((w.alloc (.cells #[] 45)).ownsRow w.heap.size 45 3 (.slice (some ⟨w.heap.size, 0, none⟩) 0 0) 0 []) := World.ownsRow_lit w #[] 0 (Nat.le_refl _) (by unfold maxLen; omega) rfl
    clear hv
    go_enter Tryz.func61, Tryz.ntmps61
    go_wp2_with (at_builtin; refine wpList_append_evs rfl _ _ rfl w.heap.size 0 (.slice (some ⟨w.heap.size, 0, none⟩) 0 0) ⟨g, 0, none⟩ cap [] L rfl rfl HOw.out HF.out (by omega) (by simp) ?_; intro ad' cap' w1 hown hg; have HS := hid (And.intro hown hg); clear hown hg)
    go_ret
    refine ⟨_, rfl, ?_, ((Below.refl w.heap.size w).alloc (Nat.le_refl _) (.cells #[] 45)).grown HS.out.2 (by simp) (fun j hj => (HOw.out.lt j hj).1)⟩
    have := HS.out.1
    simpa using this
section
variable {w0 w w' : World} {C C' : Nat → Nat} {K : NB} {X : XB} {i m m' : Nat} {zs : List Int} {N : PN} {V V' : PX} {A : Nat → Addr}
set_option maxRecDepth 100000 in
theorem flying_any (h : WD w0 w C X zs V m) (hm : m ≤ 100000000) :
    Calls Tryz.prog 22 #[.pointer (some ⟨X.xb, 0, none⟩)] w fun e w' => ∃ v', e = .returned v' ∧ w'.ownsRow w.heap.size 118 9 v' V.fly.length (frCells V.fly) ∧ Below w.heap.size w w' := by
  obtain ⟨-, -, -, c3, -⟩ := h.cells
  have HC := hid (cloneFrs_any w0.heap.size X.fv V.fly w h.fly (by have := h.inv.fl; omega))
  generalize X.fv = fv at c3 HC
  clear h
  go_enter Tryz.func22, Tryz.ntmps22
  go_wp2_with fail
  refine HC.out.mono ?_
  rintro e w1 ⟨v', rfl, h1, h2⟩
  have HH := hid (And.intro h1 h2)
  clear h1 h2
  go_wp2_with fail
  go_ret
  exact ⟨_, rfl, HH.out⟩
set_option maxRecDepth 100000 in
theorem events_any (h : WD w0 w C X zs V m) :
    Calls Tryz.prog 18 #[.pointer (some ⟨X.xb, 0, none⟩)] w fun e w' => ∃ v', e = .returned v' ∧ w'.ownsRow w.heap.size 45 3 v' V.evs.length (evCells V.evs) ∧ Below w.heap.size w w' := by
  obtain ⟨-, -, -, -, c4⟩ := h.cells
  have HC := hid (cloneEvs_any w0.heap.size X.ev V.evs w h.evs (by have := h.inv.ev; omega))
  generalize X.ev = fv at c4 HC
  clear h
  go_enter Tryz.func18, Tryz.ntmps18
  go_wp2_with fail
  refine HC.out.mono ?_
  rintro e w1 ⟨v', rfl, h1, h2⟩
  have HH := hid (And.intro h1 h2)
  clear h1 h2
  go_wp2_with fail
  go_ret
  exact ⟨_, rfl, HH.out⟩
end
end Go.Proofs.YtdpemmmbkjmplacGreatDoor
