/-
  THE WALK of the law TableTurned.
-/
import Derived.Test.YtkbbjkiinpimiabTH
namespace Go.Proofs.Ytkbbjkiinpimiab
open Go.RowKit

set_option maxRecDepth 100000 in
theorem turned_early (a : Option Addr) (n cap : Nat) (by_ x y z : Int) (w : World) (hm : n ≤ 9223372036854775807) (h : 60 < n ∨ by_ < 0 ∨ (n : Int) < by_) :
    Calls Try.prog 4 #[.slice a n cap, .int .i64 by_, .int .i64 x, .int .i64 y, .int .i64 z] w fun e w' => e = .returned (.bool true) ∧ Below w.heap.size w w' := by
  by_cases h60 : (60 : Int) < (n : Int)
  · clear h
    go_enter Try.func4, Try.ntmps4
    go_wp2_with (go_at_call 5; (with_reducible refine (chosen_any _).mono ?_); rintro e w1 ⟨rfl, hb1⟩)
    go_ret
    exact ⟨rfl, hb1⟩
  · by_cases h0 : by_ < 0
    · clear h
      go_enter Try.func4, Try.ntmps4
      go_wp2_with (go_at_call 5; (with_reducible refine (chosen_any _).mono ?_); rintro e w1 ⟨rfl, hb1⟩)
      go_ret
      exact ⟨rfl, hb1⟩
    · have h1 : (n : Int) < by_ := by omega
      clear h
      go_enter Try.func4, Try.ntmps4
      go_wp2_with (go_at_call 5; (with_reducible refine (chosen_any _).mono ?_); rintro e w1 ⟨rfl, hb1⟩)
      go_ret
      exact ⟨rfl, hb1⟩
set_option maxHeartbeats 4000000 in
set_option maxRecDepth 100000 in
theorem turned_small (a : Option Addr) (cap k : Nat) (L : List S3) (x y z : Int) (w : World) (hl : L.length ≤ 60) (hn : a = none → cap = 0) (hc : L.length ≤ cap) (hk : k ≤ L.length) (hL : SL w a L) :
    Calls Try.prog 4 #[.slice a L.length cap, .int .i64 (k : Int), .int .i64 x, .int .i64 y, .int .i64 z] w fun e w' => e = .returned (.bool true) ∧ Below w.heap.size w w' := by
  obtain ⟨⟨p, f⟩, HC⟩ : ∃ x, Hid (chooseL L = x) := ⟨_, rfl⟩
  have HW := hid (choose_ways L)
  rw [HC.out] at HW
  have HR : Hid (chooseL (L.drop k ++ L) = (p, f)) := (choose_turned L k).trans HC.out
  have HK : Hid ((L.drop k ++ L).length ≤ 200) := by unfold Hid; rw [List.length_append, List.length_drop]; omega
  obtain ⟨n, HA⟩ : ∃ x, Hid (afterI p = x) := ⟨_, rfl⟩
  obtain ⟨m1, H1⟩ : ∃ m, Hid (mayB x y = m) := ⟨_, rfl⟩
  obtain ⟨m2, H2⟩ : ∃ m, Hid (mayB y z = m) := ⟨_, rfl⟩
  obtain ⟨m3, H3⟩ : ∃ m, Hid (mayB x z = m) := ⟨_, rfl⟩
  have HT : Hid (m1 = true → m2 = true → m3 = true) := fun e1 e2 => H3.out.symm.trans (may_twice (H1.out.trans e1) (H2.out.trans e2))
  have HL := hid hL
  have HN := hid hn
  have hsl : ∀ w, (Instr.slice 22 (.slice a L.length cap) (some (.int .i64 (k : Int))) none none).run Try.prog w = .ok (.slice (cutA a cap k) (L.length - k) (cap - k)) w := fun w => slice_tail a L.length cap k w hk
  have HTl : Hid (∀ wx, Below w.heap.size w wx → SL wx (cutA a cap k) (L.drop k)) := fun wx hb => (HL.out.later hb).tail cap k hc
  have HTn : Hid (cutA a cap k = none → cap - k = 0) := cutA_none hn
  obtain ⟨a', Ha'⟩ : ∃ x, Hid (cutA a cap k = x) := ⟨_, rfl⟩
  rw [Ha'.out] at HTl HTn hsl
  have hz : ¬ (60 : Int) < (L.length : Int) := by omega
  have hz2 : ¬ (L.length : Int) < (k : Int) := by omega
  clear hL hn
  go_enter Try.func4, Try.ntmps4
  go_wp2_with (first
    | (go_at_call 5; (with_reducible refine (chosen_any _).mono ?_); rintro e w1 ⟨rfl, hb1⟩)
    | (at_builtin; refine wp_append_states rfl _ _ rfl w1.heap.size _ [] rfl (World.ownsRow_nil _ _ _ _) a' (L.length - k) (cap - k) (L.drop k) rfl List.length_drop.symm HTn.out (HTl.out _ hb1) (by simp) (by rw [List.length_drop]; omega) (Nat.le_refl _) ?_))
  intro v' w2 hown hb2
  have HB2 := hid (hb1.trans (hb2.mono hb1.size))
  have HO : Hid (w2.ownsRow w1.heap.size 32 3 v' (L.drop k).length (stCells (L.drop k))) := by unfold Hid; rw [List.length_drop]; simpa using hown
  have hw12 := hid hb2.size
  clear hown hb2 hsl
  go_wp2_with (at_builtin; refine wp_append_states rfl _ _ rfl w1.heap.size _ (L.drop k) rfl HO.out a L.length cap L rfl rfl HN.out (HL.out.later HB2.out) (by rw [List.length_drop]; omega) (by omega) hw12.out ?_)
  intro v2 w3 hown2 hb3
  replace hown2 : w3.ownsRow w1.heap.size 32 3 v2 (L.drop k ++ L).length (stCells (L.drop k ++ L)) := by simpa using hown2
  obtain ⟨n3, Hn3⟩ : ∃ n, Hid ((L.drop k ++ L).length = n) := ⟨_, rfl⟩
  obtain ⟨a3, cap3, hv2, -, hs3⟩ := SL.owned hown2
  rw [Hn3.out] at hv2
  subst hv2
  have HB3 := hid (HB2.out.trans (hb3.mono hb1.size))
  have HS3 := hid hs3
  clear hown2 hs3 hb3 HO HB2 hb1
  have hw := HW.out
  clear HW
  rcases hw with hw | hw | hw | hw
  · obtain ⟨rfl, rfl⟩ : p = 2 ∧ f = true := by simpa using hw
    obtain rfl : n = 0 := HA.out.symm
    clear hw
    cases m1 with
    | false =>
      go_wp2_with (first
        | (go_at_call 7; (with_reducible refine (ownStates_any a cap L _ (by omega) HN.out (HL.out.later HB3.out)).mono ?_); rintro e w4 ⟨a4, cap4, rfl, hL4, hb4⟩)
        | (go_at_call 6; (with_reducible refine (choose_is a4 cap4 L.length L 2 true _ rfl (by omega) hL4 HC.out).mono ?_); rintro e w5 ⟨rfl, hb5⟩)
        | (go_at_call 6; (with_reducible refine (choose_is a3 cap3 n3 (L.drop k ++ L) 2 true _ Hn3.out.symm HK.out ((HS3.out.later hb4).later hb5) HR.out).mono ?_); rintro e w6 ⟨rfl, hb6⟩)
        | (go_at_call 9; (with_reducible refine (after_is 2 0 _ HA.out).mono ?_); rintro e wx ⟨rfl, rfl⟩)
        | (go_at_call 11; (with_reducible refine (may_is x y false _ H1.out).mono ?_); rintro e wx ⟨rfl, rfl⟩)
        | (go_at_call 11; (with_reducible refine (may_is y z m2 _ H2.out).mono ?_); rintro e wx ⟨rfl, rfl⟩)
        | (go_at_call 11; (with_reducible refine (may_is x z true _ H3.out).mono ?_); rintro e wx ⟨rfl, rfl⟩))
      go_ret
      exact ⟨rfl, below_trans (below_trans (below_trans HB3.out hb4) hb5) hb6⟩
    | true =>
      cases m2 with
      | false =>
        go_wp2_with (first
          | (go_at_call 7; (with_reducible refine (ownStates_any a cap L _ (by omega) HN.out (HL.out.later HB3.out)).mono ?_); rintro e w4 ⟨a4, cap4, rfl, hL4, hb4⟩)
          | (go_at_call 6; (with_reducible refine (choose_is a4 cap4 L.length L 2 true _ rfl (by omega) hL4 HC.out).mono ?_); rintro e w5 ⟨rfl, hb5⟩)
          | (go_at_call 6; (with_reducible refine (choose_is a3 cap3 n3 (L.drop k ++ L) 2 true _ Hn3.out.symm HK.out ((HS3.out.later hb4).later hb5) HR.out).mono ?_); rintro e w6 ⟨rfl, hb6⟩)
          | (go_at_call 9; (with_reducible refine (after_is 2 0 _ HA.out).mono ?_); rintro e wx ⟨rfl, rfl⟩)
          | (go_at_call 11; (with_reducible refine (may_is x y true _ H1.out).mono ?_); rintro e wx ⟨rfl, rfl⟩)
          | (go_at_call 11; (with_reducible refine (may_is y z false _ H2.out).mono ?_); rintro e wx ⟨rfl, rfl⟩)
          | (go_at_call 11; (with_reducible refine (may_is x z true _ H3.out).mono ?_); rintro e wx ⟨rfl, rfl⟩))
        go_ret
        exact ⟨rfl, below_trans (below_trans (below_trans HB3.out hb4) hb5) hb6⟩
      | true =>
        obtain rfl : m3 = true := HT.out rfl rfl
        go_wp2_with (first
          | (go_at_call 7; (with_reducible refine (ownStates_any a cap L _ (by omega) HN.out (HL.out.later HB3.out)).mono ?_); rintro e w4 ⟨a4, cap4, rfl, hL4, hb4⟩)
          | (go_at_call 6; (with_reducible refine (choose_is a4 cap4 L.length L 2 true _ rfl (by omega) hL4 HC.out).mono ?_); rintro e w5 ⟨rfl, hb5⟩)
          | (go_at_call 6; (with_reducible refine (choose_is a3 cap3 n3 (L.drop k ++ L) 2 true _ Hn3.out.symm HK.out ((HS3.out.later hb4).later hb5) HR.out).mono ?_); rintro e w6 ⟨rfl, hb6⟩)
          | (go_at_call 9; (with_reducible refine (after_is 2 0 _ HA.out).mono ?_); rintro e wx ⟨rfl, rfl⟩)
          | (go_at_call 11; (with_reducible refine (may_is x y true _ H1.out).mono ?_); rintro e wx ⟨rfl, rfl⟩)
          | (go_at_call 11; (with_reducible refine (may_is y z true _ H2.out).mono ?_); rintro e wx ⟨rfl, rfl⟩)
          | (go_at_call 11; (with_reducible refine (may_is x z true _ H3.out).mono ?_); rintro e wx ⟨rfl, rfl⟩))
        go_ret
        exact ⟨rfl, below_trans (below_trans (below_trans HB3.out hb4) hb5) hb6⟩
  · obtain ⟨rfl, rfl⟩ : p = 3 ∧ f = true := by simpa using hw
    obtain rfl : n = 0 := HA.out.symm
    clear hw
    cases m1 with
    | false =>
      go_wp2_with (first
        | (go_at_call 7; (with_reducible refine (ownStates_any a cap L _ (by omega) HN.out (HL.out.later HB3.out)).mono ?_); rintro e w4 ⟨a4, cap4, rfl, hL4, hb4⟩)
        | (go_at_call 6; (with_reducible refine (choose_is a4 cap4 L.length L 3 true _ rfl (by omega) hL4 HC.out).mono ?_); rintro e w5 ⟨rfl, hb5⟩)
        | (go_at_call 6; (with_reducible refine (choose_is a3 cap3 n3 (L.drop k ++ L) 3 true _ Hn3.out.symm HK.out ((HS3.out.later hb4).later hb5) HR.out).mono ?_); rintro e w6 ⟨rfl, hb6⟩)
        | (go_at_call 9; (with_reducible refine (after_is 3 0 _ HA.out).mono ?_); rintro e wx ⟨rfl, rfl⟩)
        | (go_at_call 11; (with_reducible refine (may_is x y false _ H1.out).mono ?_); rintro e wx ⟨rfl, rfl⟩)
        | (go_at_call 11; (with_reducible refine (may_is y z m2 _ H2.out).mono ?_); rintro e wx ⟨rfl, rfl⟩)
        | (go_at_call 11; (with_reducible refine (may_is x z true _ H3.out).mono ?_); rintro e wx ⟨rfl, rfl⟩))
      go_ret
      exact ⟨rfl, below_trans (below_trans (below_trans HB3.out hb4) hb5) hb6⟩
    | true =>
      cases m2 with
      | false =>
        go_wp2_with (first
          | (go_at_call 7; (with_reducible refine (ownStates_any a cap L _ (by omega) HN.out (HL.out.later HB3.out)).mono ?_); rintro e w4 ⟨a4, cap4, rfl, hL4, hb4⟩)
          | (go_at_call 6; (with_reducible refine (choose_is a4 cap4 L.length L 3 true _ rfl (by omega) hL4 HC.out).mono ?_); rintro e w5 ⟨rfl, hb5⟩)
          | (go_at_call 6; (with_reducible refine (choose_is a3 cap3 n3 (L.drop k ++ L) 3 true _ Hn3.out.symm HK.out ((HS3.out.later hb4).later hb5) HR.out).mono ?_); rintro e w6 ⟨rfl, hb6⟩)
          | (go_at_call 9; (with_reducible refine (after_is 3 0 _ HA.out).mono ?_); rintro e wx ⟨rfl, rfl⟩)
          | (go_at_call 11; (with_reducible refine (may_is x y true _ H1.out).mono ?_); rintro e wx ⟨rfl, rfl⟩)
          | (go_at_call 11; (with_reducible refine (may_is y z false _ H2.out).mono ?_); rintro e wx ⟨rfl, rfl⟩)
          | (go_at_call 11; (with_reducible refine (may_is x z true _ H3.out).mono ?_); rintro e wx ⟨rfl, rfl⟩))
        go_ret
        exact ⟨rfl, below_trans (below_trans (below_trans HB3.out hb4) hb5) hb6⟩
      | true =>
        obtain rfl : m3 = true := HT.out rfl rfl
        go_wp2_with (first
          | (go_at_call 7; (with_reducible refine (ownStates_any a cap L _ (by omega) HN.out (HL.out.later HB3.out)).mono ?_); rintro e w4 ⟨a4, cap4, rfl, hL4, hb4⟩)
          | (go_at_call 6; (with_reducible refine (choose_is a4 cap4 L.length L 3 true _ rfl (by omega) hL4 HC.out).mono ?_); rintro e w5 ⟨rfl, hb5⟩)
          | (go_at_call 6; (with_reducible refine (choose_is a3 cap3 n3 (L.drop k ++ L) 3 true _ Hn3.out.symm HK.out ((HS3.out.later hb4).later hb5) HR.out).mono ?_); rintro e w6 ⟨rfl, hb6⟩)
          | (go_at_call 9; (with_reducible refine (after_is 3 0 _ HA.out).mono ?_); rintro e wx ⟨rfl, rfl⟩)
          | (go_at_call 11; (with_reducible refine (may_is x y true _ H1.out).mono ?_); rintro e wx ⟨rfl, rfl⟩)
          | (go_at_call 11; (with_reducible refine (may_is y z true _ H2.out).mono ?_); rintro e wx ⟨rfl, rfl⟩)
          | (go_at_call 11; (with_reducible refine (may_is x z true _ H3.out).mono ?_); rintro e wx ⟨rfl, rfl⟩))
        go_ret
        exact ⟨rfl, below_trans (below_trans (below_trans HB3.out hb4) hb5) hb6⟩
  · obtain ⟨rfl, rfl⟩ : p = 4 ∧ f = false := by simpa using hw
    obtain rfl : n = 2 := HA.out.symm
    clear hw
    cases m1 with
    | false =>
      go_wp2_with (first
        | (go_at_call 7; (with_reducible refine (ownStates_any a cap L _ (by omega) HN.out (HL.out.later HB3.out)).mono ?_); rintro e w4 ⟨a4, cap4, rfl, hL4, hb4⟩)
        | (go_at_call 6; (with_reducible refine (choose_is a4 cap4 L.length L 4 false _ rfl (by omega) hL4 HC.out).mono ?_); rintro e w5 ⟨rfl, hb5⟩)
        | (go_at_call 6; (with_reducible refine (choose_is a3 cap3 n3 (L.drop k ++ L) 4 false _ Hn3.out.symm HK.out ((HS3.out.later hb4).later hb5) HR.out).mono ?_); rintro e w6 ⟨rfl, hb6⟩)
        | (go_at_call 9; (with_reducible refine (after_is 4 2 _ HA.out).mono ?_); rintro e wx ⟨rfl, rfl⟩)
        | (go_at_call 11; (with_reducible refine (may_is x y false _ H1.out).mono ?_); rintro e wx ⟨rfl, rfl⟩)
        | (go_at_call 11; (with_reducible refine (may_is y z m2 _ H2.out).mono ?_); rintro e wx ⟨rfl, rfl⟩)
        | (go_at_call 11; (with_reducible refine (may_is x z true _ H3.out).mono ?_); rintro e wx ⟨rfl, rfl⟩))
      go_ret
      exact ⟨rfl, below_trans (below_trans (below_trans HB3.out hb4) hb5) hb6⟩
    | true =>
      cases m2 with
      | false =>
        go_wp2_with (first
          | (go_at_call 7; (with_reducible refine (ownStates_any a cap L _ (by omega) HN.out (HL.out.later HB3.out)).mono ?_); rintro e w4 ⟨a4, cap4, rfl, hL4, hb4⟩)
          | (go_at_call 6; (with_reducible refine (choose_is a4 cap4 L.length L 4 false _ rfl (by omega) hL4 HC.out).mono ?_); rintro e w5 ⟨rfl, hb5⟩)
          | (go_at_call 6; (with_reducible refine (choose_is a3 cap3 n3 (L.drop k ++ L) 4 false _ Hn3.out.symm HK.out ((HS3.out.later hb4).later hb5) HR.out).mono ?_); rintro e w6 ⟨rfl, hb6⟩)
          | (go_at_call 9; (with_reducible refine (after_is 4 2 _ HA.out).mono ?_); rintro e wx ⟨rfl, rfl⟩)
          | (go_at_call 11; (with_reducible refine (may_is x y true _ H1.out).mono ?_); rintro e wx ⟨rfl, rfl⟩)
          | (go_at_call 11; (with_reducible refine (may_is y z false _ H2.out).mono ?_); rintro e wx ⟨rfl, rfl⟩)
          | (go_at_call 11; (with_reducible refine (may_is x z true _ H3.out).mono ?_); rintro e wx ⟨rfl, rfl⟩))
        go_ret
        exact ⟨rfl, below_trans (below_trans (below_trans HB3.out hb4) hb5) hb6⟩
      | true =>
        obtain rfl : m3 = true := HT.out rfl rfl
        go_wp2_with (first
          | (go_at_call 7; (with_reducible refine (ownStates_any a cap L _ (by omega) HN.out (HL.out.later HB3.out)).mono ?_); rintro e w4 ⟨a4, cap4, rfl, hL4, hb4⟩)
          | (go_at_call 6; (with_reducible refine (choose_is a4 cap4 L.length L 4 false _ rfl (by omega) hL4 HC.out).mono ?_); rintro e w5 ⟨rfl, hb5⟩)
          | (go_at_call 6; (with_reducible refine (choose_is a3 cap3 n3 (L.drop k ++ L) 4 false _ Hn3.out.symm HK.out ((HS3.out.later hb4).later hb5) HR.out).mono ?_); rintro e w6 ⟨rfl, hb6⟩)
          | (go_at_call 9; (with_reducible refine (after_is 4 2 _ HA.out).mono ?_); rintro e wx ⟨rfl, rfl⟩)
          | (go_at_call 11; (with_reducible refine (may_is x y true _ H1.out).mono ?_); rintro e wx ⟨rfl, rfl⟩)
          | (go_at_call 11; (with_reducible refine (may_is y z true _ H2.out).mono ?_); rintro e wx ⟨rfl, rfl⟩)
          | (go_at_call 11; (with_reducible refine (may_is x z true _ H3.out).mono ?_); rintro e wx ⟨rfl, rfl⟩))
        go_ret
        exact ⟨rfl, below_trans (below_trans (below_trans HB3.out hb4) hb5) hb6⟩
  · obtain ⟨rfl, rfl⟩ : p = 5 ∧ f = false := by simpa using hw
    obtain rfl : n = 3 := HA.out.symm
    clear hw
    cases m1 with
    | false =>
      go_wp2_with (first
        | (go_at_call 7; (with_reducible refine (ownStates_any a cap L _ (by omega) HN.out (HL.out.later HB3.out)).mono ?_); rintro e w4 ⟨a4, cap4, rfl, hL4, hb4⟩)
        | (go_at_call 6; (with_reducible refine (choose_is a4 cap4 L.length L 5 false _ rfl (by omega) hL4 HC.out).mono ?_); rintro e w5 ⟨rfl, hb5⟩)
        | (go_at_call 6; (with_reducible refine (choose_is a3 cap3 n3 (L.drop k ++ L) 5 false _ Hn3.out.symm HK.out ((HS3.out.later hb4).later hb5) HR.out).mono ?_); rintro e w6 ⟨rfl, hb6⟩)
        | (go_at_call 9; (with_reducible refine (after_is 5 3 _ HA.out).mono ?_); rintro e wx ⟨rfl, rfl⟩)
        | (go_at_call 11; (with_reducible refine (may_is x y false _ H1.out).mono ?_); rintro e wx ⟨rfl, rfl⟩)
        | (go_at_call 11; (with_reducible refine (may_is y z m2 _ H2.out).mono ?_); rintro e wx ⟨rfl, rfl⟩)
        | (go_at_call 11; (with_reducible refine (may_is x z true _ H3.out).mono ?_); rintro e wx ⟨rfl, rfl⟩))
      go_ret
      exact ⟨rfl, below_trans (below_trans (below_trans HB3.out hb4) hb5) hb6⟩
    | true =>
      cases m2 with
      | false =>
        go_wp2_with (first
          | (go_at_call 7; (with_reducible refine (ownStates_any a cap L _ (by omega) HN.out (HL.out.later HB3.out)).mono ?_); rintro e w4 ⟨a4, cap4, rfl, hL4, hb4⟩)
          | (go_at_call 6; (with_reducible refine (choose_is a4 cap4 L.length L 5 false _ rfl (by omega) hL4 HC.out).mono ?_); rintro e w5 ⟨rfl, hb5⟩)
          | (go_at_call 6; (with_reducible refine (choose_is a3 cap3 n3 (L.drop k ++ L) 5 false _ Hn3.out.symm HK.out ((HS3.out.later hb4).later hb5) HR.out).mono ?_); rintro e w6 ⟨rfl, hb6⟩)
          | (go_at_call 9; (with_reducible refine (after_is 5 3 _ HA.out).mono ?_); rintro e wx ⟨rfl, rfl⟩)
          | (go_at_call 11; (with_reducible refine (may_is x y true _ H1.out).mono ?_); rintro e wx ⟨rfl, rfl⟩)
          | (go_at_call 11; (with_reducible refine (may_is y z false _ H2.out).mono ?_); rintro e wx ⟨rfl, rfl⟩)
          | (go_at_call 11; (with_reducible refine (may_is x z true _ H3.out).mono ?_); rintro e wx ⟨rfl, rfl⟩))
        go_ret
        exact ⟨rfl, below_trans (below_trans (below_trans HB3.out hb4) hb5) hb6⟩
      | true =>
        obtain rfl : m3 = true := HT.out rfl rfl
        go_wp2_with (first
          | (go_at_call 7; (with_reducible refine (ownStates_any a cap L _ (by omega) HN.out (HL.out.later HB3.out)).mono ?_); rintro e w4 ⟨a4, cap4, rfl, hL4, hb4⟩)
          | (go_at_call 6; (with_reducible refine (choose_is a4 cap4 L.length L 5 false _ rfl (by omega) hL4 HC.out).mono ?_); rintro e w5 ⟨rfl, hb5⟩)
          | (go_at_call 6; (with_reducible refine (choose_is a3 cap3 n3 (L.drop k ++ L) 5 false _ Hn3.out.symm HK.out ((HS3.out.later hb4).later hb5) HR.out).mono ?_); rintro e w6 ⟨rfl, hb6⟩)
          | (go_at_call 9; (with_reducible refine (after_is 5 3 _ HA.out).mono ?_); rintro e wx ⟨rfl, rfl⟩)
          | (go_at_call 11; (with_reducible refine (may_is x y true _ H1.out).mono ?_); rintro e wx ⟨rfl, rfl⟩)
          | (go_at_call 11; (with_reducible refine (may_is y z true _ H2.out).mono ?_); rintro e wx ⟨rfl, rfl⟩)
          | (go_at_call 11; (with_reducible refine (may_is x z true _ H3.out).mono ?_); rintro e wx ⟨rfl, rfl⟩))
        go_ret
        exact ⟨rfl, below_trans (below_trans (below_trans HB3.out hb4) hb5) hb6⟩
end Go.Proofs.Ytkbbjkiinpimiab
