/-
  WALKS of the laws on tables: chosen (a closed fact), TableChoose.
-/
import Derived.Test.YtkbbjkiinpimiabTC
import Derived.Test.YtkbbjkiinpimiabTD
import Derived.Test.YtkbbjkiinpimiabTE
import Derived.Test.YtkbbjkiinpimiabTF
import Derived.Test.YtkbbjkiinpimiabTQ
namespace Go.Proofs.Ytkbbjkiinpimiab
open Go.RowKit

theorem choose_is (a : Option Addr) (cap n : Nat) (L : List S3) (p : Int) (f : Bool) (w : World) (hn : n = L.length) (hl : L.length ≤ 200) (hL : SL w a L) (h : chooseL L = (p, f)) :
    Calls Try.prog 6 #[.slice a n cap] w fun e w' => e = .returned (.tuple #[.int .i64 p, .bool f]) ∧ Below w.heap.size w w' := by
  subst hn
  have := choose_any a cap L w hl hL
  rw [h] at this
  exact this
theorem rchoose_is (a : Option Addr) (cap : Nat) (L : List S3) (p : Int) (f : Bool) (w : World) (hl : L.length ≤ 200) (hL : SL w a L) (h : refL L = (p, f)) :
    Calls Try.prog 8 #[.slice a L.length cap] w fun e w' => e = .returned (.tuple #[.int .i64 p, .bool f]) ∧ w' = w := by
  have := rchoose_any a cap L w hl hL
  rw [h] at this
  exact this
theorem may_is (a b : Int) (m : Bool) (w : World) (h : mayB a b = m) : Calls Try.prog 11 #[.int .i64 a, .int .i64 b] w fun e w' => e = .returned (.bool m) ∧ w' = w := by subst h; exact may_any a b w
theorem rmay_is (a b : Int) (m : Bool) (w : World) (h : mayB a b = m) : Calls Try.prog 12 #[.int .i64 a, .int .i64 b] w fun e w' => e = .returned (.bool m) ∧ w' = w := by subst h; exact rmay_any a b w
theorem after_is (a n : Int) (w : World) (h : afterI a = n) : Calls Try.prog 9 #[.int .i64 a] w fun e w' => e = .returned (.int .i64 n) ∧ w' = w := by subst h; exact after_any a w
theorem rafter_is (a n : Int) (w : World) (h : afterI a = n) : Calls Try.prog 10 #[.int .i64 a] w fun e w' => e = .returned (.int .i64 n) ∧ w' = w := by subst h; exact rafter_any a w

set_option maxRecDepth 100000 in
theorem chosen_any (w : World) : Calls Try.prog 5 #[] w fun e w' => e = .returned (.bool true) ∧ Below w.heap.size w w' := by
  go_enter Try.func5, Try.ntmps5
  go_wp2_with (first
    | (go_at_call 6; (with_reducible refine (choose_is none 0 0 [] 5 false _ rfl (by decide) (SL.nil _ _) rfl).mono ?_); rintro e w1 ⟨rfl, hb1⟩)
    | (go_at_call 9; (with_reducible refine (after_is 4 2 _ rfl).mono ?_); rintro e wx ⟨rfl, rfl⟩)
    | (go_at_call 11; (with_reducible refine (may_is 0 1 true _ rfl).mono ?_); rintro e wx ⟨rfl, rfl⟩))
  go_ret
  exact ⟨rfl, hb1⟩
set_option maxRecDepth 100000 in
theorem chooses_early (a : Option Addr) (n cap : Nat) (from_ to_ : Int) (w : World) (hm : n ≤ 9223372036854775807) (h : 60 < n) :
    Calls Try.prog 3 #[.slice a n cap, .int .i64 from_, .int .i64 to_] w fun e w' => e = .returned (.bool true) ∧ Below w.heap.size w w' := by
  have h60 : (60 : Int) < (n : Int) := by omega
  go_enter Try.func3, Try.ntmps3
  go_wp2_with (go_at_call 5; (with_reducible refine (chosen_any _).mono ?_); rintro e w1 ⟨rfl, hb1⟩)
  go_ret
  exact ⟨rfl, hb1⟩
set_option maxHeartbeats 1000000 in
set_option maxRecDepth 100000 in
theorem chooses_small (a : Option Addr) (cap : Nat) (L : List S3) (from_ to_ : Int) (w : World) (hl : L.length ≤ 60) (hn : a = none → cap = 0) (hL : SL w a L) :
    Calls Try.prog 3 #[.slice a L.length cap, .int .i64 from_, .int .i64 to_] w fun e w' => e = .returned (.bool true) ∧ Below w.heap.size w w' := by
  obtain ⟨⟨p, f⟩, HC⟩ : ∃ x, Hid (chooseL L = x) := ⟨_, rfl⟩
  have HR : Hid (refL L = (p, f)) := (choose_ref L).symm.trans HC.out
  obtain ⟨n, HA⟩ : ∃ x, Hid (afterI from_ = x) := ⟨_, rfl⟩
  obtain ⟨m, HM⟩ : ∃ x, Hid (mayB from_ to_ = x) := ⟨_, rfl⟩
  have HL := hid hL
  have HN := hid hn
  have hz : ¬ (60 : Int) < (L.length : Int) := by omega
  clear hL hn
  go_enter Try.func3, Try.ntmps3
  go_wp2_with (first
    | (go_at_call 5; (with_reducible refine (chosen_any _).mono ?_); rintro e w1 ⟨rfl, hb1⟩)
    | (go_at_call 7; (with_reducible refine (ownStates_any a cap L _ (by omega) HN.out (HL.out.later hb1)).mono ?_); rintro e w2 ⟨a2, cap2, rfl, hL2, hb2⟩)
    | (go_at_call 6; (with_reducible refine (choose_is a2 cap2 L.length L p f _ rfl (by omega) hL2 HC.out).mono ?_); rintro e w3 ⟨rfl, hb3⟩)
    | (go_at_call 8; (with_reducible refine (rchoose_is a cap L p f _ (by omega) (((HL.out.later hb1).later hb2).later hb3) HR.out).mono ?_); rintro e wx ⟨rfl, rfl⟩)
    | (go_at_call 9; (with_reducible refine (after_is from_ n _ HA.out).mono ?_); rintro e wx ⟨rfl, rfl⟩)
    | (go_at_call 10; (with_reducible refine (rafter_is from_ n _ HA.out).mono ?_); rintro e wx ⟨rfl, rfl⟩)
    | (go_at_call 11; (with_reducible refine (may_is from_ to_ m _ HM.out).mono ?_); rintro e wx ⟨rfl, rfl⟩)
    | (go_at_call 12; (with_reducible refine (rmay_is from_ to_ m _ HM.out).mono ?_); rintro e wx ⟨rfl, rfl⟩))
  go_ret
  exact ⟨rfl, below_trans (below_trans hb1 hb2) hb3⟩
end Go.Proofs.Ytkbbjkiinpimiab
