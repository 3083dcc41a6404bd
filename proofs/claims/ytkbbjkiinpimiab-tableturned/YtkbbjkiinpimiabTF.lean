/-
  WALKS of the document's answer (threefoldref1): told, ChooseOf.
-/
import Derived.Test.YtkbbjkiinpimiabTS
namespace Go.Proofs.Ytkbbjkiinpimiab
open Go.RowKit

theorem hasP_take (p : Int) (L : List S3) (k : Nat) (h : k < L.length) : hasP p (L.take (k + 1)) = (hasP p (L.take k) || decide (L[k].p = p)) := by
  unfold hasP; rw [take_snoc L k h, List.any_append]; simp
theorem hasP_in (p : Int) (L : List S3) (k : Nat) (h : k < L.length) (e : L[k].p = p) : hasP p L = true := (hasP_iff p L).2 ⟨_, List.getElem_mem h, e⟩
theorem preL_take (b : Int) (L : List S3) (k : Nat) (h : k < L.length) : preL b (L.take (k + 1)) = (preL b (L.take k) || decide (L[k].p = 4 ∧ L[k].a = b)) := by
  unfold preL; rw [take_snoc L k h, List.any_append]; simp
theorem preL_in (b : Int) (L : List S3) (k : Nat) (h : k < L.length) (e : L[k].p = 4) (e2 : L[k].a = b) : preL b L = true := (preL_iff b L).2 ⟨_, List.getElem_mem h, e, e2⟩
theorem be_take (L : List S3) (k : Nat) (h : k < L.length) : be (L.take (k + 1)) = beS (be (L.take k)) L[k] := by rw [take_snoc L k h, be_snoc]

set_option maxRecDepth 100000 in
theorem told_any (a : Option Addr) (cap : Nat) (L : List S3) (ph : Int) (w : World) (hl : L.length ≤ 200) (hL : SL w a L) :
    Calls Try.prog 14 #[.slice a L.length cap, .int .i64 ph] w fun e w' => e = .returned (.bool (hasP ph L)) ∧ w' = w := by
  have HX := hid hL
  have HT : Hid (hasP ph (L.take L.length) = hasP ph L) := by unfold Hid; rw [List.take_length]
  obtain ⟨r, Hr⟩ : ∃ r, Hid (hasP ph L = r) := ⟨_, rfl⟩
  rw [Hr.out]
  clear hL
  go_enter Try.func14, Try.ntmps14
  go_wp2_with fail
  go_loop [5] (fun i => ∃ k : Nat, k ≤ L.length ∧ i = .int .i64 (k : Int) ∧ hasP ph (L.take k) = false) (fun i => L.length - (intOf i).toNat)
  case atStart => exact ⟨0, Nat.zero_le _, rfl, rfl⟩
  case round =>
    obtain ⟨k, hk, rfl, hf⟩ := hrel
    have HF := hid hf
    clear hf
    by_cases hlt : k < L.length
    · have HG := hid (hasP_take ph L k hlt)
      have HI := hid (hasP_in ph L k hlt)
      obtain ⟨b, o, rfl, y0, y1, y2⟩ := HX.out k hlt
      obtain ⟨⟨sp, sr, sa⟩, HS⟩ : ∃ s, Hid (L[k]'hlt = s) := ⟨_, rfl⟩
      rw [HS.out] at y0 y1 y2 HG HI
      clear HS
      by_cases h1 : sp = ph
      · subst h1
        obtain rfl : true = r := (HI.out rfl).symm.trans Hr.out
        clear HG HI
        go_wp2_with fail
        go_ret
        exact ⟨rfl, rfl⟩
      · have G : Hid (hasP ph (L.take (k + 1)) = false) := by unfold Hid; rw [HG.out, HF.out]; simpa using h1
        clear HG HI
        go_wp2_with fail
        go_round
        case rel => exact ⟨k + 1, by omega, by go_num, G.out⟩
        case measure => simp [intOf]; omega
    · obtain rfl : k = L.length := by omega
      obtain rfl : false = r := HF.out.symm.trans (HT.out.trans Hr.out)
      go_wp2_with fail
      go_ret
      exact ⟨rfl, rfl⟩
theorem told_is (a : Option Addr) (cap : Nat) (L : List S3) (ph : Int) (r : Bool) (w : World) (hl : L.length ≤ 200) (hL : SL w a L) (h : hasP ph L = r) :
    Calls Try.prog 14 #[.slice a L.length cap, .int .i64 ph] w fun e w' => e = .returned (.bool r) ∧ w' = w := by subst h; exact told_any a cap L ph w hl hL

set_option maxHeartbeats 2000000 in
set_option maxRecDepth 100000 in
theorem rchoose_any (a : Option Addr) (cap : Nat) (L : List S3) (w : World) (hl : L.length ≤ 200) (hL : SL w a L) :
    Calls Try.prog 8 #[.slice a L.length cap] w fun e w' => e = .returned (.tuple #[.int .i64 (refL L).1, .bool (refL L).2]) ∧ w' = w := by
  have HX := hid hL
  obtain ⟨⟨cp, cf⟩, HC⟩ : ∃ x, Hid (refL L = x) := ⟨_, rfl⟩
  rw [HC.out]
  obtain ⟨i2, H2⟩ : ∃ x, Hid (hasP 2 L = x) := ⟨_, rfl⟩
  obtain ⟨i3, H3⟩ : ∃ x, Hid (hasP 3 L = x) := ⟨_, rfl⟩
  have HD : Hid ((if i2 = true then ((2 : Int), true) else if i3 = true then (3, true) else if preL (be L).2 L = true then (4, false) else (5, false)) = (cp, cf)) := by
    unfold Hid; rw [← HC.out]; unfold refL; rw [H2.out, H3.out]
  have HT : Hid (be (L.take L.length) = be L) := by unfold Hid; rw [List.take_length]
  clear hL HC
  cases i2 with
  | true =>
    obtain ⟨rfl, rfl⟩ : (2 : Int) = cp ∧ true = cf := by simpa using HD.out
    clear HD
    go_enter Try.func8, Try.ntmps8
    go_wp2_with (go_at_call 14; (with_reducible refine (told_is a cap L 2 true _ hl HX.out H2.out).mono ?_); rintro e wx ⟨rfl, rfl⟩)
    go_ret2
    exact ⟨rfl, rfl⟩
  | false =>
    cases i3 with
    | true =>
      obtain ⟨rfl, rfl⟩ : (3 : Int) = cp ∧ true = cf := by simpa using HD.out
      clear HD
      go_enter Try.func8, Try.ntmps8
      go_wp2_with (go_at_call 14; first | ((with_reducible refine (told_is a cap L 2 false _ hl HX.out H2.out).mono ?_); rintro e wx ⟨rfl, rfl⟩) | ((with_reducible refine (told_is a cap L 3 true _ hl HX.out H3.out).mono ?_); rintro e wx ⟨rfl, rfl⟩))
      go_ret2
      exact ⟨rfl, rfl⟩
    | false =>
      have HD2 : Hid ((if preL (be L).2 L = true then ((4 : Int), false) else (5, false)) = (cp, cf)) := by unfold Hid; simpa using HD.out
      clear HD
      go_enter Try.func8, Try.ntmps8
      go_wp2_with (go_at_call 14; first | ((with_reducible refine (told_is a cap L 2 false _ hl HX.out H2.out).mono ?_); rintro e wx ⟨rfl, rfl⟩) | ((with_reducible refine (told_is a cap L 3 false _ hl HX.out H3.out).mono ?_); rintro e wx ⟨rfl, rfl⟩))
      go_loop [4, 5, 6] (fun f b i => ∃ k : Nat, k ≤ L.length ∧ f = .bool (be (L.take k)).1 ∧ b = .int .i64 (be (L.take k)).2 ∧ i = .int .i64 (k : Int)) (fun _ _ i => L.length - (intOf i).toNat)
      case atStart => exact ⟨0, Nat.zero_le _, rfl, rfl, rfl⟩
      case round =>
        obtain ⟨k, hk, rfl, rfl, rfl⟩ := hrel
        by_cases hlt : k < L.length
        · have HG := hid (be_take L k hlt)
          obtain ⟨b, o, rfl, y0, y1, y2⟩ := HX.out k hlt
          obtain ⟨⟨sp, sr, sa⟩, HS⟩ : ∃ s, Hid (L[k]'hlt = s) := ⟨_, rfl⟩
          rw [HS.out] at y0 y1 y2 HG
          obtain ⟨⟨f, m⟩, HM⟩ : ∃ x, Hid (be (L.take k) = x) := ⟨_, rfl⟩
          rw [HM.out] at HG ⊢
          clear HS HM HD2
          by_cases h4 : sp = 4
          · subst h4
            have G0 : Hid (be (L.take (k + 1)) = (false, if f = true ∨ m < sa then sa else m)) := by unfold Hid; rw [HG.out]; unfold beS; exact if_pos (.inl rfl)
            clear HG
            cases f with
            | true =>
              have G : Hid (be (L.take (k + 1)) = (false, sa)) := by unfold Hid; rw [G0.out, if_pos (.inl rfl)]
              clear G0
              go_wp2_with fail
              go_round
              case rel => exact ⟨k + 1, by omega, by rw [G.out], by rw [G.out], by go_num⟩
              case measure => simp [intOf]; omega
            | false =>
              by_cases hm : m < sa
              · have G : Hid (be (L.take (k + 1)) = (false, sa)) := by unfold Hid; rw [G0.out, if_pos (.inr hm)]
                clear G0
                go_wp2_with fail
                go_round
                case rel => exact ⟨k + 1, by omega, by rw [G.out], by rw [G.out], by go_num⟩
                case measure => simp [intOf]; omega
              · have G : Hid (be (L.take (k + 1)) = (false, m)) := by unfold Hid; rw [G0.out, if_neg (by simpa using hm)]
                clear G0
                go_wp2_with fail
                go_round
                case rel => exact ⟨k + 1, by omega, by rw [G.out], by rw [G.out], by go_num⟩
                case measure => simp [intOf]; omega
          · by_cases h5 : sp = 5
            · subst h5
              have G0 : Hid (be (L.take (k + 1)) = (false, if f = true ∨ m < sa then sa else m)) := by unfold Hid; rw [HG.out]; unfold beS; exact if_pos (.inr rfl)
              clear HG
              cases f with
              | true =>
                have G : Hid (be (L.take (k + 1)) = (false, sa)) := by unfold Hid; rw [G0.out, if_pos (.inl rfl)]
                clear G0
                go_wp2_with fail
                go_round
                case rel => exact ⟨k + 1, by omega, by rw [G.out], by rw [G.out], by go_num⟩
                case measure => simp [intOf]; omega
              | false =>
                by_cases hm : m < sa
                · have G : Hid (be (L.take (k + 1)) = (false, sa)) := by unfold Hid; rw [G0.out, if_pos (.inr hm)]
                  clear G0
                  go_wp2_with fail
                  go_round
                  case rel => exact ⟨k + 1, by omega, by rw [G.out], by rw [G.out], by go_num⟩
                  case measure => simp [intOf]; omega
                · have G : Hid (be (L.take (k + 1)) = (false, m)) := by unfold Hid; rw [G0.out, if_neg (by simpa using hm)]
                  clear G0
                  go_wp2_with fail
                  go_round
                  case rel => exact ⟨k + 1, by omega, by rw [G.out], by rw [G.out], by go_num⟩
                  case measure => simp [intOf]; omega
            · have G : Hid (be (L.take (k + 1)) = (f, m)) := by unfold Hid; rw [HG.out]; unfold beS; exact if_neg (fun h => h.elim h4 h5)
              clear HG
              have d4 : (sp == 4) = false := beq_eq_false_iff_ne.2 h4
              have d5 : (sp == 5) = false := beq_eq_false_iff_ne.2 h5
              simp only at y0 y1 y2
              go_wp2_with fail
              go_round
              case rel => exact ⟨k + 1, by omega, by rw [G.out], by rw [G.out], by go_num⟩
              case measure => simp [intOf]; omega
        · obtain rfl : k = L.length := by omega
          rw [HT.out]
          obtain ⟨⟨f, m⟩, HM⟩ : ∃ x, Hid (be L = x) := ⟨_, rfl⟩
          rw [HM.out] at HD2 ⊢
          have HT2 : Hid (preL m (L.take L.length) = preL m L) := by unfold Hid; rw [List.take_length]
          clear HT HM
          go_wp2_with fail
          go_loop [7] (fun i => ∃ k : Nat, k ≤ L.length ∧ i = .int .i64 (k : Int) ∧ preL m (L.take k) = false) (fun i => L.length - (intOf i).toNat)
          case atStart => exact ⟨0, Nat.zero_le _, rfl, rfl⟩
          case round =>
            obtain ⟨k, hk, rfl, hf⟩ := hrel
            have HF := hid hf
            clear hf
            by_cases hlt : k < L.length
            · have HG := hid (preL_take m L k hlt)
              have HI := hid (preL_in m L k hlt)
              obtain ⟨b, o, rfl, y0, y1, y2⟩ := HX.out k hlt
              obtain ⟨⟨sp, sr, sa⟩, HS⟩ : ∃ s, Hid (L[k]'hlt = s) := ⟨_, rfl⟩
              rw [HS.out] at y0 y1 y2 HG HI
              clear HS
              by_cases h1 : sp = 4
              · subst h1
                by_cases h2 : sa = m
                · subst h2
                  have hd2 := HD2.out
                  rw [if_pos (HI.out rfl rfl)] at hd2
                  obtain ⟨rfl, rfl⟩ : (4 : Int) = cp ∧ false = cf := by simpa using hd2
                  clear hd2 HD2 HG HI
                  go_wp2_with fail
                  go_ret2
                  exact ⟨rfl, rfl⟩
                · have G : Hid (preL m (L.take (k + 1)) = false) := by unfold Hid; rw [HG.out, HF.out]; simpa using h2
                  clear HG HI
                  go_wp2_with fail
                  go_round
                  case rel => exact ⟨k + 1, by omega, by go_num, G.out⟩
                  case measure => simp [intOf]; omega
              · have G : Hid (preL m (L.take (k + 1)) = false) := by unfold Hid; rw [HG.out, HF.out]; simp [h1]
                clear HG HI
                go_wp2_with fail
                go_round
                case rel => exact ⟨k + 1, by omega, by go_num, G.out⟩
                case measure => simp [intOf]; omega
            · obtain rfl : k = L.length := by omega
              have hd2 := HD2.out
              rw [if_neg (by rw [← HT2.out, HF.out]; decide)] at hd2
              obtain ⟨rfl, rfl⟩ : (5 : Int) = cp ∧ false = cf := by simpa using hd2
              clear hd2 HD2
              go_wp2_with fail
              go_ret2
              exact ⟨rfl, rfl⟩
end Go.Proofs.Ytkbbjkiinpimiab
