/-
  WALKS of package table: known, May, After; the search for a phase's greatest attempt (a closure over the list).
-/
import Derived.Test.YtkopfpaldmapdaaDoorTS
import Derived.Laws.EntriesVeiled
import Derived.Deep.Slices
namespace Go.Proofs.YtkopfpaldmapdaaDoor
open Go.RowKit

set_option maxHeartbeats 1000000 in
set_option maxRecDepth 100000 in
theorem greatest_any (pb : Nat) (a : Option Addr) (cap : Nat) (L : List S3) (ph : Int) (w : World) (hp : w.cell? ⟨pb, 0, none⟩ = some (.slice a L.length cap)) (hl : L.length ≤ 200) (hL : SL w a L) :
    Calls Tryd.prog 104 #[.int .i64 ph, .pointer (some ⟨pb, 0, none⟩)] w fun e w' => e = .returned (.tuple #[.int .i64 (gr ph L).1, .bool (gr ph L).2]) ∧ Below w.heap.size w w' := by
  have HX := hid hL
  have HT : Hid (gr ph (L.take L.length) = gr ph L) := by unfold Hid; rw [List.take_length]
  clear hL
  go_enter Tryd.func104, Tryd.ntmps104
  go_wp2_with fail
  go_loopw [3, 4, 9] (fun m is i wr => ∃ k : Nat, k ≤ L.length ∧ m = .int .i64 (gr ph (L.take k)).1 ∧ is = .bool (gr ph (L.take k)).2 ∧ i = .int .i64 (k : Int) ∧ Below w.heap.size w wr) (fun _ _ i _ => L.length - (intOf i).toNat)
  case atStart => exact ⟨0, Nat.zero_le _, rfl, rfl, rfl, Below.refl _ _⟩
  case round =>
    obtain ⟨k, hk, rfl, rfl, rfl, hb⟩ := hrel
    have HB := hid hb
    by_cases hlt : k < L.length
    · have HG := hid (gr_take ph L k hlt)
      obtain ⟨b, o, rfl, y0, y1, y2⟩ := HX.out k hlt
      obtain ⟨⟨sp, sr, sa⟩, HS⟩ : ∃ s, Hid (L[k]'hlt = s) := ⟨_, rfl⟩
      rw [HS.out] at y0 y1 y2 HG
      replace y0 := cell_later hb y0
      replace y1 := cell_later hb y1
      replace y2 := cell_later hb y2
      obtain ⟨⟨m, is⟩, HM⟩ : ∃ x, Hid (gr ph (L.take k) = x) := ⟨_, rfl⟩
      rw [HM.out] at HG ⊢
      have HBn : ∀ o, Hid (Below w.heap.size w (wr.alloc o)) := fun o => hid (HB.out.alloc HB.out.size o)
      clear hb HS HM
      by_cases h1 : sp = ph
      · subst h1
        cases is with
        | false =>
          have G : Hid (gr sp (L.take (k + 1)) = (sa, true)) := by unfold Hid; rw [HG.out]; unfold grS; exact if_pos ⟨rfl, .inl rfl⟩
          clear HG
          go_wp2_with fail
          go_roundw
          case rel => exact ⟨k + 1, by omega, by rw [G.out], by rw [G.out], by go_num, (HBn _).out⟩
          case measure => simp [intOf]; omega
        | true =>
          by_cases h2 : m < sa
          · have G : Hid (gr sp (L.take (k + 1)) = (sa, true)) := by unfold Hid; rw [HG.out]; unfold grS; exact if_pos ⟨rfl, .inr h2⟩
            clear HG
            go_wp2_with fail
            go_roundw
            case rel => exact ⟨k + 1, by omega, by rw [G.out], by rw [G.out], by go_num, (HBn _).out⟩
            case measure => simp [intOf]; omega
          · have G : Hid (gr sp (L.take (k + 1)) = (m, true)) := by
              unfold Hid; rw [HG.out]; unfold grS
              exact if_neg (fun h => h.2.elim (fun h => by cases h) h2)
            clear HG
            go_wp2_with fail
            go_roundw
            case rel => exact ⟨k + 1, by omega, by rw [G.out], by rw [G.out], by go_num, (HBn _).out⟩
            case measure => simp [intOf]; omega
      · have G : Hid (gr ph (L.take (k + 1)) = (m, is)) := by unfold Hid; rw [HG.out]; unfold grS; exact if_neg (fun h => h1 h.1)
        clear HG
        go_wp2_with fail
        go_roundw
        case rel => exact ⟨k + 1, by omega, by rw [G.out], by rw [G.out], by go_num, (HBn _).out⟩
        case measure => simp [intOf]; omega
    · obtain rfl : k = L.length := by omega
      rw [HT.out]
      go_wp2_with fail
      go_ret2
      exact ⟨rfl, HB.out⟩
end Go.Proofs.YtkopfpaldmapdaaDoor
