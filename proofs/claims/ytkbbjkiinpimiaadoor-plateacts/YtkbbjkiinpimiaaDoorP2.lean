/-
  WALKS of package plate: check, spend, Cut, Bytes, Read.
-/
import Derived.Test.YtkbbjkiinpimiaaDoorP1
namespace Go.Proofs.YtkbbjkiinpimiaaDoor
open Go.RowKit

/-- The error of a place on a plate of n bytes. -/
def pErr (len : Nat) (off : Bool) (at_ n : Int) : Nat := if at_ < 0 ∨ n < 0 ∨ (len : Int) - n < at_ then 2 else if off then 6 else 0
theorem Held9.g1 {w : World} {A : Nat → Addr} (h : Held9 w A) : w.cell? ⟨1, 0, none⟩ = some (.iface 107 (.pointer (some (A 1)))) := h.var 1 (by decide)
theorem Held9.g5 {w : World} {A : Nat → Addr} (h : Held9 w A) : w.cell? ⟨5, 0, none⟩ = some (.iface 107 (.pointer (some (A 5)))) := h.var 5 (by decide)
/-- The variables of package api that plate and journal name hold their errors. -/
structure HeldE (w : World) (A : Nat → Addr) : Prop where
  g1 : w.cell? ⟨1, 0, none⟩ = some (.iface 107 (.pointer (some (A 1))))
  g2 : w.cell? ⟨2, 0, none⟩ = some (.iface 107 (.pointer (some (A 2))))
  g4 : w.cell? ⟨4, 0, none⟩ = some (.iface 107 (.pointer (some (A 4))))
  g5 : w.cell? ⟨5, 0, none⟩ = some (.iface 107 (.pointer (some (A 5))))
theorem HeldE.later {w w' : World} {A : Nat → Addr} (h : HeldE w A) (hb : Below w.heap.size w w') : HeldE w' A := ⟨cell_later hb h.g1, cell_later hb h.g2, cell_later hb h.g4, cell_later hb h.g5⟩
theorem Held9.toE {w : World} {A : Nat → Addr} (h : Held9 w A) : HeldE w A := ⟨h.var 1 (by decide), h.var 2 (by decide), h.var 4 (by decide), h.var 5 (by decide)⟩

theorem pcheck_bound (A : Nat → Addr) (p q : Nat) (B : ByteArray) (l a n : Int) (w : World) (h : Pl w p q B l) (hE : HeldE w A) (hB : B.size ≤ 1000) (hn : n ≤ 9223372036854775807) (hb : a < 0 ∨ n < 0 ∨ (B.size : Int) - n < a) :
    Calls Tryd.prog 71 #[.pointer (some ⟨p, 0, none⟩), .int .i64 a, .int .i64 n] w fun e w' => e = .returned (.iface 107 (.pointer (some (A 1)))) ∧ w' = w := by
  have c0 := h.c0
  have g1 := hE.g1
  clear h hE
  by_cases h1 : a < 0
  · clear hb
    go_enter Tryd.func71, Tryd.ntmps71
    go_wp2
    go_ret
    exact ⟨rfl, rfl⟩
  · by_cases h2 : n < 0
    · clear hb
      go_enter Tryd.func71, Tryd.ntmps71
      go_wp2
      go_ret
      exact ⟨rfl, rfl⟩
    · have h3 : (B.size : Int) - n < a := by omega
      clear hb
      go_enter Tryd.func71, Tryd.ntmps71
      go_wp2
      go_ret
      exact ⟨rfl, rfl⟩
theorem pcheck_in (A : Nat → Addr) (p q : Nat) (B : ByteArray) (l a n : Int) (w : World) (h : Pl w p q B l) (hE : HeldE w A) (hB : B.size ≤ 1000) (hb : ¬ (a < 0 ∨ n < 0 ∨ (B.size : Int) - n < a)) :
    Calls Tryd.prog 71 #[.pointer (some ⟨p, 0, none⟩), .int .i64 a, .int .i64 n] w fun e w' => e = .returned (if l = -2 then .iface 107 (.pointer (some (A 5))) else .nilIface) ∧ w' = w := by
  have H := hid h
  have c0 := h.c0
  have g5 := hE.g5
  have h1 : ¬ a < 0 := fun g => hb (.inl g)
  have h2 : ¬ n < 0 := fun g => hb (.inr (.inl g))
  have h3 : ¬ (B.size : Int) - n < a := fun g => hb (.inr (.inr g))
  clear h hE hb
  by_cases hl : l = -2
  · subst hl
    go_enter Tryd.func71, Tryd.ntmps71
    go_wp2_with (go_at_call 45; refine (power_any p q B _ _ H.out).mono ?_; rintro e w' ⟨rfl, rfl⟩)
    go_ret
    exact ⟨rfl, rfl⟩
  · rw [if_neg hl]
    have hl' : (l != -2) = true := by simpa using hl
    clear hl
    go_enter Tryd.func71, Tryd.ntmps71
    go_wp2_with (go_at_call 45; refine (power_any p q B _ _ H.out).mono ?_; rintro e w' ⟨rfl, rfl⟩)
    go_ret
    exact ⟨rfl, rfl⟩

theorem pspend_zero (p q : Nat) (B : ByteArray) (w : World) (h : Pl w p q B 0) :
    Calls Tryd.prog 72 #[.pointer (some ⟨p, 0, none⟩)] w fun e w' => e = .returned (.bool false) ∧ Pl w' p q B (-2) ∧ Kept (In2 p q) w w' := by
  have H := hid h
  have c1 := h.c1
  clear h
  go_enter Tryd.func72, Tryd.ntmps72
  go_wp2_with (go_at_call 44; refine (poff_any p q B _ _ H.out).mono ?_; rintro e w' ⟨rfl, h1, h2⟩)
  go_ret
  exact ⟨rfl, h1, h2⟩
theorem pspend_pos (p q : Nat) (B : ByteArray) (l : Int) (w : World) (h : Pl w p q B l) (h0 : 0 < l) (h1 : l ≤ 9223372036854775807) :
    Calls Tryd.prog 72 #[.pointer (some ⟨p, 0, none⟩)] w fun e w' => e = .returned (.bool true) ∧ Pl w' p q B (l - 1) ∧ Kept (In2 p q) w w' := by
  have c1 := h.c1
  have f1 := h.f1
  have H := hid (h.set (l - 1))
  clear h
  go_enter Tryd.func72, Tryd.ntmps72
  go_wp2
  go_ret
  exact ⟨rfl, H.out, kept_set p q _⟩
theorem pspend_neg (p q : Nat) (B : ByteArray) (l : Int) (w : World) (h : Pl w p q B l) (h0 : l < 0) :
    Calls Tryd.prog 72 #[.pointer (some ⟨p, 0, none⟩)] w fun e w' => e = .returned (.bool true) ∧ w' = w := by
  have c1 := h.c1
  clear h
  go_enter Tryd.func72, Tryd.ntmps72
  go_wp2
  go_ret
  exact ⟨rfl, rfl⟩

theorem pcut_bound (A : Nat → Addr) (v : Value) (n : Int) (w : World) (hE : HeldE w A) (hn : n < 0) :
    Calls Tryd.prog 40 #[v, .int .i64 n] w fun e w' => e = .returned (.iface 107 (.pointer (some (A 1)))) ∧ w' = w := by
  have g1 := hE.g1
  clear hE
  go_enter Tryd.func40, Tryd.ntmps40
  go_wp2
  go_ret
  exact ⟨rfl, rfl⟩
theorem pcut_off (A : Nat → Addr) (p q : Nat) (B : ByteArray) (n : Int) (w : World) (h : Pl w p q B (-2)) (hE : HeldE w A) (hn : ¬ n < 0) :
    Calls Tryd.prog 40 #[.pointer (some ⟨p, 0, none⟩), .int .i64 n] w fun e w' => e = .returned (.iface 107 (.pointer (some (A 5)))) ∧ w' = w := by
  have H := hid h
  have g5 := hE.g5
  clear hE h
  go_enter Tryd.func40, Tryd.ntmps40
  go_wp2_with (go_at_call 45; refine (power_any p q B _ _ H.out).mono ?_; rintro e w' ⟨rfl, rfl⟩)
  go_ret
  exact ⟨rfl, rfl⟩
theorem pcut_ok (p q : Nat) (B : ByteArray) (l n : Int) (w : World) (h : Pl w p q B l) (hl : ¬ l = -2) (hn : ¬ n < 0) :
    Calls Tryd.prog 40 #[.pointer (some ⟨p, 0, none⟩), .int .i64 n] w fun e w' => e = .returned .nilIface ∧ Pl w' p q B n ∧ Kept (In2 p q) w w' := by
  have H := hid h
  have c1 := h.c1
  have f1 := h.f1
  have H2 := hid (h.set n)
  have hl' : (l != -2) = true := by simpa using hl
  clear h hl
  go_enter Tryd.func40, Tryd.ntmps40
  go_wp2_with (go_at_call 45; refine (power_any p q B _ _ H.out).mono ?_; rintro e w' ⟨rfl, rfl⟩)
  go_ret
  exact ⟨rfl, H2.out, kept_set p q _⟩
end Go.Proofs.YtkbbjkiinpimiaaDoor
