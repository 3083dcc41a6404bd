/-
  WHAT STANDS ALONG THE LAWS ON JOURNALS: a journal that knows its plate, six states beside it; a law's list of puts in memory.
-/
import Derived.Test.YtkbbjkiinpimiaaDoorJQ
import Derived.Deep.CutRange
namespace Go.Proofs.YtkbbjkiinpimiaaDoor
open Go.RowKit

/-- A put of a law's list. -/
structure Put6 where
  deal : Int
  ph : Int
  pr : Int
  at_ : Int
  cut : Int
  boot : Bool
def put6C (t : Put6) : Array Value := #[.int .i64 t.deal, .int .i64 t.ph, .int .i64 t.pr, .int .i64 t.at_, .int .i64 t.cut, .bool t.boot]
/-- The puts xs lie behind the address. -/
def PutsIn (w : World) (ad : Option Addr) (xs : List Put6) : Prop := ∀ i (h : i < xs.length), ∃ b off, ad = some ⟨b, off, none⟩ ∧ w.cell? ⟨b, off + i * 6, none⟩ = some (.int .i64 (xs[i]'h).deal) ∧ w.cell? ⟨b, off + i * 6 + 1, none⟩ = some (.int .i64 (xs[i]'h).ph) ∧ w.cell? ⟨b, off + i * 6 + 2, none⟩ = some (.int .i64 (xs[i]'h).pr) ∧
    w.cell? ⟨b, off + i * 6 + 3, none⟩ = some (.int .i64 (xs[i]'h).at_) ∧ w.cell? ⟨b, off + i * 6 + 4, none⟩ = some (.int .i64 (xs[i]'h).cut) ∧ w.cell? ⟨b, off + i * 6 + 5, none⟩ = some (.bool (xs[i]'h).boot) ∧ (xs[i]'h).cut ≤ 9223372036854775807

/-- The states of deals as a plate tells them. -/
def sts (B : ByteArray) : Nat → St := fun d => (dealL B.data.toList d).2
structure CI (w0 w : World) (j p q nb : Nat) (B : ByteArray) (l : Int) (N : Nat → St) (m : Nat) : Prop where
  jp : JP w0 w j p q (dealL B.data.toList) false B l
  pow : l ≠ -2
  nr : NR w nb N
  nb0 : w0.heap.size ≤ nb
  nbj : nb ≠ j
  nbp : nb ≠ p
  nbq : nb ≠ q
  same : ∀ d, d < 6 → N d = sts B d
  num : ∀ d, d < 6 → (dealL B.data.toList d).1 ≤ m
section
variable {w0 w w' : World} {j p q nb m : Nat} {B : ByteArray} {l : Int} {N : Nat → St} {A : Nat → Addr}
theorem CI.later (h : CI w0 w j p q nb B l N m) (hb : Below w.heap.size w w') : CI w0 w' j p q nb B l N m :=
  ⟨h.jp.later hb, h.pow, h.nr.later hb h.nr.lt, h.nb0, h.nbj, h.nbp, h.nbq, h.same, h.num⟩
theorem CI.drew (h : CI w0 w j p q nb B l N m) : CI w0 w.drew j p q nb B l N m := h.later (Below.refl _ _).drew
theorem CI.drewN (h : CI w0 w j p q nb B l N m) (n : Nat) : CI w0 (w.drewN n) j p q nb B l N m := h.later (below_drewN (Below.refl _ _) n)
theorem CI.mono {m' : Nat} (h : CI w0 w j p q nb B l N m) (hm : m ≤ m') : CI w0 w j p q nb B l N m' :=
  ⟨h.jp, h.pow, h.nr, h.nb0, h.nbj, h.nbp, h.nbq, h.same, fun d hd => Nat.le_trans (h.num d hd) hm⟩
theorem CI.lts (h : CI w0 w j p q nb B l N m) : j < w.heap.size ∧ p < w.heap.size ∧ q < w.heap.size ∧ nb < w.heap.size := ⟨h.jp.jr.lt, row_lt h.jp.pl.head, row_lt h.jp.pl.row, h.nr.lt⟩
/-- A cut is set. -/
theorem CI.cut (h : CI w0 w j p q nb B l N m) {n : Int} (hk : Kept (In2 p q) w w') (hp : Pl w' p q B n) (h0 : 0 ≤ n) (h1 : n ≤ 9223372036854775807) : CI w0 w' j p q nb B n N m :=
  ⟨h.jp.plate hk hp (by omega) h1 rfl, by omega, hk.row h.nr (fun g => g.elim h.nbp h.nbq), h.nb0, h.nbj, h.nbp, h.nbq, h.same, h.num⟩
/-- The states that stand behind a Put that was done, once the list is told it. -/
theorem CI.put (h : CI w0 w j p q nb B l N m) {d : Nat} {s : St} {B' : ByteArray} {l' : Int} {E' : Nat → Nat × St} {over' : Bool} (hj : JP w0 w' j p q E' over' B' l') (hk : Kept (In3 j p q) w w') (ho : over' = false) (hE : E' = dealL B'.data.toList) (hl : l' ≠ -2)
    (hs : (dealL B'.data.toList d).2 = s) (hot : ∀ e, e ≠ d → dealL B'.data.toList e = dealL B.data.toList e) (hn : (dealL B'.data.toList d).1 ≤ (dealL B.data.toList d).1 + 1) (hd : d < 6) :
    JP w0 w' j p q (dealL B'.data.toList) false B' l' ∧ NR w' nb N ∧ ∀ w'', NR w'' nb (updN N d s) → JP w0 w'' j p q (dealL B'.data.toList) false B' l' → CI w0 w'' j p q nb B' l' (updN N d s) (m + 1) := by
  subst ho hE
  refine ⟨hj, hk.row h.nr (fun g => by rcases g with g | g | g; exact h.nbj g; exact h.nbp g; exact h.nbq g), fun w'' hn2 hj2 => ⟨hj2, hl, hn2, h.nb0, h.nbj, h.nbp, h.nbq, fun e he => ?_, fun e he => ?_⟩⟩
  · unfold updN sts
    by_cases g : e = d
    · rw [if_pos g, g, hs]
    · rw [if_neg g, hot e g]; exact h.same e he
  · by_cases g : e = d
    · have := h.num d hd; rw [g]; omega
    · rw [hot e g]; have := h.num e he; omega
/-- The list alone is written. -/
theorem JP.aside (h : JP w0 w j p q (dealL B.data.toList) false B l) (hk : Kept (In1 nb) w w') (h0 : w0.heap.size ≤ nb) (hj : nb ≠ j) (hp : nb ≠ p) (hq : nb ≠ q) : JP w0 w' j p q (dealL B.data.toList) false B l :=
  ⟨hk.below h.bel.size (fun k g => by unfold In1 at g; omega) h.bel, hk.row h.jr (fun g => hj g.symm), h.pl.kept hk (fun g => hp g.symm) (fun g => hq g.symm), h.jp, h.jq, h.j0, h.p0, h.q0, h.l0, h.l1, h.sz, h.s6⟩
/-- Behind a Put that was cut: power again, opened anew. -/
theorem CI.reopen {w5 w6 w7 : World} {j2 : Nat} {B' : ByteArray} {l' : Int} {E' : Nat → Nat × St} {ov : Bool} (h : CI w0 w j p q nb B l N m) (hj : JP w0 w5 j p q E' ov B' l') (hk : Kept (In3 j p q) w w5) (hd : dealL B'.data.toList = dealL B.data.toList)
    (hP6 : Pl w6 p q B' (-1)) (hK6 : Kept (In2 p q) w5 w6) (hJ7 : JR w7 j2 p (dealL B'.data.toList) false) (hb7 : Below w6.heap.size w6 w7) (hj7 : w6.heap.size ≤ j2) : CI w0 w7 j2 p q nb B' (-1) N m := by
  have b6 : Below w0.heap.size w0 w6 := hK6.below hj.bel.size (fun k g => by have := hj.p0; have := hj.q0; unfold In2 at g; omega) hj.bel
  have n5 : NR w5 nb N := hk.row h.nr (fun g => by rcases g with g | g | g; exact h.nbj g; exact h.nbp g; exact h.nbq g)
  have n6 : NR w6 nb N := hK6.row n5 (fun g => g.elim h.nbp h.nbq)
  have n7 : NR w7 nb N := n6.later hb7 n6.lt
  have l6 := n6.lt
  refine ⟨jp_new b6 hP6 hj.p0 hj.q0 hJ7 hb7 hj7 (by omega) (by omega) hj.sz hj.s6, by omega, n7, h.nb0, by omega, h.nbp, h.nbq, fun d g => ?_, fun d g => ?_⟩
  · unfold sts; rw [hd]; exact h.same d g
  · rw [hd]; exact h.num d g
theorem updN_same (N : Nat → St) (d : Nat) : updN N d (N d) = N := by
  funext e
  unfold updN
  by_cases g : e = d
  · rw [if_pos g, g]
  · rw [if_neg g]
/-- The list is told what it has. -/
theorem CI.again (h : CI w0 w j p q nb B l N m) (hk : Kept (In1 nb) w w') (hn : NR w' nb N) : CI w0 w' j p q nb B l N m :=
  ⟨h.jp.aside hk h.nb0 h.nbj h.nbp h.nbq, h.pow, hn, h.nb0, h.nbj, h.nbp, h.nbq, h.same, h.num⟩
end
theorem dec_or4 (a b c d : Prop) [Decidable a] [Decidable b] [Decidable c] [Decidable d] : (decide a || decide b || decide c || decide d) = decide (a ∨ b ∨ c ∨ d) := by
  by_cases ha : a <;> by_cases hb : b <;> by_cases hc : c <;> by_cases hd : d <;> simp [ha, hb, hc, hd]
end Go.Proofs.YtkbbjkiinpimiaaDoor
