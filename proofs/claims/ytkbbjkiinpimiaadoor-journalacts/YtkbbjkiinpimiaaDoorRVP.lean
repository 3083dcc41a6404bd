/-
  THE PROGRAM's JOURNAL: every Put's answer; cut, On, Open.
-/
import Derived.Test.YtkbbjkiinpimiaaDoorJQ
import Derived.Test.YtkbbjkiinpimiaaDoorRTE
import Derived.Test.YtkbbjkiinpimiaaDoorJS
namespace Go.Proofs.YtkbbjkiinpimiaaDoor
open Go.RowKit

theorem st_neq (x0 x1 x2 : Int) (w : World) :
    (binOp .neq 74 (.agg #[.int .i64 x0, .int .i64 x1, .int .i64 x2]) (.agg #[.int .i64 x0, .int .i64 x1, .int .i64 x2])).run Tryd.prog w = .ok (.bool false) w := by
  go_simp
theorem get_is (j p d : Nat) (E : Nat → Nat × St) (over : Bool) (h1 h2 h3 : Nat) (w : World) (h : JR w j p E over) (hd : d < 6) (hs : (E d).2 = ⟨h1, h2, h3⟩) :
    Calls Tryd.prog 49 #[.pointer (some ⟨j, 0, none⟩), .int .i64 (d : Int)] w fun e w' => e = .returned (.tuple #[.agg #[.int .i64 (h1 : Int), .int .i64 (h2 : Int), .int .i64 (h3 : Int)], .nilIface]) ∧ Below w.heap.size w w' := by
  have := get_ok j p d E over w h hd
  rw [hs] at this
  exact this
theorem get_isnt (A : Nat → Addr) (v : Value) (d : Int) (w : World) (hE : HeldE w A) (hd : ¬ (0 ≤ d ∧ d < 6)) :
    Calls Tryd.prog 49 #[v, .int .i64 d] w fun e w' => e = .returned (.tuple #[.agg #[.int .i64 0, .int .i64 0, .int .i64 0], .iface 107 (.pointer (some (A 1)))]) ∧ Below w.heap.size w w' := get_bad A v d w hE hd
end Go.Proofs.YtkbbjkiinpimiaaDoor
namespace Go.Proofs.YtkbbjkiinpimiaaDoor
open Go.RowKit

/-- What any Put answers and leaves. -/
def pOut (E : Nat → Nat × St) (over : Bool) (B : ByteArray) (l : Int) (dl ph pr a : Int) : POut :=
  if over = true then ⟨6, E, true, B, l⟩ else if (0 ≤ dl ∧ dl < 6) ∧ fitsB ph pr a = true then putIn E B l dl.toNat ⟨ph.toNat, pr.toNat, a.toNat⟩ else ⟨2, E, false, B, l⟩
section
variable {w0 w w' : World} {j p q m gn gs r : Nat} {E : Nat → Nat × St} {over dead : Bool} {B : ByteArray} {l : Int} {A : Nat → Addr}
theorem in_nat {dl ph pr a : Int} (h : (0 ≤ dl ∧ dl < 6) ∧ fitsB ph pr a = true) : ∃ d h1 h2 h3 : Nat, dl = d ∧ ph = h1 ∧ pr = h2 ∧ a = h3 := by
  obtain ⟨b1, b2, b3, b4, b5, b6⟩ := of_decide_eq_true h.2
  exact ⟨dl.toNat, ph.toNat, pr.toNat, a.toNat, by omega, by omega, by omega, by omega⟩
theorem jput_any (dl ph pr a : Int) (o : POut) (ho : pOut E over B l dl ph pr a = o) (h : JP w0 w j p q E over B l) (hE : HeldE w0 A) (hn : ∀ d, d < 6 → (E d).1 < 4294967296) :
    Calls Tryd.prog 48 #[.pointer (some ⟨j, 0, none⟩), .int .i64 dl, .agg #[.int .i64 ph, .int .i64 pr, .int .i64 a]] w fun e w' => e = .returned (ev A o.c) ∧ JP w0 w' j p q o.e o.over o.b o.l ∧ Kept (In3 j p q) w w' := by
  subst ho
  unfold pOut
  cases over with
  | true => rw [if_pos rfl]; exact put_over A w0 w j p q E B l dl ph pr a h hE
  | false =>
    rw [if_neg (by decide)]
    by_cases hb : (0 ≤ dl ∧ dl < 6) ∧ fitsB ph pr a = true
    · rw [if_pos hb]
      obtain ⟨d, h1, h2, h3, rfl, rfl, rfl, rfl⟩ := in_nat hb
      simp only [Int.toNat_natCast]
      exact put_in A w0 w j p q E B l d ⟨h1, h2, h3⟩ h hE (by omega) hb.2 (hn d (by omega))
    · rw [if_neg hb]; exact put_bound A w0 w j p q E B l dl ph pr a h hE hb
theorem putIn_c (E : Nat → Nat × St) (B : ByteArray) (l : Int) (d : Nat) (s : St) : (putIn E B l d s).c ≤ 9 := by
  have h1 : (fill1 B l (nextK d (E d).1)).c ≤ 9 := by
    unfold fill1
    split
    · show 6 ≤ 9; omega
    · split
      · exact Nat.zero_le _
      · exact wC_le _ _ _ _
  have h2 : (fill2 B l (nextK d (E d).1) ((E d).1 + 1) s).c ≤ 9 := by
    unfold fill2
    split
    · exact wC_le _ _ _ _
    · exact h1
  have h3 : (fill3 B l (nextK d (E d).1) ((E d).1 + 1) s).c ≤ 9 := by
    unfold fill3
    split
    · exact wC_le _ _ _ _
    · exact h2
  unfold putIn
  split
  · exact Nat.zero_le _
  · split
    · show 5 ≤ 9; omega
    · split
      · exact Nat.zero_le _
      · exact h3
theorem pOut_c (dl ph pr a : Int) : (pOut E over B l dl ph pr a).c ≤ 9 := by
  unfold pOut
  split
  · show 6 ≤ 9; omega
  · split
    · exact putIn_c _ _ _ _ _
    · show 2 ≤ 9; omega
theorem pOut_n (dl ph pr a : Int) (hn : ∀ d, d < 6 → (E d).1 < 4294967296) : ∀ d, d < 6 → ((pOut E over B l dl ph pr a).e d).1 < 4294967296 := by
  intro d hd
  unfold pOut
  split
  · exact hn d hd
  · split
    · rename_i h2
      unfold putIn
      split
      · exact hn d hd
      · split
        · exact hn d hd
        · rename_i h4
          split
          · show (updE E dl.toNat _ d).1 < _
            unfold updE
            split
            · have := hn dl.toNat (by omega)
              show (E dl.toNat).1 + 1 < _
              omega
            · exact hn d hd
          · exact hn d hd
    · exact hn d hd
theorem deal_lt (L : List UInt8) (d : Nat) : (dealL L d).1 < 4294967296 := by
  unfold dealL
  split
  all_goals first | exact heldL_lt _ _ | (split <;> exact heldL_lt _ _)
/-- Other blocks are written. -/
theorem JP.far {S : Nat → Prop} (h : JP w0 w j p q E over B l) (k : Kept S w w') (hS : ∀ x, S x → w0.heap.size ≤ x) (hd : ∀ x, In3 j p q x → ¬ S x) : JP w0 w' j p q E over B l :=
  ⟨k.below h.bel.size hS h.bel, k.row h.jr (hd j (.inl rfl)), h.pl.kept k (hd p (.inr (.inl rfl))) (hd q (.inr (.inr rfl))), h.jp, h.jq, h.j0, h.p0, h.q0, h.l0, h.l1, h.sz, h.s6⟩
theorem In2.in3 {x : Nat} (h : In2 p q x) : In3 j p q x := .inr h
theorem jcut_jp (n : Int) (c : Nat) (l' : Int) (h : JP w0 w j p q E over B l) (hE : HeldE w0 A) (h0 : 0 ≤ n) (hn : n ≤ 9223372036854775807) (hc : cC l n = c) (hl : cL l n = l') :
    Calls Tryd.prog 40 #[.pointer (some ⟨p, 0, none⟩), .int .i64 n] w fun e w' => e = .returned (ev A c) ∧ JP w0 w' j p q E over B l' ∧ Kept (In3 j p q) w w' := by
  subst hc hl
  refine (cut_pl A p q B l n w h.pl (h.held hE)).mono ?_
  rintro e w' ⟨rfl, hp, hk⟩
  refine ⟨rfl, h.plate hk hp ?_ ?_ rfl, hk.mono (fun k e => .inr e)⟩
  · unfold cL
    have := h.l0
    split
    · omega
    · split <;> omega
  · unfold cL
    have := h.l1
    split
    · omega
    · split <;> omega
theorem jon_jp (h : JP w0 w j p q E over B l) :
    Calls Tryd.prog 42 #[.pointer (some ⟨p, 0, none⟩)] w fun e w' => e = .returned (.tuple #[]) ∧ JP w0 w' j p q E over B (-1) ∧ Kept (In3 j p q) w w' := by
  refine (pon_any p q B l w h.pl).mono ?_
  rintro e w' ⟨rfl, hp, hk⟩
  exact ⟨rfl, h.plate hk hp (by omega) (by omega) rfl, hk.mono (fun k e => .inr e)⟩
/-- Both are opened anew. -/
theorem jopen_jp (h : JP w0 w j p q E over B (-1)) (hE : HeldE w0 A) :
    Calls Tryd.prog 47 #[.pointer (some ⟨p, 0, none⟩)] w fun e w' => ∃ j', e = .returned (.tuple #[.pointer (some ⟨j', 0, none⟩), .nilIface]) ∧ JP w0 w' j' p q (dealL B.data.toList) false B (-1) ∧ Below w.heap.size w w' ∧ w.heap.size ≤ j' := by
  refine (open_ok A p q B (-1) w h.pl (h.held hE) h.sz h.s6 (by decide)).mono ?_
  rintro e w' ⟨j', rfl, hj, hb, hj0⟩
  have hl : p < w.heap.size ∧ q < w.heap.size := ⟨row_lt h.pl.head, row_lt h.pl.row⟩
  have hz := h.bel.size
  exact ⟨j', rfl, ⟨h.bel.trans (hb.mono h.bel.size), hj, h.pl.kept (S := fun _ => False) (Kept.of_below hb) (fun x => x) (fun x => x), by omega, by omega, by omega, h.p0, h.q0, by decide, by decide, h.sz, h.s6⟩, hb, hj0⟩
end
end Go.Proofs.YtkbbjkiinpimiaaDoor
