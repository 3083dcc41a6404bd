/-
  THE WALK of the law's asJournal: two journals tell the same.
  BOTH JOURNALS SIDE BY SIDE: every Put's answer; what stands along the law JournalActs.
-/
import Derived.Test.YthbaklhdhandnaaDoorRT
import Derived.Test.YthbaklhdhandnaaDoorJQ
import Derived.Test.YthbaklhdhandnaaDoorJS
namespace Go.Proofs.YthbaklhdhandnaaDoor
open Go.RowKit

theorem st_neq (x0 x1 x2 : Int) (w : World) :
    (binOp .neq 74 (.agg #[.int .i64 x0, .int .i64 x1, .int .i64 x2]) (.agg #[.int .i64 x0, .int .i64 x1, .int .i64 x2])).run Tryd.prog w = .ok (.bool false) w := by
  go_simp
theorem get_is (j p d : Nat) (E : Nat → Nat × St) (over : Bool) (h1 h2 h3 : Nat) (w : World) (h : JR w j p E over) (hd : d < 6) (hs : (E d).2 = ⟨h1, h2, h3⟩) :
    Calls Tryd.prog 49 #[.pointer (some ⟨j, 0, none⟩), .int .i64 (d : Int)] w fun e w' => e = .returned (.tuple #[.agg #[.int .i64 (h1 : Int), .int .i64 (h2 : Int), .int .i64 (h3 : Int)], .nilIface]) ∧ Below w.heap.size w w' := by
  have := get_ok j p d E over w h hd
  rw [hs] at this
  exact this
theorem get_isnt (A : Nat → Addr) (v : Value) (d : Int) (w : World) (hE : HeldE w A) (hd : ¬ (0 ≤ d ∧ d < 6)) :
    Calls Tryd.prog 49 #[v, .int .i64 d] w fun e w' => e = .returned (.tuple #[.agg #[.int .i64 0, .int .i64 0, .int .i64 0], .iface 107 (.pointer (some (A 1)))]) ∧ Below w.heap.size w w' := get_bad A v d w hE hd
set_option maxHeartbeats 4000000 in
set_option maxRecDepth 100000 in
theorem asj_any (A : Nat → Addr) (w : World) (j p m gn gs r : Nat) (E : Nat → Nat × St) (over dead : Bool) (B : ByteArray) (l : Int) (hE : Held9 w A) (hj : JR w j p E over) (hm : RK w m gn gs r E dead B l) :
    Calls Tryd.prog 53 #[.pointer (some ⟨j, 0, none⟩), .pointer (some ⟨m, 0, none⟩)] w fun e w' => e = .returned (.bool true) ∧ Below w.heap.size w w' := by
  have HE := hid hE
  have HJ := hid hj
  have HM := hid hm
  clear hE hj hm
  go_enter Tryd.func53, Tryd.ntmps53
  go_wp2_with fail
  go_loopw [5] (fun i wr => ∃ d : Nat, d ≤ 6 ∧ i = .int .i64 (d : Int) ∧ Below w.heap.size w wr) (fun i _ => 6 - (intOf i).toNat)
  case atStart => exact ⟨0, by omega, rfl, Below.refl _ _⟩
  case round =>
    obtain ⟨d, hd, rfl, hb⟩ := hrel
    have HB := hid hb
    clear hb
    by_cases hlt : d < 6
    · obtain ⟨⟨h1, h2, h3⟩, HS⟩ : ∃ x, Hid ((E d).2 = x) := ⟨_, rfl⟩
      go_wp2_with fail
      refine (get_is j p d E over h1 h2 h3 wr (HJ.out.later HB.out HJ.out.lt) hlt HS.out).mono ?_
      rintro e w1 ⟨rfl, hb1⟩
      have HB1 := hid (HB.out.trans (hb1.mono HB.out.size))
      clear hb1
      obtain ⟨X, HX⟩ : ∃ X, Hid (w1.alloc (.cells #[.int .i64 (h1 : Int), .int .i64 (h2 : Int), .int .i64 (h3 : Int)] 74) = X) := ⟨_, rfl⟩
      have HBX : Hid (Below w.heap.size w X) := by rw [← HX.out]; exact HB1.out.alloc HB1.out.size _
      have HXS : Hid (X.heap[w1.heap.size]? = some (.cells #[.int .i64 (h1 : Int), .int .i64 (h2 : Int), .int .i64 (h3 : Int)] 74 (0, 0))) := by rw [← HX.out]; exact heap_alloc_new w1 _
      have HMX := hid (HM.out.later HBX.out)
      go_wp2_with fail
      rw [HX.out]
      obtain ⟨cn, cs, c0, c1, c2, c3, f3⟩ := HMX.out.cells
      obtain ⟨t0, t1, t2, -⟩ := HMX.out.st hlt
      rw [HS.out] at t0 t1 t2
      simp only at t0 t1 t2
      have s0 : X.cell? ⟨w1.heap.size, 0, none⟩ = some (.int .i64 (h1 : Int)) := by rw [cell_of_row _ _ _ _ _ _ HXS.out]; rfl
      have s1 : X.cell? ⟨w1.heap.size, 1, none⟩ = some (.int .i64 (h2 : Int)) := by rw [cell_of_row _ _ _ _ _ _ HXS.out]; rfl
      have s2 : X.cell? ⟨w1.heap.size, 2, none⟩ = some (.int .i64 (h3 : Int)) := by rw [cell_of_row _ _ _ _ _ _ HXS.out]; rfl
      have hne := st_neq (h1 : Int) (h2 : Int) (h3 : Int)
      go_quiet (fail)
      all_goals go_wp2_with fail
      all_goals go_roundw
      case rel => exact ⟨d + 1, by omega, by go_num, below_drewN HBX.out _⟩
      case measure => simp [intOf]; omega
    · obtain rfl : d = 6 := by omega
      go_wp2_with fail
      refine (get_isnt A _ (-1) wr (HE.out.later HB.out).toE (by omega)).mono ?_
      rintro e w1 ⟨rfl, hb1⟩
      have HB1 := hid (HB.out.trans (hb1.mono HB.out.size))
      clear hb1
      obtain ⟨X, HX⟩ : ∃ X, Hid (w1.alloc (.cells #[.int .i64 0, .int .i64 0, .int .i64 0] 74) = X) := ⟨_, rfl⟩
      have HBX : Hid (Below w.heap.size w X) := by rw [← HX.out]; exact HB1.out.alloc HB1.out.size _
      have HXS : Hid (X.heap[w1.heap.size]? = some (.cells #[.int .i64 0, .int .i64 0, .int .i64 0] 74 (0, 0))) := by rw [← HX.out]; exact heap_alloc_new w1 _
      go_wp2_with fail
      rw [HX.out]
      refine (get_isnt A _ 6 X (HE.out.later HBX.out).toE (by omega)).mono ?_
      rintro e w2 ⟨rfl, hb2⟩
      have HB2 := hid (HBX.out.trans (hb2.mono HBX.out.size))
      have HX2 := hid ((hb2.block _ (row_ltJ HXS.out)).trans HXS.out)
      clear hb2
      obtain ⟨Y, HY⟩ : ∃ X, Hid (w2.alloc (.cells #[.int .i64 0, .int .i64 0, .int .i64 0] 74) = X) := ⟨_, rfl⟩
      have HBY : Hid (Below w.heap.size w Y) := by rw [← HY.out]; exact HB2.out.alloc HB2.out.size _
      have HYL : Hid (Below w2.heap.size w2 Y) := by rw [← HY.out]; exact (Below.refl _ _).alloc (Nat.le_refl _) _
      have HYS : Hid (Y.heap[w2.heap.size]? = some (.cells #[.int .i64 0, .int .i64 0, .int .i64 0] 74 (0, 0))) := by rw [← HY.out]; exact heap_alloc_new w2 _
      have HYX := hid ((HYL.out.block _ (row_ltJ HX2.out)).trans HX2.out)
      go_wp2_with fail
      rw [HY.out]
      refine (coded_ev A 2 Y (HE.out.later HBY.out) (by omega)).mono ?_
      rintro e w3 ⟨rfl, hb3⟩
      have HB3 := hid (HBY.out.trans (hb3.mono HBY.out.size))
      have HL3 := hid hb3
      clear hb3
      go_wp2_with fail
      refine (coded_ev A 2 w3 (HE.out.later HB3.out) (by omega)).mono ?_
      rintro e w4 ⟨rfl, hb4⟩
      have HB4 := hid (HB3.out.trans (hb4.mono HB3.out.size))
      have HL4 := hid (HL3.out.trans (hb4.mono HL3.out.size))
      clear hb4
      have r1 := (HL4.out.block _ (row_ltJ HYX.out)).trans HYX.out
      have r2 := (HL4.out.block _ (row_ltJ HYS.out)).trans HYS.out
      have a0 : w4.cell? ⟨w1.heap.size, 0, none⟩ = some (.int .i64 0) := by rw [cell_of_row _ _ _ _ _ _ r1]; rfl
      have a1 : w4.cell? ⟨w1.heap.size, 1, none⟩ = some (.int .i64 0) := by rw [cell_of_row _ _ _ _ _ _ r1]; rfl
      have a2 : w4.cell? ⟨w1.heap.size, 2, none⟩ = some (.int .i64 0) := by rw [cell_of_row _ _ _ _ _ _ r1]; rfl
      have b0 : w4.cell? ⟨w2.heap.size, 0, none⟩ = some (.int .i64 0) := by rw [cell_of_row _ _ _ _ _ _ r2]; rfl
      have b1 : w4.cell? ⟨w2.heap.size, 1, none⟩ = some (.int .i64 0) := by rw [cell_of_row _ _ _ _ _ _ r2]; rfl
      have b2 : w4.cell? ⟨w2.heap.size, 2, none⟩ = some (.int .i64 0) := by rw [cell_of_row _ _ _ _ _ _ r2]; rfl
      go_wp2_with fail
      go_ret
      exact ⟨rfl, HB4.out⟩
end Go.Proofs.YthbaklhdhandnaaDoor
namespace Go.Proofs.YthbaklhdhandnaaDoor
open Go.RowKit

/-- What any Put answers and leaves. -/
def pOut (E : Nat → Nat × St) (over : Bool) (B : ByteArray) (l : Int) (dl ph pr a : Int) : POut :=
  if over = true then ⟨6, E, true, B, l⟩ else if (0 ≤ dl ∧ dl < 6) ∧ fitsB ph pr a = true then putIn E B l dl.toNat ⟨ph.toNat, pr.toNat, a.toNat⟩ else ⟨2, E, false, B, l⟩
/-- The program's blocks and the document's are others, and new. -/
structure Apart (w0 : World) (j p q m gn gs r : Nat) : Prop where
  dis : ∀ x, In3 j p q x → ¬ In4 m gn gs r x
  low : ∀ x, In4 m gn gs r x → w0.heap.size ≤ x
section
variable {w0 w w' : World} {j p q m gn gs r : Nat} {E : Nat → Nat × St} {over dead : Bool} {B : ByteArray} {l : Int} {A : Nat → Addr}
theorem in_nat {dl ph pr a : Int} (h : (0 ≤ dl ∧ dl < 6) ∧ fitsB ph pr a = true) : ∃ d h1 h2 h3 : Nat, dl = d ∧ ph = h1 ∧ pr = h2 ∧ a = h3 := by
  obtain ⟨b1, b2, b3, b4, b5, b6⟩ := of_decide_eq_true h.2
  exact ⟨dl.toNat, ph.toNat, pr.toNat, a.toNat, by omega, by omega, by omega, by omega⟩
theorem jput_any (dl ph pr a : Int) (o : POut) (ho : pOut E over B l dl ph pr a = o) (h : JP w0 w j p q E over B l) (hE : HeldE w0 A) (hn : ∀ d, d < 6 → (E d).1 < 4294967296) :
    Calls Tryd.prog 48 #[.pointer (some ⟨j, 0, none⟩), .int .i64 dl, .agg #[.int .i64 ph, .int .i64 pr, .int .i64 a]] w fun e w' => e = .returned (ev A o.c) ∧ JP w0 w' j p q o.e o.over o.b o.l ∧ Kept (In3 j p q) w w' := by
  subst ho
  unfold pOut
  cases over with
  | true => rw [if_pos rfl]; exact put_over A w0 w j p q E B l dl ph pr a h hE
  | false =>
    rw [if_neg (by decide)]
    by_cases hb : (0 ≤ dl ∧ dl < 6) ∧ fitsB ph pr a = true
    · rw [if_pos hb]
      obtain ⟨d, h1, h2, h3, rfl, rfl, rfl, rfl⟩ := in_nat hb
      simp only [Int.toNat_natCast]
      exact put_in A w0 w j p q E B l d ⟨h1, h2, h3⟩ h hE (by omega) hb.2 (hn d (by omega))
    · rw [if_neg hb]; exact put_bound A w0 w j p q E B l dl ph pr a h hE hb
theorem rput_any (dl ph pr a : Int) (o : POut) (ho : pOut E over B l dl ph pr a = o) (h : RK w m gn gs r E over B l) (hn : ∀ d, d < 6 → (E d).1 < 4294967296) :
    Calls Tryd.prog 52 #[.pointer (some ⟨m, 0, none⟩), .int .i64 dl, .agg #[.int .i64 ph, .int .i64 pr, .int .i64 a]] w fun e w' => e = .returned (.int .i64 (o.c : Int)) ∧ RK w' m gn gs r o.e o.over o.b o.l ∧ Kept (In4 m gn gs r) w w' := by
  subst ho
  unfold pOut
  cases over with
  | true =>
    rw [if_pos rfl]
    refine (rput_over dl ph pr a h).mono ?_
    rintro e w' ⟨rfl, hb⟩
    exact ⟨rfl, h.later hb, Kept.of_below hb⟩
  | false =>
    rw [if_neg (by decide)]
    by_cases hb : (0 ≤ dl ∧ dl < 6) ∧ fitsB ph pr a = true
    · rw [if_pos hb]
      obtain ⟨d, h1, h2, h3, rfl, rfl, rfl, rfl⟩ := in_nat hb
      simp only [Int.toNat_natCast]
      exact rput_in d h1 h2 h3 h (by omega) hb.2 (hn d (by omega))
    · rw [if_neg hb]
      refine (rput_bound dl ph pr a h hb).mono ?_
      rintro e w' ⟨rfl, hb'⟩
      exact ⟨rfl, h.later hb', Kept.of_below hb'⟩
theorem putIn_c (E : Nat → Nat × St) (B : ByteArray) (l : Int) (d : Nat) (s : St) : (putIn E B l d s).c ≤ 9 := by
  have h1 : (fill1 B l (nextK d (E d).1)).c ≤ 9 := by
    unfold fill1
    split
    · show 6 ≤ 9; omega
    · split
      · exact Nat.zero_le _
      · exact wC_le _ _ _ _
  have h2 : (fill2 B l (nextK d (E d).1) ((E d).1 + 1) s).c ≤ 9 := by
    unfold fill2
    split
    · exact wC_le _ _ _ _
    · exact h1
  have h3 : (fill3 B l (nextK d (E d).1) ((E d).1 + 1) s).c ≤ 9 := by
    unfold fill3
    split
    · exact wC_le _ _ _ _
    · exact h2
  unfold putIn
  split
  · exact Nat.zero_le _
  · split
    · show 5 ≤ 9; omega
    · split
      · exact Nat.zero_le _
      · exact h3
theorem pOut_c (dl ph pr a : Int) : (pOut E over B l dl ph pr a).c ≤ 9 := by
  unfold pOut
  split
  · show 6 ≤ 9; omega
  · split
    · exact putIn_c _ _ _ _ _
    · show 2 ≤ 9; omega
theorem pOut_n (dl ph pr a : Int) (hn : ∀ d, d < 6 → (E d).1 < 4294967296) : ∀ d, d < 6 → ((pOut E over B l dl ph pr a).e d).1 < 4294967296 := by
  intro d hd
  unfold pOut
  split
  · exact hn d hd
  · split
    · rename_i h2
      unfold putIn
      split
      · exact hn d hd
      · split
        · exact hn d hd
        · rename_i h4
          split
          · show (updE E dl.toNat _ d).1 < _
            unfold updE
            split
            · have := hn dl.toNat (by omega)
              show (E dl.toNat).1 + 1 < _
              omega
            · exact hn d hd
          · exact hn d hd
    · exact hn d hd
theorem deal_lt (L : List UInt8) (d : Nat) : (dealL L d).1 < 4294967296 := by
  unfold dealL
  split
  all_goals first | exact heldL_lt _ _ | (split <;> exact heldL_lt _ _)
/-- Other blocks are written. -/
theorem JP.far {S : Nat → Prop} (h : JP w0 w j p q E over B l) (k : Kept S w w') (hS : ∀ x, S x → w0.heap.size ≤ x) (hd : ∀ x, In3 j p q x → ¬ S x) : JP w0 w' j p q E over B l :=
  ⟨k.below h.bel.size hS h.bel, k.row h.jr (hd j (.inl rfl)), h.pl.kept k (hd p (.inr (.inl rfl))) (hd q (.inr (.inr rfl))), h.jp, h.jq, h.j0, h.p0, h.q0, h.l0, h.l1, h.sz, h.s6⟩
theorem RK.far {S : Nat → Prop} (h : RK w m gn gs r E over B l) (k : Kept S w w') (hd : ∀ x, S x → ¬ In4 m gn gs r x) : RK w' m gn gs r E over B l :=
  h.kept k (fun e => hd _ e (.inl rfl)) (fun e => hd _ e (.inr (.inl rfl))) (fun e => hd _ e (.inr (.inr (.inl rfl)))) (fun e => hd _ e (.inr (.inr (.inr rfl))))
theorem In2.in3 {x : Nat} (h : In2 p q x) : In3 j p q x := .inr h
/-- A cut on the document's plate. -/
theorem rcut_rk (n : Int) (c : Nat) (l' : Int) (h : RK w m gn gs r E over B l) (hn : n ≤ 9223372036854775807) (hc : cC l n = c) (hl : cL l n = l') :
    Calls Tryd.prog 41 #[.pointer (some ⟨r, 0, none⟩), .int .i64 n] w fun e w' => e = .returned (.int .i64 (c : Int)) ∧ RK w' m gn gs r E over B l' ∧ Kept (In4 m gn gs r) w w' := by
  subst hc hl
  obtain ⟨off, l2, cuts, p1, p2⟩ := h.rp
  refine (cut_rp r B l n l2 off cuts w p1 p2 hn).mono ?_
  rintro e w' ⟨rfl, hx, hk⟩
  exact ⟨rfl, ⟨h.rj.kept hk (fun e => h.rm e.symm) (fun e => h.rn e.symm) (fun e => h.rs e.symm), hx, h.rm, h.rn, h.rs, h.sz, h.s6⟩, hk.mono (fun k e => .inr (.inr (.inr e)))⟩
theorem jcut_jp (n : Int) (c : Nat) (l' : Int) (h : JP w0 w j p q E over B l) (hE : HeldE w0 A) (h0 : 0 ≤ n) (hn : n ≤ 9223372036854775807) (hc : cC l n = c) (hl : cL l n = l') :
    Calls Tryd.prog 40 #[.pointer (some ⟨p, 0, none⟩), .int .i64 n] w fun e w' => e = .returned (ev A c) ∧ JP w0 w' j p q E over B l' ∧ Kept (In3 j p q) w w' := by
  subst hc hl
  refine (cut_pl A p q B l n w h.pl (h.held hE)).mono ?_
  rintro e w' ⟨rfl, hp, hk⟩
  refine ⟨rfl, h.plate hk hp ?_ ?_ rfl, hk.mono (fun k e => .inr e)⟩
  · unfold cL
    have := h.l0
    split
    · omega
    · split <;> omega
  · unfold cL
    have := h.l1
    split
    · omega
    · split <;> omega
/-- The document's plate has power again. -/
theorem ron_rk (h : RK w m gn gs r E over B l) :
    Calls Tryd.prog 43 #[.pointer (some ⟨r, 0, none⟩)] w fun e w' => e = .returned (.tuple #[]) ∧ RK w' m gn gs r E over B (-1) ∧ Kept (In4 m gn gs r) w w' := by
  obtain ⟨off, l2, cuts, p1, p2⟩ := h.rp
  refine (rpon_any r B off cuts l2 w p1).mono ?_
  rintro e w' ⟨rfl, hx, hk⟩
  exact ⟨rfl, ⟨h.rj.kept hk (fun e => h.rm e.symm) (fun e => h.rn e.symm) (fun e => h.rs e.symm), ⟨false, l2, false, hx, .inr (.inl ⟨rfl, rfl, rfl⟩)⟩, h.rm, h.rn, h.rs, h.sz, h.s6⟩, hk.mono (fun k e => .inr (.inr (.inr e)))⟩
theorem jon_jp (h : JP w0 w j p q E over B l) :
    Calls Tryd.prog 42 #[.pointer (some ⟨p, 0, none⟩)] w fun e w' => e = .returned (.tuple #[]) ∧ JP w0 w' j p q E over B (-1) ∧ Kept (In3 j p q) w w' := by
  refine (pon_any p q B l w h.pl).mono ?_
  rintro e w' ⟨rfl, hp, hk⟩
  exact ⟨rfl, h.plate hk hp (by omega) (by omega) rfl, hk.mono (fun k e => .inr e)⟩
/-- Both are opened anew. -/
theorem jopen_jp (h : JP w0 w j p q E over B (-1)) (hE : HeldE w0 A) :
    Calls Tryd.prog 47 #[.pointer (some ⟨p, 0, none⟩)] w fun e w' => ∃ j', e = .returned (.tuple #[.pointer (some ⟨j', 0, none⟩), .nilIface]) ∧ JP w0 w' j' p q (dealL B.data.toList) false B (-1) ∧ Below w.heap.size w w' ∧ w.heap.size ≤ j' := by
  refine (open_ok A p q B (-1) w h.pl (h.held hE) h.sz h.s6 (by decide)).mono ?_
  rintro e w' ⟨j', rfl, hj, hb, hj0⟩
  have hl : p < w.heap.size ∧ q < w.heap.size := ⟨row_lt h.pl.head, row_lt h.pl.row⟩
  have hz := h.bel.size
  exact ⟨j', rfl, ⟨h.bel.trans (hb.mono h.bel.size), hj, h.pl.kept (S := fun _ => False) (Kept.of_below hb) (fun x => x) (fun x => x), by omega, by omega, by omega, h.p0, h.q0, by decide, by decide, h.sz, h.s6⟩, hb, hj0⟩
theorem ropen_rk (h : RK w m gn gs r E over B l) :
    Calls Tryd.prog 51 #[.pointer (some ⟨r, 0, none⟩)] w fun e w' => ∃ m' gn' gs', e = .returned (.pointer (some ⟨m', 0, none⟩)) ∧ RK w' m' gn' gs' r (dealL B.data.toList) false B l ∧ Below w.heap.size w w' ∧ w.heap.size ≤ m' ∧ w.heap.size ≤ gn' ∧ w.heap.size ≤ gs' := by
  obtain ⟨off, l2, cuts, p1, p2⟩ := h.rp
  have hl := row_ltJ p1
  refine (ropen_any r B off cuts l2 w p1 h.sz h.s6).mono ?_
  rintro e w' ⟨m', gn', gs', rfl, hj, hb, b1, b2, b3⟩
  exact ⟨m', gn', gs', rfl, ⟨hj, ⟨off, l2, cuts, p1.kept (S := fun _ => False) (Kept.of_below hb) (fun x => x), p2⟩, by omega, by omega, by omega, h.sz, h.s6⟩, hb, b1, b2, b3⟩
end
end Go.Proofs.YthbaklhdhandnaaDoor
