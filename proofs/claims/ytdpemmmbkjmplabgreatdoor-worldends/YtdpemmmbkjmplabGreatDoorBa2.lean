/-
  PLAIN: one deal of a world: a lead's step keeps what stands: it prepares what no quorum below has borne otherwise; it decides what a quorum bears, or what is final.
  PLAIN MATHEMATICS of a journal's slots: what a write leaves of each; which state a deal has when a Put was cut, and when it was done.
  PLAIN MATHEMATICS of the sum: the byte laid over the low bits first, then eight bits; the same sum.
  WALKS of errors.Is and errors.As (Go's own text) at what package plain hands them: a target that is one of package api's errors; an error that is such a one, another one of errors.New's make, or an api.Fault round one.
  CLOSED FACTS on the types that errors.As meets at the target that package plain hands it: a pointer to a variable of type *api.Fault.
  WALKS of errors.As (Go's own text) at the target that package plain hands it: a pointer to a variable of type *api.Fault.
  AN ERROR's VALUE by its number.
  THE CONTRACT of plain.Code: an error's number, at nil and at errors of errors.New's make.
  WHAT A CALL MAY HAVE TURNED: some blocks, and new ones.
  A PLATE IN MEMORY: its head (bytes, what is left), its row of bytes; which blocks a call leaves alone. Package plate's small functions.
  WALKS of package plate: check, spend, Cut, Bytes, Read.
  WALKS of package plate: New, From, Bytes, Read.
  THE WALK of (*plate.Plate).Write: bytes one by one, as far as power goes.
  WALKS of package plate: From, Bytes, Read.
-/
import Derived.Test.YtdpemmmbkjmplabGreatDoorBa1
import Derived.Test.YtdpemmmbkjmplabGreatDoorProg
import Derived.WalkKit
import Derived.LaidEql
import Derived.Stop.Asserts
import Derived.RowKitTokens
import Derived.Below
import Derived.BigQuiet
import Derived.Deep.QuietTactic
import Derived.Deep.RegionWith
import Derived.Deep.RegionHeld3
import Derived.Laws.EntriesVeiled
import Derived.Laws.CopyRow
import Derived.Laws.Rows
import Derived.RegionTactic
import Derived.BigRegion
namespace Go.Proofs.YtdpemmmbkjmplabGreatDoor
open Go.RowKit

section
variable {zs : List Int} {s s' : Nat → St} {g g' : Gh}
/-- An attempt gets its value. -/
def ghV (g : Gh) (a v : Nat) : Gh := ⟨g.acc, fun b => if b = a then v else g.val b, g.no⟩
theorem ghV_at (g : Gh) (a v : Nat) : (ghV g a v).val a = v := if_pos rfl
theorem ghV_ne (g : Gh) (a v : Nat) {b : Nat} (h : b ≠ a) : (ghV g a v).val b = g.val b := if_neg h
theorem co_val (h : Co zs s g) {a v : Nat} (h0 : g.val a = 0) (hv : v = 4 ∨ v = 5) (hz : a = 0 → v = 4) (how : 0 < a → a ≤ (s (a % zs.length)).pr) (hbg : 0 < a → Qo zs fun i => a ≤ (s i).pr)
    (hpx : ∀ b, b < a → g.val b ≠ 0 → v ≠ g.val b → Qo zs fun i => b < (s i).pr ∧ ¬ g.acc i b) (hal : v = 4 → ∀ i, i < zs.length → (s i).ph ≠ 0) (hno : v = 4 → ∀ i, i < zs.length → ¬ g.no i) :
    Co zs s (ghV g a v) ∧ Gr zs s g s (ghV g a v) := by
  have hva : ∀ b, g.val b ≠ 0 → (ghV g a v).val b = g.val b := fun b hb => ghV_ne g a v (fun e => hb (by rw [e]; exact h0))
  have hG : Gr zs s g s (ghV g a v) := ⟨fun _ => Nat.le_refl _, fun _ _ x => x, hva, fun _ _ x => x, fun _ _ _ x => .inl x, fun _ x => x, fun _ _ x => .inl x⟩
  refine ⟨?_, hG⟩
  have hcase : ∀ b, (ghV g a v).val b ≠ 0 → b = a ∨ (b ≠ a ∧ g.val b ≠ 0 ∧ (ghV g a v).val b = g.val b) := by
    intro b hb
    by_cases e : b = a
    · exact .inl e
    · rw [ghV_ne g a v e] at hb
      exact .inr ⟨e, hb, ghV_ne g a v e⟩
  refine ⟨fun i b x => ?_, h.ap, fun b => ?_, ?_, fun b hb h1 => ?_, fun b hb h1 => ?_, fun c b hcb hc hb hne => ?_, fun i hi x => ?_, h.s0, fun i hi x => (h.s2 i hi x).grow hG, fun i hi x => (h.s3 i hi x).grow hG, fun b hb i hi => ?_, fun i hi x => ⟨(h.nv i hi x).1, fun b hb => ?_⟩⟩
  · have := h.av i b x
    rw [hva b this]; exact this
  · by_cases e : b = a
    · rw [e, ghV_at]; omega
    · rw [ghV_ne g a v e]; exact h.vi b
  · by_cases e : 0 = a
    · rw [e, ghV_at]; have := hz e.symm; omega
    · rw [ghV_ne g a v e]; exact h.v0
  · rcases hcase b hb with rfl | ⟨-, x, -⟩
    · exact how h1
    · exact h.ow b x h1
  · rcases hcase b hb with rfl | ⟨-, x, -⟩
    · exact hbg h1
    · exact h.bg b x h1
  · rcases hcase c hc with rfl | ⟨e, x, y⟩
    · rcases hcase b hb with rfl | ⟨e2, x2, y2⟩
      · omega
      · rw [ghV_at, y2] at hne
        exact hpx b hcb x2 hne
    · rcases hcase b hb with rfl | ⟨e2, x2, y2⟩
      · refine (h.bg c x (by omega)).mono fun i _ hi => ⟨by omega, fun hac => h.av i _ hac h0⟩
      · rw [y, y2] at hne
        exact h.px c b hcb x x2 hne
  · obtain ⟨x1, x2⟩ := h.s4 i hi x
    exact ⟨by rw [hva _ (by omega)]; exact x1, x2⟩
  · rcases hcase b (by omega) with rfl | ⟨-, -, y⟩
    · rw [ghV_at] at hb; exact hal hb i hi
    · exact h.al b (by rw [← y]; exact hb) i hi
  · rcases hcase b (by omega) with rfl | ⟨-, -, y⟩
    · rw [ghV_at] at hb; exact hno hb i hi x
    · exact (h.nv i hi x).2 b (by rw [← y]; exact hb)
theorem bit_ans {n : Nat} {a : Int} {m i : Nat} (hn : n ≤ 7) (h0 : 0 ≤ a) (h1 : a < 2 ^ n) (hm : m < n) (h : bit (ansS a m) i = true) : bit a i = true ∨ i = m := by
  have hp := (pow_le7 hn).1
  obtain ⟨k, rfl⟩ := Int.eq_ofNat_of_zero_le h0
  have h3 : (2 : Nat) ^ m < 9223372036854775808 := Nat.lt_of_lt_of_le (Nat.pow_lt_pow_right (by decide) (Nat.lt_of_lt_of_le hm hn)) (by decide)
  unfold ansS at h
  rw [pow_nat m, bits_or_nat k (2 ^ m) (by omega) h3] at h
  unfold bit at h ⊢
  rw [Int.toNat_natCast, Nat.testBit_or, Bool.or_eq_true] at h
  rw [Int.toNat_natCast]
  rcases h with h | h
  · exact .inl h
  · rw [Nat.testBit_two_pow] at h
    exact .inr (of_decide_eq_true h).symm
theorem bit_zero (i : Nat) : bit 0 i = false := by unfold bit; simp
theorem bit_full {n i : Nat} (hi : i < n) : bit (2 ^ n - 1) i = true := by
  unfold bit
  have h1 : (1 : Nat) ≤ 2 ^ n := Nat.one_le_two_pow
  rw [pow_nat, show (((2 ^ n : Nat) : Int) - 1).toNat = 2 ^ n - 1 by omega, Nat.testBit_two_pow_sub_one]
  exact decide_eq_true hi
theorem waitsY {P : PL} {att k : Int} (h : waitsB P att k = true) : (k = 2 ∧ P.stt = 0 ∧ att = 0) ∨ (k = 4 ∧ P.stt = 0 ∧ 0 < att) ∨ (k = 6 ∧ P.stt = 1) := by
  unfold waitsB at h
  simp at h
  omega
/-- What is chosen: something final that was told; or what the greatest attempt has; or, where none is prepared, to abort. -/
theorem choose_fin {L : List S3} {p : Int} (h : chooseL L = (p, true)) : (p = 2 ∨ p = 3) ∧ ∃ t, t ∈ L ∧ t.p = p := by
  unfold chooseL at h
  split at h
  · rename_i x
    obtain ⟨rfl, -⟩ := Prod.mk.inj h
    rw [gr_has, hasP_iff] at x
    exact ⟨.inl rfl, x⟩
  · split at h
    · rename_i x
      obtain ⟨rfl, -⟩ := Prod.mk.inj h
      rw [gr_has, hasP_iff] at x
      exact ⟨.inr rfl, x⟩
    · split at h <;> (obtain ⟨-, h2⟩ := Prod.mk.inj h; cases h2)
theorem gr_none {p : Int} {L : List S3} (h : ¬ (gr p L).2 = true) : ∀ t, t ∈ L → t.p ≠ p := by
  intro t ht e
  refine h ?_
  rw [gr_has, hasP_iff]
  exact ⟨t, ht, e⟩
theorem gr_top {p : Int} {L : List S3} (h : (gr p L).2 = true) : (∃ t, t ∈ L ∧ t.p = p ∧ t.a = (gr p L).1) ∧ ∀ t, t ∈ L → t.p = p → t.a ≤ (gr p L).1 := by
  rcases gr_of p L with ⟨-, h2, h3⟩ | ⟨h1, -⟩
  · exact ⟨h2, h3⟩
  · rw [h1] at h; cases h
theorem choose_pre {L : List S3} {v : Int} (h : chooseL L = (v, false)) : (v = 4 ∨ v = 5) ∧ (∀ t, t ∈ L → t.p ≠ 2 ∧ t.p ≠ 3) ∧
    ((v = 5 ∧ ∀ t, t ∈ L → t.p ≠ 4 ∧ t.p ≠ 5) ∨ ∃ t, t ∈ L ∧ t.p = v ∧ ∀ u, u ∈ L → (u.p = 4 ∨ u.p = 5) → u.a ≤ t.a) := by
  unfold chooseL at h
  split at h
  · obtain ⟨-, h2⟩ := Prod.mk.inj h; cases h2
  · rename_i x2
    split at h
    · obtain ⟨-, h2⟩ := Prod.mk.inj h; cases h2
    · rename_i x3
      have h23 : ∀ t, t ∈ L → t.p ≠ 2 ∧ t.p ≠ 3 := fun t ht => ⟨gr_none x2 t ht, gr_none x3 t ht⟩
      split at h
      · rename_i x4
        obtain ⟨rfl, -⟩ := Prod.mk.inj h
        obtain ⟨⟨t, t1, t2, t3⟩, t4⟩ := gr_top x4.1
        refine ⟨.inl rfl, h23, .inr ⟨t, t1, t2, fun u hu hp => ?_⟩⟩
        rcases hp with hp | hp
        · rw [t3]; exact t4 u hu hp
        · by_cases x5 : (gr 5 L).2 = true
          · have := (gr_top x5).2 u hu hp
            rcases x4.2 with y | y
            · rw [y] at x5; cases x5
            · omega
          · exact absurd hp (gr_none x5 u hu)
      · rename_i x4
        obtain ⟨rfl, -⟩ := Prod.mk.inj h
        refine ⟨.inr rfl, h23, ?_⟩
        by_cases x5 : (gr 5 L).2 = true
        · obtain ⟨⟨t, t1, t2, t3⟩, t4⟩ := gr_top x5
          refine .inr ⟨t, t1, t2, fun u hu hp => ?_⟩
          rcases hp with hp | hp
          · by_cases y4 : (gr 4 L).2 = true
            · have h1 := (gr_top y4).2 u hu hp
              have h2 : ¬ (gr 5 L).1 ≤ (gr 4 L).1 := fun z => x4 ⟨y4, .inr z⟩
              omega
            · exact absurd hp (gr_none y4 u hu)
          · rw [t3]; exact t4 u hu hp
        · by_cases y4 : (gr 4 L).2 = true
          · exfalso
            refine x4 ⟨y4, .inl ?_⟩
            cases hz : (gr 5 L).2 with
            | true => exact absurd hz x5
            | false => rfl
          · exact .inl ⟨rfl, fun t ht => ⟨gr_none y4 t ht, gr_none x5 t ht⟩⟩
/-- What a lead's step comes to: other attempts' values are as they were; what it sends is right. -/
def LeOut (zs : List Int) (s : Nat → St) (g : Gh) (id : Nat) (deal att : Int) (x : PL × Option (Int × Int)) : Prop :=
  ∃ g', Co zs s g' ∧ Gr zs s g s g' ∧ (∀ a, g'.val a ≠ g.val a → a = att.toNat ∧ g.val a = 0) ∧ Le zs s g' id att x.1 ∧ ∀ f, f ∈ outL id deal att zs.length x.2 → Fr zs s g' f
theorem toL_mem {id : Nat} {deal k att ph : Int} {n : Nat} {f : F9} (h : f ∈ toL id deal k att ph n) : f.k = k ∧ f.a = att ∧ f.ph = ph ∧ f.y = false ∧ f.f = id ∧ f.d = deal := by
  induction n with
  | zero => cases h
  | succ n ih =>
    rw [toL, List.mem_append] at h
    rcases h with h | h
    · exact ih h
    · rw [List.mem_singleton] at h
      subst h
      exact ⟨rfl, rfl, rfl, rfl, rfl, rfl⟩
theorem fr_dec {id : Nat} {deal att p : Int} {n : Nat} (h2 : p = 2 → Dec2 zs g) (h3 : p = 3 → Dec3 zs g) : ∀ f, f ∈ toL id deal 7 att p n → Fr zs s g f := by
  intro f hf
  obtain ⟨e1, -, e3, -⟩ := toL_mem hf
  exact ⟨fun k => by omega, fun k => by omega, fun k => by omega, fun k => by omega, fun k => by omega, fun _ e => h2 (by omega), fun _ e => h3 (by omega)⟩
theorem fr_pre {id : Nat} {deal att p : Int} {n : Nat} (h1 : p = 4 ∨ p = 5) (h2 : (g.val att.toNat : Int) = p) : ∀ f, f ∈ toL id deal 5 att p n → Fr zs s g f := by
  intro f hf
  obtain ⟨e1, e2, e3, -⟩ := toL_mem hf
  exact ⟨fun k => by omega, fun k => by omega, fun k => by omega, fun _ => by rw [e2, e3]; exact ⟨h1, h2⟩, fun k => by omega, fun k => by omega, fun k => by omega⟩
theorem le_done {id : Nat} {att : Int} {P : PL} (h0 : 0 ≤ att) (how : 0 < att → att.toNat % zs.length = id ∧ att.toNat ≤ (s id).pr) (hs : P.stt = 2 ∨ P.stt = 3) : Le zs s g id att P :=
  ⟨h0, fun e => by omega, fun e => by omega, fun e => by omega, fun e => by omega, how, fun e => by omega, fun e => by omega⟩
theorem keep_out {id : Nat} {deal att : Int} {P : PL} (h : Co zs s g) (hl : Le zs s g id att P) : LeOut zs s g id deal att (P, none) :=
  ⟨g, h, Gr.refl _ _ _, fun _ e => absurd rfl e, hl, fun _ hf => by cases hf⟩
theorem dec_out {id : Nat} {deal att p : Int} {P : PL} (h : Co zs s g) (h0 : 0 ≤ att) (how : 0 < att → att.toNat % zs.length = id ∧ att.toNat ≤ (s id).pr) (h2 : p = 2 → Dec2 zs g) (h3 : p = 3 → Dec3 zs g) : LeOut zs s g id deal att (decP P p) :=
  ⟨g, h, Gr.refl _ _ _, fun _ e => absurd rfl e, le_done h0 how (.inl rfl), fr_dec h2 h3⟩
theorem le_pre {id : Nat} {att : Int} {P : PL} {v : Int} (h0 : 0 ≤ att) (how : 0 < att → att.toNat % zs.length = id ∧ att.toNat ≤ (s id).pr) (hv : v = 4 ∨ v = 5) (hg : (g.val att.toNat : Int) = v) : Le zs s g id att (preP P v).1 :=
  ⟨h0, fun e => (by cases e), fun e => (by cases e), fun e => (by cases e), fun e => (by cases e), how, fun _ => ⟨hv, hg⟩, fun _ i _ hb => by
    have hb2 : bit 0 i = true := hb
    rw [bit_zero] at hb2; cases hb2⟩
theorem pre_out {id : Nat} {deal att v : Int} {P : PL} (h : Co zs s g) (h0 : 0 ≤ att) (how : 0 < att → att.toNat % zs.length = id ∧ att.toNat ≤ (s id).pr) (hv : v = 4 ∨ v = 5) (hz : att = 0 → v = 4)
    (hb : 0 < att → g.val att.toNat = 0) (hbg : 0 < att → Qo zs fun i => att.toNat ≤ (s i).pr)
    (hpx : ∀ b, b < att.toNat → g.val b ≠ 0 → v ≠ g.val b → Qo zs fun i => b < (s i).pr ∧ ¬ g.acc i b) (hal : v = 4 → ∀ i, i < zs.length → (s i).ph ≠ 0) (hno : v = 4 → ∀ i, i < zs.length → ¬ g.no i) : LeOut zs s g id deal att (preP P v) := by
  by_cases e0 : g.val att.toNat = 0
  · have hc := co_val (v := v.toNat) h e0 (by omega) (fun e => by have := hz (by omega); omega) (fun e => by have := how (by omega); rw [this.1]; exact this.2) (fun e => hbg (by omega)) (fun b hb1 hb2 hb3 => hpx b hb1 hb2 (by omega)) (fun e => hal (by omega)) (fun e => hno (by omega))
    have hval : ((ghV g att.toNat v.toNat).val att.toNat : Int) = v := by rw [ghV_at]; omega
    refine ⟨_, hc.1, hc.2, fun a ha => ?_, le_pre h0 how hv hval, fr_pre hv hval⟩
    by_cases e : a = att.toNat
    · exact ⟨e, by rw [e]; exact e0⟩
    · rw [ghV_ne _ _ _ e] at ha; exact absurd rfl ha
  · have ha : att = 0 := by
      rcases Int.lt_or_eq_of_le h0 with x | x
      · exact absurd (hb x) e0
      · exact x.symm
    have hval : (g.val att.toNat : Int) = v := by
      have h1 := h.vi att.toNat
      have h2 := h.v0
      have h3 := hz ha
      subst ha
      simp only [Int.toNat_zero] at h1 e0 ⊢
      omega
    exact ⟨g, h, Gr.refl _ _ _, fun _ e => absurd rfl e, le_pre h0 how hv hval, fr_pre hv hval⟩
/-- A lead hears a frame. -/
theorem lead_co (h : Co zs s g) (he : errW zs = 0) {id : Nat} {deal att : Int} {P : PL} (hl : Le zs s g id att P) (hw : PW zs.length P) (f : F9) (hf : Fr zs s g f) : LeOut zs s g id deal att (phear zs id deal att P f) := by
  have hn := (errW_zero he).2.1
  unfold phear
  by_cases ht : takesB zs.length id deal att P f = true
  · rw [if_pos ht]
    obtain ⟨⟨-, -, ea⟩, hwt, ⟨f0, f1⟩, -⟩ := takesB_in ht
    have hm : f.f.toNat < zs.length := by omega
    have hpn := hw.note (f := f) hn f0 f1
    have hb : ∀ i, bit (noteP P f).ans i = true → bit P.ans i = true ∨ i = f.f.toNat := fun i hi => bit_ans hn hw.lo hw.hi hm hi
    unfold takenP
    rcases waitsY hwt with ⟨ek, es, ez⟩ | ⟨ek, es, ez⟩ | ⟨ek, es⟩
    · rw [if_pos ek]
      unfold voteP
      cases ey : f.y with
      | false =>
        rw [if_pos rfl]
        exact dec_out h hl.a0 hl.ow (fun e => by omega) (fun _ => hf.vn ek ey)
      | true =>
        rw [if_neg (by simp)]
        have hvo : ∀ i, i < zs.length → bit (noteP P f).ans i = true → (s i).ph ≠ 0 ∧ ¬ g.no i := by
          intro i hi hbi
          rcases hb i hbi with x | rfl
          · exact hl.vo es ez i hi x
          · exact hf.vy ek ey
        split
        · rename_i hfull
          have hall : ∀ i, i < zs.length → (s i).ph ≠ 0 ∧ ¬ g.no i := fun i hi => hvo i hi (by rw [hfull]; exact bit_full hi)
          exact pre_out h hl.a0 hl.ow (.inl rfl) (fun _ => rfl) (fun e => by omega) (fun e => by omega) (fun b hb => by omega) (fun _ i hi => (hall i hi).1) (fun _ i hi => (hall i hi).2)
        · exact keep_out h ⟨hl.a0, fun _ _ => hvo, fun _ e => by omega, fun _ e => by omega, fun _ e => by omega, hl.ow, fun e => by have : P.stt = 1 := e; omega, fun e => by have : P.stt = 1 := e; omega⟩
    · rw [if_neg (by omega)]
      cases ey : f.y with
      | false =>
        rw [if_pos rfl]
        exact keep_out h (le_done hl.a0 hl.ow (.inr rfl))
      | true =>
        rw [if_neg (by simp), if_pos ek]
        obtain ⟨q1, q2, q3, -⟩ := seeP_of (noteP P f) f.pr
        generalize hQ : seeP (noteP P f) f.pr = Q at *
        have hQw : PW zs.length Q := by rw [← hQ]; exact hpn.see f.pr
        have hto := hf.te ek ey
        rw [ea] at hto
        have hlen : f.f.toNat < P.told.length := by rw [hw.len]; omega
        have hT : ∀ i, i < zs.length → bit Q.ans i = true → ∃ t, (toldS Q.told f.f.toNat ⟨f.ph, f.pr, f.pa⟩)[i]? = some t ∧ Told zs s g i att.toNat t := by
          intro i hi hbi
          rw [q2] at hbi
          rw [q3]
          unfold toldS
          rw [List.getElem?_set]
          by_cases e : f.f.toNat = i
          · rw [if_pos e, if_pos (show f.f.toNat < (noteP P f).told.length from hlen)]
            subst e
            exact ⟨_, rfl, hto⟩
          · rw [if_neg e]
            rcases hb i hbi with x | x
            · exact hl.tt es ez i hi x
            · exact absurd x.symm e
        have hbit : bit Q.ans f.f.toNat = true := by
          rw [q2]
          show bit (ansS P.ans f.f.toNat) f.f.toNat = true
          obtain ⟨k, hk⟩ := Int.eq_ofNat_of_zero_le hw.lo
          have hp := (pow_le7 hn).1
          have hhi := hw.hi
          have h3 : (2 : Nat) ^ f.f.toNat < 9223372036854775808 := Nat.lt_of_lt_of_le (Nat.pow_lt_pow_right (by decide) (Nat.lt_of_lt_of_le hm hn)) (by decide)
          unfold ansS
          rw [hk] at hhi ⊢
          rw [pow_nat f.f.toNat, bits_or_nat k (2 ^ f.f.toNat) (by omega) h3]
          unfold bit
          rw [Int.toNat_natCast, Nat.testBit_or, Nat.testBit_two_pow_self, Bool.or_true]
        have hmono : ∀ i, bit P.ans i = true → bit Q.ans i = true := by
          intro i hi
          rw [q2]
          show bit (ansS P.ans f.f.toNat) i = true
          obtain ⟨k, hk⟩ := Int.eq_ofNat_of_zero_le hw.lo
          have hp := (pow_le7 hn).1
          have hhi := hw.hi
          have h3 : (2 : Nat) ^ f.f.toNat < 9223372036854775808 := Nat.lt_of_lt_of_le (Nat.pow_lt_pow_right (by decide) (Nat.lt_of_lt_of_le hm hn)) (by decide)
          unfold ansS
          rw [hk] at hhi hi ⊢
          rw [pow_nat f.f.toNat, bits_or_nat k (2 ^ f.f.toNat) (by omega) h3]
          unfold bit at hi ⊢
          rw [Int.toNat_natCast] at hi
          rw [Int.toNat_natCast, Nat.testBit_or, hi, Bool.true_or]
        have hT0 : ∀ i t, (toldS Q.told f.f.toNat ⟨f.ph, f.pr, f.pa⟩)[i]? = some t → t.p = 0 ∨ (i < zs.length ∧ bit Q.ans i = true) := by
          intro i t hit
          rw [q3] at hit
          unfold toldS at hit
          rw [List.getElem?_set] at hit
          by_cases e : f.f.toNat = i
          · subst e; exact .inr ⟨hm, hbit⟩
          · rw [if_neg e] at hit
            rcases hl.t0 es ez i t hit with x | x
            · exact .inl x
            · exact .inr ⟨x.1, hmono i x.2⟩
        have hTm : ∀ t, t ∈ toldS Q.told f.f.toNat ⟨f.ph, f.pr, f.pa⟩ → t.p ≠ 0 → ∃ i, i < zs.length ∧ Told zs s g i att.toNat t := by
          intro t ht hp
          obtain ⟨i, hi⟩ := List.mem_iff_getElem?.1 ht
          rcases hT0 i t hi with x | ⟨x, y⟩
          · exact absurd x hp
          · obtain ⟨u, hu, hu2⟩ := hT i x y
            rw [hi] at hu
            cases hu
            exact ⟨i, x, hu2⟩
        unfold tellP
        split
        · refine keep_out h ⟨hl.a0, fun _ e => by omega, fun _ e => hl.tv es ez, fun _ _ => hT, fun _ _ => hT0, hl.ow, fun e => ?_, fun e => ?_⟩
          · have e2 : Q.stt = 1 := e
            rw [q1] at e2
            have : P.stt = 1 := e2
            omega
          · have e2 : Q.stt = 1 := e
            rw [q1] at e2
            have : P.stt = 1 := e2
            omega
        · rename_i hen
          have hen2 : enoughB zs Q.ans = true := by
            cases hx : enoughB zs Q.ans with
            | true => rfl
            | false => exact absurd hx hen
          have hqo : ∀ S : Nat → Prop, (∀ i, i < zs.length → bit Q.ans i = true → S i) → Qo zs S := fun S hS => ⟨Q.ans, errS_mk he hQw.lo hQw.hi, hen2, hS⟩
          generalize hC : chooseL (toldS Q.told f.f.toNat ⟨f.ph, f.pr, f.pa⟩) = c
          obtain ⟨cp, cf⟩ := c
          cases cf with
          | true =>
            rw [if_pos rfl]
            obtain ⟨c1, t, c2, c3⟩ := choose_fin hC
            obtain ⟨i, -, hi⟩ := hTm t c2 (by omega)
            exact dec_out h hl.a0 hl.ow (fun e => hi.d2 (by simp only at e; omega)) (fun e => hi.d3 (by simp only at e; omega))
          | false =>
            rw [if_neg (by simp)]
            obtain ⟨c1, c2, c3⟩ := choose_pre hC
            have hbg : Qo zs fun i => att.toNat ≤ (s i).pr := hqo _ fun i hi hbi => by
              obtain ⟨t, -, ht⟩ := hT i hi hbi
              exact ht.pr
            have hin : ∀ i t, (toldS Q.told f.f.toNat ⟨f.ph, f.pr, f.pa⟩)[i]? = some t → t ∈ toldS Q.told f.f.toNat ⟨f.ph, f.pr, f.pa⟩ := fun i t hit => List.mem_iff_getElem?.2 ⟨i, hit⟩
            rcases c3 with ⟨c3, c4⟩ | ⟨t, c3, c4, c5⟩
            · refine pre_out h hl.a0 hl.ow c1 (fun e => by omega) (fun _ => hl.tv es ez) (fun _ => hbg) (fun b hb1 _ _ => hqo _ fun i hi hbi => ?_) (fun e => by omega) (fun e => by omega)
              obtain ⟨u, u1, u2⟩ := hT i hi hbi
              refine ⟨Nat.lt_of_lt_of_le hb1 u2.pr, fun hac => ?_⟩
              have x1 := c2 u (hin i u u1)
              have x2 := c4 u (hin i u u1)
              have x3 := (u2.ac x1.1 x1.2 b hb1 hac).1
              omega
            · obtain ⟨j, hj, hjt⟩ := hTm t c3 (by omega)
              have hval := hjt.va (by omega)
              rw [c4] at hval
              have hta := hjt.a0
              refine pre_out h hl.a0 hl.ow c1 (fun e => by omega) (fun _ => hl.tv es ez) (fun _ => hbg) (fun b hb1 hb2 hb3 => ?_) (fun e => h.al t.a.toNat (by omega)) (fun e i hi hno => (h.nv i hi hno).2 t.a.toNat (by omega))
              rcases Nat.lt_trichotomy b t.a.toNat with hlt | heq | hgt
              · exact h.px t.a.toNat b hlt (by omega) hb2 (by omega)
              · rw [heq] at hb3; exact absurd hval.symm hb3
              · refine hqo _ fun i hi hbi => ?_
                obtain ⟨u, u1, u2⟩ := hT i hi hbi
                refine ⟨Nat.lt_of_lt_of_le hb1 u2.pr, fun hac => ?_⟩
                have x1 := c2 u (hin i u u1)
                obtain ⟨x3, x4⟩ := u2.ac x1.1 x1.2 b hb1 hac
                have x5 := c5 u (hin i u u1) x3
                omega
    · rw [if_neg (by omega)]
      cases ey : f.y with
      | false =>
        rw [if_pos rfl]
        exact keep_out h (le_done hl.a0 hl.ow (.inr rfl))
      | true =>
        rw [if_neg (by simp), if_neg (by omega)]
        obtain ⟨q1, q2, q3, q4⟩ := seeP_of (noteP P f) f.pr
        generalize hQ : seeP (noteP P f) f.pr = Q at *
        have hQw : PW zs.length Q := by rw [← hQ]; exact hpn.see f.pr
        have hak := hf.ak ek ey
        rw [ea] at hak
        have hpv := hl.pv es
        have hac : ∀ i, i < zs.length → bit Q.ans i = true → g.acc i att.toNat := by
          intro i hi hbi
          rw [q2] at hbi
          rcases hb i hbi with x | rfl
          · exact hl.pa es i hi x
          · exact hak
        have hprep : Q.prep = P.prep := q4
        unfold ackP
        split
        · refine keep_out h ⟨hl.a0, fun e => ?_, fun e => ?_, fun e => ?_, fun e => ?_, hl.ow, fun _ => by rw [hprep]; exact hpv, fun _ => hac⟩
          all_goals
            rw [q1] at e
            have : P.stt = 0 := e
            omega
        · rename_i hen
          have hen2 : enoughB zs Q.ans = true := by
            cases hx : enoughB zs Q.ans with
            | true => rfl
            | false => exact absurd hx hen
          have hqo : Qo zs fun i => g.acc i att.toNat := ⟨Q.ans, errS_mk he hQw.lo hQw.hi, hen2, hac⟩
          rw [hprep]
          refine dec_out h hl.a0 hl.ow (fun e => ⟨att.toNat, ?_, hqo⟩) (fun e => .inl ⟨att.toNat, ?_, hqo⟩)
          · unfold afterI at e
            rcases hpv.1 with x | x
            · omega
            · rw [x] at e; exact absurd e (by decide)
          · unfold afterI at e
            rcases hpv.1 with x | x
            · rw [x] at e; exact absurd e (by decide)
            · omega
  · rw [if_neg ht]
    exact keep_out h hl
end
end Go.Proofs.YtdpemmmbkjmplabGreatDoor
namespace Go.Proofs.YtdpemmmbkjmplabGreatDoor

/-- S laid over L from place a on. -/
def putL (L : List UInt8) (a : Nat) (S : List UInt8) : List UInt8 := L.take a ++ S ++ L.drop (a + S.length)
theorem putL_length {L S : List UInt8} {a : Nat} (h : a + S.length ≤ L.length) : (putL L a S).length = L.length := by
  simp [putL]; omega
theorem putL_nil (L : List UInt8) (a : Nat) : putL L a [] = L := by simp [putL]
theorem putL_get {L S : List UInt8} {a : Nat} (h : a + S.length ≤ L.length) (j : Nat) : (putL L a S)[j]? = if a ≤ j ∧ j < a + S.length then S[j - a]? else L[j]? := by
  unfold putL
  have e : min a L.length = a := by omega
  simp only [List.getElem?_append, List.length_append, List.length_take, List.getElem?_take, List.getElem?_drop, e]
  rcases Nat.lt_or_ge j a with h1 | h1
  · rw [if_pos (by omega), if_pos h1, if_pos h1, if_neg (by omega)]
  · rcases Nat.lt_or_ge j (a + S.length) with h2 | h2
    · rw [if_pos h2, if_neg (by omega), if_pos ⟨h1, h2⟩]
    · rw [if_neg (by omega), if_neg (by omega)]
      congr 1
      omega
theorem putB_putL {B s : ByteArray} {a k : Nat} (hk : k ≤ s.size) : (putB B a s k).data.toList = putL B.data.toList a (s.data.toList.take k) := by
  rw [putB_list]
  unfold putL
  rw [size_list] at hk
  rw [List.length_take, Nat.min_eq_left hk]

/-- The slot number k. -/
def slotL (L : List UInt8) (k : Nat) : List UInt8 := (L.drop (18 * k)).take 18
theorem slotL_get (L : List UInt8) (k j : Nat) : (slotL L k)[j]? = if j < 18 then L[18 * k + j]? else none := by
  unfold slotL
  rw [List.getElem?_take, List.getElem?_drop]
theorem slotL_length {L : List UInt8} {k : Nat} (h : 18 * (k + 1) ≤ L.length) : (slotL L k).length = 18 := by
  simp [slotL]; omega
/-- One deal's number and state. -/
def dealL (L : List UInt8) (d : Nat) : Nat × St :=
  if (heldL (2 * d) (slotL L (2 * d))).1 < (heldL (2 * d + 1) (slotL L (2 * d + 1))).1 then heldL (2 * d + 1) (slotL L (2 * d + 1)) else heldL (2 * d) (slotL L (2 * d))

/-- Slot k alone has turned. -/
structure Only (L : List UInt8) (k : Nat) (L' : List UInt8) : Prop where
  len : L'.length = L.length
  other : ∀ j, j ≠ k → slotL L' j = slotL L j
theorem Only.refl (L : List UInt8) (k : Nat) : Only L k L := ⟨rfl, fun _ _ => rfl⟩
theorem Only.trans {L L' L'' : List UInt8} {k : Nat} (h : Only L k L') (g : Only L' k L'') : Only L k L'' := ⟨g.len.trans h.len, fun j hj => (g.other j hj).trans (h.other j hj)⟩
theorem only_put {L S : List UInt8} {k i : Nat} (hk : 18 * (k + 1) ≤ L.length) (hi : i + S.length ≤ 18) : Only L k (putL L (18 * k + i) S) := by
  refine ⟨putL_length (by omega), fun j hj => ?_⟩
  apply List.ext_getElem?
  intro m
  rw [slotL_get, slotL_get]
  split
  · rw [putL_get (by omega), if_neg (by omega)]
  · rfl
/-- What a write within slot k makes of it. -/
theorem slot_put {L S : List UInt8} {k i : Nat} (hk : 18 * (k + 1) ≤ L.length) (hi : i + S.length ≤ 18) : slotL (putL L (18 * k + i) S) k = putL (slotL L k) i S := by
  apply List.ext_getElem?
  intro m
  rw [slotL_get, putL_get (by omega), putL_get (by rw [slotL_length hk]; omega), slotL_get]
  by_cases h : m < 18
  · rw [if_pos h, if_pos h]
    by_cases g : i ≤ m ∧ m < i + S.length
    · rw [if_pos (by omega), if_pos g]
      congr 1
      omega
    · rw [if_neg (by omega), if_neg g]
  · rw [if_neg h, if_neg h, if_neg (by omega)]

/-- Behind a Put that was cut: slot k alone has turned, if at all, and then its last byte is not 165. -/
def Torn (L : List UInt8) (k : Nat) (L' : List UInt8) : Prop := Only L k L' ∧ (slotL L' k = slotL L k ∨ ∃ b : UInt8, b ≠ 165 ∧ (slotL L' k)[17]? = some b)
/-- Behind a Put that was done. -/
def Done (L : List UInt8) (k n : Nat) (s : St) (L' : List UInt8) : Prop := Only L k L' ∧ slotL L' k = bodyL n s ++ [165]
/-- Which slot the next state of a deal goes into. -/
def nextK (d m : Nat) : Nat := 2 * d + (m + 1) % 2
theorem last_of_17 {t : List UInt8} {b : UInt8} (hl : t.length = 18) (h : t[17]? = some b) : t.getLast? = some b := by rw [List.getLast?_eq_getElem?, hl]; exact h
theorem deal_other {L L' : List UInt8} {d m e : Nat} (h : Only L (nextK d m) L') (he : e ≠ d) : dealL L' e = dealL L e := by
  unfold nextK at h
  unfold dealL
  rw [h.other (2 * e) (by omega), h.other (2 * e + 1) (by omega)]
theorem deal_torn {L L' : List UInt8} {d : Nat} (hL : 36 * (d + 1) ≤ L.length) (h : Torn L (nextK d (dealL L d).1) L') : dealL L' d = dealL L d := by
  obtain ⟨ho, hs⟩ := h
  rcases hs with hs | ⟨b, hb, hg⟩
  · have all : ∀ j, slotL L' j = slotL L j := fun j => by
      by_cases hj : j = nextK d (dealL L d).1
      · rw [hj]; exact hs
      · exact ho.other j hj
    unfold dealL
    rw [all, all]
  · have hk : 18 * (nextK d (dealL L d).1 + 1) ≤ L'.length := by rw [ho.len]; unfold nextK; omega
    have ht := fun k => heldL_torn k _ b (last_of_17 (slotL_length hk) hg) hb
    have pa := heldL_parity (2 * d) (slotL L (2 * d))
    have pb := heldL_parity (2 * d + 1) (slotL L (2 * d + 1))
    have za := heldL_zero (2 * d) (slotL L (2 * d))
    have zb := heldL_zero (2 * d + 1) (slotL L (2 * d + 1))
    unfold nextK at ho ht
    unfold dealL at ho ht ⊢
    by_cases c : (heldL (2 * d) (slotL L (2 * d))).1 < (heldL (2 * d + 1) (slotL L (2 * d + 1))).1
    · rw [if_pos c] at ho ht ⊢
      have p := pb (by omega)
      have e : ((heldL (2 * d + 1) (slotL L (2 * d + 1))).1 + 1) % 2 = 0 := by omega
      rw [e, Nat.add_zero] at ho ht
      rw [ho.other (2 * d + 1) (by omega), ht (2 * d), if_pos (by show 0 < _; omega)]
    · rw [if_neg c] at ho ht ⊢
      by_cases z : (heldL (2 * d) (slotL L (2 * d))).1 = 0
      · have e : ((heldL (2 * d) (slotL L (2 * d))).1 + 1) % 2 = 1 := by omega
        rw [e] at ho ht
        rw [ho.other (2 * d) (by omega), ht (2 * d + 1), if_neg (by show ¬ _ < 0; omega)]
      · have p := pa z
        have e : ((heldL (2 * d) (slotL L (2 * d))).1 + 1) % 2 = 1 := by omega
        rw [e] at ho ht
        rw [ho.other (2 * d) (by omega), ht (2 * d + 1), if_neg (by show ¬ _ < 0; omega)]
theorem deal_done {L L' : List UInt8} {d : Nat} {s : St} (hn : (dealL L d).1 + 1 < 4294967296) (hs : s.fits) (h : Done L (nextK d (dealL L d).1) ((dealL L d).1 + 1) s L') : dealL L' d = ((dealL L d).1 + 1, s) := by
  obtain ⟨ho, hb⟩ := h
  have le : (heldL (2 * d) (slotL L (2 * d))).1 ≤ (dealL L d).1 ∧ (heldL (2 * d + 1) (slotL L (2 * d + 1))).1 ≤ (dealL L d).1 := by
    unfold dealL; split <;> omega
  have hh := fun k (hk : ((dealL L d).1 + 1) % 2 = k % 2) => heldL_body k ((dealL L d).1 + 1) s (by omega) hn hk hs
  generalize dealL L d = m at *
  unfold nextK at ho hb
  unfold dealL
  rcases Nat.mod_two_eq_zero_or_one (m.1 + 1) with e | e
  · rw [e, Nat.add_zero] at ho hb
    rw [ho.other (2 * d + 1) (by omega), hb, hh (2 * d) (by omega), if_neg (by show ¬ m.1 + 1 < _; omega)]
  · rw [e] at ho hb
    rw [ho.other (2 * d) (by omega), hb, hh (2 * d + 1) (by omega), if_pos (by show _ < m.1 + 1; omega)]

/-- A write, by its error's number: done; or cut, ahead of its end. -/
def Wr (L : List UInt8) (a : Nat) (S : List UInt8) (L' : List UInt8) (c : Nat) : Prop := (c = 0 ∧ L' = putL L a S) ∨ (c = 6 ∧ ∃ t, t < S.length ∧ L' = putL L a (S.take t))
/-- Slot k with its last byte 0. -/
def Zeroed (L : List UInt8) (k : Nat) (L' : List UInt8) : Prop := Only L k L' ∧ (slotL L' k)[17]? = some 0
theorem Zeroed.torn {L L' : List UInt8} {k : Nat} (h : Zeroed L k L') : Torn L k L' := ⟨h.1, .inr ⟨0, by decide, h.2⟩⟩
theorem zero_skip {L : List UInt8} {k : Nat} (h : L[18 * k + 17]? = some 0) : Zeroed L k L := ⟨Only.refl _ _, by rw [slotL_get]; exact h⟩
theorem zero_wr {L L' : List UInt8} {k c : Nat} (hk : 18 * (k + 1) ≤ L.length) (h : Wr L (18 * k + 17) [0] L' c) : (c = 0 ∧ Zeroed L k L') ∨ (c = 6 ∧ Torn L k L') := by
  rcases h with ⟨rfl, rfl⟩ | ⟨rfl, t, ht, rfl⟩
  · refine .inl ⟨rfl, only_put hk (by simp), ?_⟩
    rw [slot_put hk (by simp), putL_get (by rw [slotL_length hk]; simp)]
    rfl
  · obtain rfl : t = 0 := by simpa using ht
    rw [List.take_zero, putL_nil]
    exact .inr ⟨rfl, Only.refl _ _, .inl rfl⟩
/-- Slot k with the seventeen bytes, its last byte 0. -/
def Bodied (L : List UInt8) (k n : Nat) (s : St) (L' : List UInt8) : Prop := Only L k L' ∧ slotL L' k = bodyL n s ++ [0]
theorem Bodied.torn {L L' : List UInt8} {k n : Nat} {s : St} (h : Bodied L k n s L') : Torn L k L' := ⟨h.1, .inr ⟨0, by decide, by rw [h.2, List.getElem?_append_right (by rw [bodyL_length]; omega), bodyL_length]; rfl⟩⟩
theorem body_wr {L L0 L' : List UInt8} {k n c : Nat} {s : St} (hk : 18 * (k + 1) ≤ L.length) (h0 : Zeroed L k L0) (h : Wr L0 (18 * k) (bodyL n s) L' c) : (c = 0 ∧ Bodied L k n s L') ∨ (c = 6 ∧ Torn L k L') := by
  have hk0 : 18 * (k + 1) ≤ L0.length := by rw [h0.1.len]; exact hk
  have hb := bodyL_length n s
  rcases h with ⟨rfl, rfl⟩ | ⟨rfl, t, ht, rfl⟩
  · refine .inl ⟨rfl, h0.1.trans (only_put (i := 0) hk0 (by omega)), ?_⟩
    have e := slot_put (S := bodyL n s) (i := 0) hk0 (by omega)
    rw [Nat.add_zero] at e
    rw [e]
    apply List.ext_getElem?
    intro m
    rw [putL_get (by rw [slotL_length hk0]; omega), List.getElem?_append, hb]
    by_cases g : m < 17
    · rw [if_pos (by omega), if_pos g, Nat.sub_zero]
    · rw [if_neg (by omega), if_neg g]
      by_cases g2 : m = 17
      · subst g2; rw [h0.2]; rfl
      · rw [slotL_get, if_neg (by omega), List.getElem?_eq_none (by simp; omega)]
  · refine .inr ⟨rfl, h0.1.trans (only_put (i := 0) hk0 (by simp; omega)), .inr ⟨0, by decide, ?_⟩⟩
    have e := slot_put (S := (bodyL n s).take t) (i := 0) hk0 (by simp; omega)
    rw [Nat.add_zero] at e
    rw [e, putL_get (by rw [slotL_length hk0]; simp; omega), if_neg (by simp; omega)]
    exact h0.2
theorem last_wr {L L1 L' : List UInt8} {k n c : Nat} {s : St} (hk : 18 * (k + 1) ≤ L.length) (h1 : Bodied L k n s L1) (h : Wr L1 (18 * k + 17) [165] L' c) : (c = 0 ∧ Done L k n s L') ∨ (c = 6 ∧ Torn L k L') := by
  have hk1 : 18 * (k + 1) ≤ L1.length := by rw [h1.1.len]; exact hk
  rcases h with ⟨rfl, rfl⟩ | ⟨rfl, t, ht, rfl⟩
  · refine .inl ⟨rfl, h1.1.trans (only_put hk1 (by simp)), ?_⟩
    rw [slot_put hk1 (by simp), h1.2]
    unfold putL
    rw [take_app (bodyL_length n s)]
    simp [bodyL_length]
  · obtain rfl : t = 0 := by simpa using ht
    rw [List.take_zero, putL_nil]
    exact .inr ⟨rfl, h1.torn⟩
end Go.Proofs.YtdpemmmbkjmplabGreatDoor
namespace Go.Proofs.YtdpemmmbkjmplabGreatDoor

/-- One bit, the byte laid over the sum before. -/
def devBit (c : Nat) : Nat := if c % 2 = 1 then (c / 2) ^^^ 3988292384 else c / 2
def devBits (c : Nat) : Nat → Nat
  | 0 => c
  | k + 1 => devBit (devBits c k)
theorem xor_half (x y : Nat) : (x ^^^ y) / 2 = x / 2 ^^^ y / 2 := by
  apply Nat.eq_of_testBit_eq
  intro i
  simp [Nat.testBit_xor, Nat.testBit_div_two]
theorem dev_step (c b k : Nat) : devBit (c ^^^ b / 2 ^ k) = crcBit c b k ^^^ b / 2 ^ (k + 1) := by
  have e : b / 2 ^ k / 2 = b / 2 ^ (k + 1) := by rw [Nat.div_div_eq_div_mul, Nat.pow_succ]
  unfold devBit crcBit
  split
  · rw [xor_half, e, Nat.xor_assoc, Nat.xor_assoc, Nat.xor_comm 3988292384]
  · rw [xor_half, e]
theorem dev_bits (c b : Nat) : ∀ k, devBits (c ^^^ b) k = crcBits c b k ^^^ b / 2 ^ k
  | 0 => by simp [devBits, crcBits]
  | k + 1 => by rw [devBits, dev_bits c b k, dev_step]; rfl
/-- Eight bits, either way. -/
theorem dev_eight (c : Nat) (b : UInt8) : devBits (c ^^^ b.toNat) 8 = crcBits c b.toNat 8 := by
  rw [dev_bits]
  have h := UInt8.toNat_lt b
  rw [show b.toNat / 2 ^ 8 = 0 by omega, Nat.xor_zero]
theorem devBit_lt {c : Nat} (h : c < 4294967296) : devBit c < 4294967296 := by
  unfold devBit
  split
  · exact Nat.xor_lt_two_pow (n := 32) (by omega) (by decide)
  · omega
theorem devBits_lt {c : Nat} (h : c < 4294967296) : ∀ k, devBits c k < 4294967296
  | 0 => h
  | k + 1 => devBit_lt (devBits_lt h k)

end Go.Proofs.YtdpemmmbkjmplabGreatDoor
namespace Go.Proofs.YtdpemmmbkjmplabGreatDoor
open Go.RowKit Go.Extern.Stop Go.Stop Go.Extern

/-! ### Closed facts on the types that errors.Is meets -/
theorem callTypeOfE (v : Value) (w : World) : (callFunc 113 #[.iface 222 v]).run Tryz.prog w = .ok (.value (.iface 191 (.agg #[.pointer (some ⟨10, 222, none⟩)]))) w := by kernel_rfl
theorem callComparable (w : World) : (callFunc 181 #[.agg #[.pointer (some ⟨10, 222, none⟩)]]).run Tryz.prog w = .ok (.value (.bool true)) w := by kernel_rfl
theorem methodComparable (v : Value) (w : World) : (Go.method 354 191 v "Comparable").run Tryz.prog w = .ok (181, v) w := by kernel_rfl
theorem compErrS : (Tryz.prog.info? 222).map (·.comparable) = some true := by kernel_rfl
theorem sizeErrS : (Tryz.prog.info? 242).map (·.size) = some 1 := by kernel_rfl
theorem noIsE (v : Value) (xT : TypeId) (w : World) : (Instr.typeAssert (.iface 222 v) xT 202 true).run Tryz.prog w = .ok (.tuple #[.nilIface, .bool false]) w := run_typeAssert_lacksB Tryz.underlying202 (by kernel_rfl) (by kernel_rfl) v xT w
theorem noUnwrapE (v : Value) (xT : TypeId) (w : World) : (Instr.typeAssert (.iface 222 v) xT 198 true).run Tryz.prog w = .ok (.tuple #[.nilIface, .bool false]) w := run_typeAssert_lacksB Tryz.underlying198 (by kernel_rfl) (by kernel_rfl) v xT w
theorem noUnwrapsE (v : Value) (xT : TypeId) (w : World) : (Instr.typeAssert (.iface 222 v) xT 200 true).run Tryz.prog w = .ok (.tuple #[.nilIface, .bool false]) w := run_typeAssert_lacksB Tryz.underlying200 (by kernel_rfl) (by kernel_rfl) v xT w
theorem noAsE (v : Value) (xT : TypeId) (w : World) : (Instr.typeAssert (.iface 222 v) xT 195 true).run Tryz.prog w = .ok (.tuple #[.nilIface, .bool false]) w := run_typeAssert_lacksB Tryz.underlying195 (by kernel_rfl) (by kernel_rfl) v xT w
theorem noIsF (v : Value) (xT : TypeId) (w : World) : (Instr.typeAssert (.iface 103 v) xT 202 true).run Tryz.prog w = .ok (.tuple #[.nilIface, .bool false]) w := run_typeAssert_lacksB Tryz.underlying202 (by kernel_rfl) (by kernel_rfl) v xT w
theorem hasUnwrapF (v : Value) (xT : TypeId) (w : World) : (Instr.typeAssert (.iface 103 v) xT 198 true).run Tryz.prog w = .ok (.tuple #[.iface 103 v, .bool true]) w := run_typeAssert_hasB Tryz.underlying198 (by kernel_rfl) v xT w
theorem methodUnwrap (v : Value) (w : World) : (Go.method 354 103 v "Unwrap").run Tryz.prog w = .ok (175, v) w := by kernel_rfl

/-- errors.Is(x, x). -/
theorem is_same (a : Addr) (w : World) :
    Calls Tryz.prog 91 #[.iface 222 (.pointer (some a)), .iface 222 (.pointer (some a))] w fun e w' => e = .returned (.bool true) ∧ w' = w := by
  obtain ⟨i, hi, hcmp⟩ := Option.map_eq_some_iff.1 compErrS
  obtain ⟨j, hj, hjs⟩ := Option.map_eq_some_iff.1 sizeErrS
  have tT := callTypeOfE
  have cT := callComparable
  have mR := methodComparable
  have heq := run_eql_iface_ptr_same (P := Tryz.prog) w a Tryz.underlying28 Tryz.underlying222 hi hcmp hj
  go_enter Tryz.func91, Tryz.ntmps91
  go_wp2
  refine wp_loop_rounds 1 ?_
  rw [rounds_succ]
  go_wp2
  go_ret
  exact ⟨rfl, rfl⟩

/-- errors.Is(x, y), two errors of errors.New's make at different addresses. -/
theorem is_other (a b : Addr) (ca cb : Array Value) (ta tb : TypeId) (w : World) (hne : a ≠ b) (ha : w.heap[a.block]? = some (.cells ca ta (0, 0))) (hb : w.heap[b.block]? = some (.cells cb tb (0, 0))) :
    Calls Tryz.prog 91 #[.iface 222 (.pointer (some a)), .iface 222 (.pointer (some b))] w fun e w' => e = .returned (.bool false) ∧ w' = w := by
  obtain ⟨i, hi, hcmp⟩ := Option.map_eq_some_iff.1 compErrS
  obtain ⟨j, hj, hjs⟩ := Option.map_eq_some_iff.1 sizeErrS
  have tT := callTypeOfE
  have cT := callComparable
  have mR := methodComparable
  have nE := noIsE
  have uE := noUnwrapE
  have vE := noUnwrapsE
  have heq := run_eql_iface_ptr_other (P := Tryz.prog) w Tryz.underlying28 Tryz.underlying222 hi hcmp hj (by rw [hjs]; decide) hne ha hb
  go_enter Tryz.func91, Tryz.ntmps91
  go_wp2
  refine wp_loop_rounds 1 ?_
  rw [rounds_succ]
  go_wp2
  go_ret
  exact ⟨rfl, rfl⟩

/-- errors.Is(f, x), f an api.Fault round x. -/
theorem is_f_same (pb po : Nat) (b : Addr) (w : World) (h1 : w.cell? ⟨pb, po + 1, none⟩ = some (.iface 222 (.pointer (some b)))) :
    Calls Tryz.prog 91 #[.iface 103 (.pointer (some ⟨pb, po, none⟩)), .iface 222 (.pointer (some b))] w fun e w' => e = .returned (.bool true) ∧ w' = w := by
  obtain ⟨i, hi, hcmp⟩ := Option.map_eq_some_iff.1 compErrS
  obtain ⟨j, hj, hjs⟩ := Option.map_eq_some_iff.1 sizeErrS
  have tT := callTypeOfE
  have cT := callComparable
  have mR := methodComparable
  have nW := noIsF
  have uW := hasUnwrapF
  have mU := methodUnwrap
  have heq := run_eql_iface_ptr_same (P := Tryz.prog) w b Tryz.underlying28 Tryz.underlying222 hi hcmp hj
  have hty := run_eql_iface_types (P := Tryz.prog) 103 222 (.pointer (some ⟨pb, po, none⟩)) (.pointer (some b)) Tryz.underlying28 (by decide) w
  go_enter Tryz.func91, Tryz.ntmps91
  go_wp2
  refine wp_loop_rounds 2 ?_
  rw [rounds_succ]
  go_wp2
  rw [rounds_succ]
  go_wp2
  go_ret
  exact ⟨rfl, rfl⟩

/-- errors.Is(f, y), f an api.Fault round another one. -/
theorem is_f_other (pb po : Nat) (a b : Addr) (ca cb : Array Value) (ta tb : TypeId) (w : World) (h1 : w.cell? ⟨pb, po + 1, none⟩ = some (.iface 222 (.pointer (some a)))) (hne : a ≠ b) (ha : w.heap[a.block]? = some (.cells ca ta (0, 0))) (hb : w.heap[b.block]? = some (.cells cb tb (0, 0))) :
    Calls Tryz.prog 91 #[.iface 103 (.pointer (some ⟨pb, po, none⟩)), .iface 222 (.pointer (some b))] w fun e w' => e = .returned (.bool false) ∧ w' = w := by
  obtain ⟨i, hi, hcmp⟩ := Option.map_eq_some_iff.1 compErrS
  obtain ⟨j, hj, hjs⟩ := Option.map_eq_some_iff.1 sizeErrS
  have tT := callTypeOfE
  have cT := callComparable
  have mR := methodComparable
  have nE := noIsE
  have uE := noUnwrapE
  have vE := noUnwrapsE
  have nW := noIsF
  have uW := hasUnwrapF
  have mU := methodUnwrap
  have heq := run_eql_iface_ptr_other (P := Tryz.prog) w Tryz.underlying28 Tryz.underlying222 hi hcmp hj (by rw [hjs]; decide) hne ha hb
  have hty := run_eql_iface_types (P := Tryz.prog) 103 222 (.pointer (some ⟨pb, po, none⟩)) (.pointer (some b)) Tryz.underlying28 (by decide) w
  go_enter Tryz.func91, Tryz.ntmps91
  go_wp2
  refine wp_loop_rounds 2 ?_
  rw [rounds_succ]
  go_wp2
  rw [rounds_succ]
  go_wp2
  go_ret
  exact ⟨rfl, rfl⟩
end Go.Proofs.YtdpemmmbkjmplabGreatDoor
namespace Go.Proofs.YtdpemmmbkjmplabGreatDoor
open Go.RowKit Go.Extern.Stop Go.Stop Go.Extern

/-! ### Closed facts on the types that errors.As meets -/
theorem callValueOfT (t : Addr) (w : World) : (callFunc 109 #[.iface 152 (.pointer (some t))]).run Tryz.prog w
    = .ok (.value (.agg #[.pointer (some ⟨10, 152, none⟩), .pointer (some ⟨w.heap.size, 0, none⟩), .int .u64 150])) (w.alloc (.cells #[.pointer (some t)] 152)) := by kernel_rfl
theorem callTypeT (a : Addr) (w : World) : (callFunc 110 #[.agg #[.pointer (some ⟨10, 152, none⟩), .pointer (some a), .int .u64 150]]).run Tryz.prog w
    = .ok (.value (.iface 191 (.agg #[.pointer (some ⟨10, 152, none⟩)]))) w := by kernel_rfl
theorem methodKind (h : Value) (w : World) : (Go.method 354 191 (.agg #[h]) "Kind").run Tryz.prog w = .ok (169, h) w := by kernel_rfl
theorem callKindT (w : World) : (callFunc 169 #[.pointer (some ⟨10, 152, none⟩)]).run Tryz.prog w = .ok (.value (.int .u8 22)) w := by kernel_rfl
theorem callKindF (w : World) : (callFunc 169 #[.pointer (some ⟨10, 103, none⟩)]).run Tryz.prog w = .ok (.value (.int .u8 22)) w := by kernel_rfl
theorem methodElem (h : Value) (w : World) : (Go.method 354 191 (.agg #[h]) "Elem").run Tryz.prog w = .ok (182, .agg #[h]) w := by kernel_rfl
theorem callElemT (w : World) : (callFunc 182 #[.agg #[.pointer (some ⟨10, 152, none⟩)]]).run Tryz.prog w = .ok (.value (.iface 191 (.agg #[.pointer (some ⟨10, 103, none⟩)]))) w := by kernel_rfl
theorem methodImplements (h : Value) (w : World) : (Go.method 354 191 (.agg #[h]) "Implements").run Tryz.prog w = .ok (183, .agg #[h]) w := by kernel_rfl
theorem callImplementsF (w : World) : (callFunc 183 #[.agg #[.pointer (some ⟨10, 103, none⟩)], .iface 191 (.agg #[.pointer (some ⟨10, 28, none⟩)])]).run Tryz.prog w = .ok (.value (.bool true)) w := by kernel_rfl
theorem methodAssignableTo (h : Value) (w : World) : (Go.method 354 191 (.agg #[h]) "AssignableTo").run Tryz.prog w = .ok (180, .agg #[h]) w := by kernel_rfl
theorem callAssignableE (w : World) : (callFunc 180 #[.agg #[.pointer (some ⟨10, 222, none⟩)], .iface 191 (.agg #[.pointer (some ⟨10, 103, none⟩)])]).run Tryz.prog w = .ok (.value (.bool false)) w := by kernel_rfl
theorem callAssignableF (w : World) : (callFunc 180 #[.agg #[.pointer (some ⟨10, 103, none⟩)], .iface 191 (.agg #[.pointer (some ⟨10, 103, none⟩)])]).run Tryz.prog w = .ok (.value (.bool true)) w := by kernel_rfl
theorem callTypeOfF (v : Value) (w : World) : (callFunc 113 #[.iface 103 v]).run Tryz.prog w = .ok (.value (.iface 191 (.agg #[.pointer (some ⟨10, 103, none⟩)]))) w := by kernel_rfl
theorem callValueOfF (t : Addr) (w : World) : (callFunc 109 #[.iface 103 (.pointer (some t))]).run Tryz.prog w
    = .ok (.value (.agg #[.pointer (some ⟨10, 103, none⟩), .pointer (some ⟨w.heap.size, 0, none⟩), .int .u64 150])) (w.alloc (.cells #[.pointer (some t)] 103)) := by kernel_rfl

end Go.Proofs.YtdpemmmbkjmplabGreatDoor
namespace Go.Proofs.YtdpemmmbkjmplabGreatDoor
open Go.RowKit Go.Extern.Stop Go.Stop Go.Extern

/-! ### The entries that read or write memory -/
theorem partsT (a : Addr) (w : World) : (ReflectliteValue.parts (.agg #[.pointer (some ⟨10, 152, none⟩), .pointer (some a), .int .u64 150])).run Tryz.prog w = .ok (some (152, a, 150)) w := by kernel_rfl
theorem callIsNilT (a p : Addr) (W : World) (ha : W.cell? a = some (.pointer (some p))) :
    (callFunc 111 #[.agg #[.pointer (some ⟨10, 152, none⟩), .pointer (some a), .int .u64 150]]).run Tryz.prog W = .ok (.value (.bool false)) W := by
  rw [@run_callFunc_extern Tryz.prog 111 _ (ReflectliteValue.method (ReflectliteValue.valueError "reflectlite.Value.IsNil" 0) ReflectliteValue.isNil) Tryz.func111 (by kernel_rfl) (by kernel_rfl) (by kernel_rfl) (by kernel_rfl)]
  change Result.andThen (Sem.run Tryz.prog (Bind.bind (ReflectliteValue.parts (.agg #[.pointer (some ⟨10, 152, none⟩), .pointer (some a), .int .u64 150])) _) W) _ = _
  simp only [Sem.run_bind, partsT, Result.andThen]
  simp [ReflectliteValue.isNil, loadVar, isAgg, underlying, Tryz.underlying152, ha, Result.andThen]
theorem elemOfT (w : World) : (Rtype.elem? 152).run Tryz.prog w = .ok (some 103) w := by kernel_rfl
theorem mkF (p : Addr) (w : World) : (ReflectliteValue.mk 103 p ReflectliteValue.flagAddr).run Tryz.prog w = .ok (.agg #[.pointer (some ⟨10, 103, none⟩), .pointer (some p), .int .u64 406]) w := by kernel_rfl
theorem callElemV (a p : Addr) (W : World) (ha : W.cell? a = some (.pointer (some p))) :
    (callFunc 128 #[.agg #[.pointer (some ⟨10, 152, none⟩), .pointer (some a), .int .u64 150]]).run Tryz.prog W = .ok (.value (.agg #[.pointer (some ⟨10, 103, none⟩), .pointer (some p), .int .u64 406])) W := by
  rw [@run_callFunc_extern Tryz.prog 128 _ (ReflectliteValue.method (ReflectliteValue.valueError "reflectlite.Value.Elem" 0) ReflectliteValue.elem) Tryz.func128 (by kernel_rfl) (by kernel_rfl) (by kernel_rfl) (by kernel_rfl)]
  change Result.andThen (Sem.run Tryz.prog (Bind.bind (ReflectliteValue.parts (.agg #[.pointer (some ⟨10, 152, none⟩), .pointer (some a), .int .u64 150])) _) W) _ = _
  simp only [Sem.run_bind, partsT, Result.andThen]
  simp [ReflectliteValue.elem, loadVar, isAgg, underlying, Tryz.underlying152, ha, Result.andThen, elemOfT, mkF]

/-- errors.As(x, &f), x of errors.New's make: no. -/
theorem as_miss (a t : Addr) (w : World) (hg : w.cell? ⟨9, 0, none⟩ = some (.iface 191 (.agg #[.pointer (some ⟨10, 28, none⟩)]))) :
    Calls Tryz.prog 90 #[.iface 222 (.pointer (some a)), .iface 152 (.pointer (some t))] w fun ev w' => ev = .returned (.bool false) ∧ Below w.heap.size w w' := by
  have c1 := callValueOfT
  have c2 := callTypeT
  have c3 := methodKind
  have c4 := callKindT
  have c5 := callKindF
  have c6 := methodElem
  have c7 := callElemT
  have c8 := methodImplements
  have c9 := callImplementsF
  have d1 := methodAssignableTo
  have d2 := callAssignableE
  have d3 := callTypeOfE
  have d4 := noAsE
  have d5 := noUnwrapE
  have d6 := noUnwrapsE
  have n8 := callIsNilT ⟨w.heap.size, 0, none⟩ t ((w.alloc (.cells #[.pointer (some t)] 152)).alloc (.cells #[.pointer (some ⟨10, 152, none⟩), .pointer (some ⟨w.heap.size, 0, none⟩), .int .u64 150] 169)) (by simp)
  have hlt : 9 < w.heap.size := by
    rcases Nat.lt_or_ge 9 w.heap.size with h | h
    · exact h
    · simp [World.cell?, Array.getElem?_eq_none h] at hg
  have hg2 : ((w.alloc (.cells #[.pointer (some t)] 152)).alloc (.cells #[.pointer (some ⟨10, 152, none⟩), .pointer (some ⟨w.heap.size, 0, none⟩), .int .u64 150] 169)).cell? ⟨9, 0, none⟩ = some (.iface 191 (.agg #[.pointer (some ⟨10, 28, none⟩)])) := by
    rw [World.cell?_alloc_lt _ _ ⟨9, 0, none⟩ (by simp; omega), World.cell?_alloc_lt _ _ ⟨9, 0, none⟩ hlt]; exact hg
  go_enter Tryz.func90, Tryz.ntmps90
  go_wp2
  refine wp_loop_rounds 1 ?_
  rw [rounds_succ]
  go_wp2
  go_ret
  exact ⟨rfl, by repeat (first | exact Below.refl _ _ | refine Below.drew ?_ | refine Below.alloc ?_ (by simp; try omega) _)⟩
end Go.Proofs.YtdpemmmbkjmplabGreatDoor
namespace Go.Proofs.YtdpemmmbkjmplabGreatDoor
open Go.RowKit

/-- An error's value by its number: 0: nil; c + 1: what the variable c holds. -/
def ev (A : Nat → Addr) : Nat → Value
  | 0 => .nilIface
  | c + 1 => .iface 222 (.pointer (some (A c)))
end Go.Proofs.YtdpemmmbkjmplabGreatDoor
namespace Go.Proofs.YtdpemmmbkjmplabGreatDoor
open Go.RowKit

/-- Which variable holds the error of number k + 1. -/
def gN : Nat → Nat
  | 0 => 6
  | 1 => 3
  | 2 => 4
  | 3 => 1
  | 4 => 7
  | 5 => 5
  | 6 => 8
  | 7 => 0
  | _ => 2
/-- The nine error variables hold nine different errors; the handle of type 'error' is laid. -/
structure Held9 (w : World) (A : Nat → Addr) : Prop where
  var : ∀ i, i < 9 → w.cell? ⟨gN i, 0, none⟩ = some (.iface 222 (.pointer (some (A i))))
  ne : ∀ i j, i < 9 → j < 9 → i ≠ j → A i ≠ A j
  row : ∀ i, i < 9 → ∃ c t, w.heap[(A i).block]? = some (.cells c t (0, 0))
  hnd : w.cell? ⟨9, 0, none⟩ = some (.iface 191 (.agg #[.pointer (some ⟨10, 28, none⟩)]))
theorem row_later {w w' : World} {b : Nat} {c : Array Value} {t : TypeId} {f : Nat × Nat} (hb : Below w.heap.size w w') (h : w.heap[b]? = some (.cells c t f)) : w'.heap[b]? = some (.cells c t f) := by
  have hlt : b < w.heap.size := by
    rcases Nat.lt_or_ge b w.heap.size with g | g
    · exact g
    · rw [Array.getElem?_eq_none g] at h; cases h
  rw [hb.block b hlt]; exact h
theorem Held9.later {w w' : World} {A : Nat → Addr} (h : Held9 w A) (hb : Below w.heap.size w w') : Held9 w' A :=
  ⟨fun i hi => cell_later hb (h.var i hi), h.ne, fun i hi => by obtain ⟨c, t, g⟩ := h.row i hi; exact ⟨c, t, row_later hb g⟩, cell_later hb h.hnd⟩

theorem Held9.cells {w : World} {A : Nat → Addr} (h : Held9 w A) : w.cell? ⟨6, 0, none⟩ = some (.iface 222 (.pointer (some (A 0)))) ∧ w.cell? ⟨3, 0, none⟩ = some (.iface 222 (.pointer (some (A 1)))) ∧ w.cell? ⟨4, 0, none⟩ = some (.iface 222 (.pointer (some (A 2)))) ∧ w.cell? ⟨1, 0, none⟩ = some (.iface 222 (.pointer (some (A 3)))) ∧ w.cell? ⟨7, 0, none⟩ = some (.iface 222 (.pointer (some (A 4)))) ∧ w.cell? ⟨5, 0, none⟩ = some (.iface 222 (.pointer (some (A 5)))) ∧ w.cell? ⟨8, 0, none⟩ = some (.iface 222 (.pointer (some (A 6)))) ∧ w.cell? ⟨0, 0, none⟩ = some (.iface 222 (.pointer (some (A 7)))) ∧ w.cell? ⟨2, 0, none⟩ = some (.iface 222 (.pointer (some (A 8)))) :=
  ⟨h.var 0 (by decide), h.var 1 (by decide), h.var 2 (by decide), h.var 3 (by decide), h.var 4 (by decide), h.var 5 (by decide), h.var 6 (by decide), h.var 7 (by decide), h.var 8 (by decide)⟩

/-- The list of the nine errors. -/
def errArr (A : Nat → Addr) : Array Value := #[.iface 222 (.pointer (some (A 0))), .iface 222 (.pointer (some (A 1))), .iface 222 (.pointer (some (A 2))), .iface 222 (.pointer (some (A 3))), .iface 222 (.pointer (some (A 4))), .iface 222 (.pointer (some (A 5))), .iface 222 (.pointer (some (A 6))), .iface 222 (.pointer (some (A 7))), .iface 222 (.pointer (some (A 8)))]
theorem errArr_at (A : Nat → Addr) (k : Nat) (hk : k < 9) (w : World) (t : TypeId) : (w.alloc (.cells (errArr A) t)).cell? ⟨w.heap.size, k, none⟩ = some (.iface 222 (.pointer (some (A k)))) := by
  rw [World.cell?_alloc_at _ _ _ _ rfl]
  have : k = 0 ∨ k = 1 ∨ k = 2 ∨ k = 3 ∨ k = 4 ∨ k = 5 ∨ k = 6 ∨ k = 7 ∨ k = 8 := by omega
  rcases this with rfl | rfl | rfl | rfl | rfl | rfl | rfl | rfl | rfl <;> rfl

/-- Code(nil). -/
theorem code_nil (w : World) : Calls Tryz.prog 74 #[.nilIface] w fun e w' => e = .returned (.tuple #[.int .i64 0, .int .i64 (-1)]) ∧ w' = w := by
  go_enter Tryz.func74, Tryz.ntmps74
  go_wp2
  go_ret2
  exact ⟨rfl, rfl⟩

set_option maxRecDepth 100000 in
set_option maxHeartbeats 2000000 in
theorem code_e (A : Nat → Addr) (x : Addr) (c : Nat) (r : Int) (w : World) (hE : Held9 w A) (hrow : ∃ cs t, w.heap[x.block]? = some (.cells cs t (0, 0)))
    (hc : c ≤ 9) (hlo : ∀ k, k < c → x ≠ A k) (hat : c < 9 → x = A c) (hr1 : c < 9 → r = c + 1) (hr2 : c = 9 → r = -1) :
    Calls Tryz.prog 74 #[.iface 222 (.pointer (some x))] w fun e w' => e = .returned (.tuple #[.int .i64 r, .int .i64 (-1)]) ∧ Below w.heap.size w w' := by
  have H := hid hE
  have HR := hid hrow
  have HLO := hid hlo
  have HAT := hid hat
  have HR1 := hid hr1
  have HR2 := hid hr2
  clear hE hrow hlo hat hr1 hr2
  have hb0 : Below w.heap.size w (w.alloc (.cells #[.pointer none] 103)) := (Below.refl _ _).alloc (Nat.le_refl _) _
  go_enter Tryz.func74, Tryz.ntmps74
  go_wp2_with (go_at_call 90; refine (as_miss x _ _ (by exact (H.out.later hb0).hnd)).mono ?_; rintro e w1 ⟨rfl, hb1⟩; obtain ⟨g0, g1, g2, g3, g4, g5, g6, g7, g8⟩ := (H.out.later (hb0.trans (hb1.mono hb0.size))).cells)
  have hB : Below w.heap.size w (w1.alloc (.cells #[.iface 222 (.pointer (some (A 0))), .iface 222 (.pointer (some (A 1))), .iface 222 (.pointer (some (A 2))), .iface 222 (.pointer (some (A 3))), .iface 222 (.pointer (some (A 4))), .iface 222 (.pointer (some (A 5))), .iface 222 (.pointer (some (A 6))), .iface 222 (.pointer (some (A 7))), .iface 222 (.pointer (some (A 8)))] 28)) := (hb0.trans (hb1.mono hb0.size)).alloc (Nat.le_trans hb0.size hb1.size) _
  have hcell : ∀ k, k < 9 → (w1.alloc (.cells #[.iface 222 (.pointer (some (A 0))), .iface 222 (.pointer (some (A 1))), .iface 222 (.pointer (some (A 2))), .iface 222 (.pointer (some (A 3))), .iface 222 (.pointer (some (A 4))), .iface 222 (.pointer (some (A 5))), .iface 222 (.pointer (some (A 6))), .iface 222 (.pointer (some (A 7))), .iface 222 (.pointer (some (A 8)))] 28)).cell? ⟨w1.heap.size, k, none⟩ = some (.iface 222 (.pointer (some (A k)))) := fun k hk => errArr_at A k hk w1 28
  have HC := hid hcell
  clear g0 g1 g2 g3 g4 g5 g6 g7 g8 hcell
  go_loop [3, 27] (fun a i => ∃ k : Nat, k ≤ c ∧ i = .int .i64 k ∧ a = .int .i64 (-1)) (fun _ i => 9 - (intOf i).toNat)
  case atStart => exact ⟨0, Nat.zero_le _, rfl, rfl⟩
  case round =>
    obtain ⟨k, hk, rfl, rfl⟩ := hrel
    by_cases hlt : k < 9
    · have hck := HC.out k hlt
      by_cases hkc : k = c
      · subst hkc
        have hx := HAT.out hlt
        subst hx
        have hR := HR1.out hlt
        subst hR
        go_wp2_with (go_at_call 91; refine (is_same _ _).mono ?_; rintro e w' ⟨rfl, rfl⟩)
        go_ret2
        exact ⟨rfl, hB⟩
      · obtain ⟨cs, t, hr⟩ := HR.out
        obtain ⟨cs', t', hr'⟩ := H.out.row k hlt
        have hr2 := hid (row_later hB hr)
        have hr2' := hid (row_later hB hr')
        clear hr hr'
        go_wp2_with (go_at_call 91; refine (is_other _ _ cs cs' t t' _ (HLO.out k (by omega)) hr2.out hr2'.out).mono ?_; rintro e w' ⟨rfl, rfl⟩)
        go_round
        case rel => exact ⟨k + 1, by omega, by go_num, rfl⟩
        case measure => simp [intOf]; omega
    · have hc9 : c = 9 := by omega
      have hR := HR2.out hc9
      subst hR
      go_wp2
      go_ret2
      exact ⟨rfl, hB⟩

/-- Code of the error number c + 1. -/
theorem code_at (A : Nat → Addr) (c : Nat) (w : World) (hE : Held9 w A) (hc : c < 9) :
    Calls Tryz.prog 74 #[.iface 222 (.pointer (some (A c)))] w fun e w' => e = .returned (.tuple #[.int .i64 ((c : Int) + 1), .int .i64 (-1)]) ∧ Below w.heap.size w w' :=
  code_e A (A c) c _ w hE (hE.row c hc) (by omega) (fun k hk => hE.ne c k hc (by omega) (by omega)) (fun _ => rfl) (fun _ => rfl) (fun h => by omega)
/-- Code of another error. -/
theorem code_not (A : Nat → Addr) (x : Addr) (w : World) (hE : Held9 w A) (hrow : ∃ cs t, w.heap[x.block]? = some (.cells cs t (0, 0))) (hx : ∀ k, k < 9 → x ≠ A k) :
    Calls Tryz.prog 74 #[.iface 222 (.pointer (some x))] w fun e w' => e = .returned (.tuple #[.int .i64 (-1), .int .i64 (-1)]) ∧ Below w.heap.size w w' :=
  code_e A x 9 _ w hE hrow (Nat.le_refl _) hx (fun h => by omega) (fun h => by omega) (fun _ => rfl)

/-- coded(err, code): does an error have that number, and no place? At nil. -/
theorem coded_nil (n : Int) (w : World) : Calls Tryz.prog 35 #[.nilIface, .int .i64 n] w fun e w' => e = .returned (.bool (0 == n)) ∧ w' = w := by
  go_enter Tryz.func35, Tryz.ntmps35
  go_wp2_with (go_at_call 74; refine (code_nil _).mono ?_; rintro e w' ⟨rfl, rfl⟩)
  all_goals go_ret
  all_goals exact ⟨by simp_all, rfl⟩
theorem coded_at (A : Nat → Addr) (c : Nat) (n : Int) (w : World) (hE : Held9 w A) (hc : c < 9) :
    Calls Tryz.prog 35 #[.iface 222 (.pointer (some (A c))), .int .i64 n] w fun e w' => e = .returned (.bool ((c : Int) + 1 == n)) ∧ Below w.heap.size w w' := by
  have H := hid hE
  clear hE
  go_enter Tryz.func35, Tryz.ntmps35
  go_wp2_with (go_at_call 74; refine (code_at A c _ H.out hc).mono ?_; rintro e w1 ⟨rfl, hb⟩)
  all_goals go_ret
  all_goals exact ⟨by simp_all, hb⟩
end Go.Proofs.YtdpemmmbkjmplabGreatDoor
namespace Go.Proofs.YtdpemmmbkjmplabGreatDoor
open Go.RowKit

/-- What a call may have turned: the blocks S, and new ones. -/
structure Kept (S : Nat → Prop) (w w' : World) : Prop where
  os : w'.os = w.os
  tape : w'.tape = w.tape
  output : w'.output = w.output
  size : w.heap.size ≤ w'.heap.size
  block : ∀ k, k < w.heap.size → ¬ S k → w'.heap[k]? = w.heap[k]?
theorem Kept.refl (S : Nat → Prop) (w : World) : Kept S w w := ⟨rfl, rfl, rfl, Nat.le_refl _, fun _ _ _ => rfl⟩
theorem Kept.trans {S : Nat → Prop} {a b c : World} (h : Kept S a b) (k : Kept S b c) : Kept S a c :=
  ⟨k.os.trans h.os, k.tape.trans h.tape, k.output.trans h.output, Nat.le_trans h.size k.size, fun i hi hs => (k.block i (Nat.lt_of_lt_of_le hi h.size) hs).trans (h.block i hi hs)⟩
theorem Kept.drew {S : Nat → Prop} {a w : World} (h : Kept S a w) : Kept S a w.drew := ⟨h.os, h.tape, h.output, h.size, h.block⟩
theorem Kept.setCell {S : Nat → Prop} {a w : World} (h : Kept S a w) {p : Addr} (hp : S p.block) (u : Value) : Kept S a (w.setCell p u) :=
  h.trans ⟨rfl, rfl, rfl, by simp, fun k _ hk => Below.heap_setCell w p u k (fun e => hk (e ▸ hp))⟩
theorem Kept.below {S : Nat → Prop} {B : Nat} {w0 w w' : World} (h : Kept S w w') (hB : B ≤ w.heap.size) (hS : ∀ k, S k → B ≤ k) (hb : Below B w0 w) : Below B w0 w' :=
  hb.trans ⟨h.os, h.tape, h.output, h.size, fun k hk => h.block k (by omega) (fun hs => by have := hS k hs; omega)⟩
theorem Kept.of_below {S : Nat → Prop} {w w' : World} (h : Below w.heap.size w w') : Kept S w w' := ⟨h.os, h.tape, h.output, h.size, fun k hk _ => h.block k hk⟩
theorem row_lt {w : World} {b : Nat} {o : Obj} (h : w.heap[b]? = some o) : b < w.heap.size := (Array.getElem?_eq_some_iff.1 h).1
theorem Kept.row {S : Nat → Prop} {w w' : World} {b : Nat} {o : Obj} (h : Kept S w w') (hb : w.heap[b]? = some o) (hs : ¬ S b) : w'.heap[b]? = some o := (h.block b (row_lt hb) hs).trans hb
def In1 (r : Nat) (k : Nat) : Prop := k = r
theorem Kept.set1 {r : Nat} {a w : World} (h : Kept (In1 r) a w) (i : Nat) (v : Value) : Kept (In1 r) a (w.setCell ⟨r, i, none⟩ v) := h.setCell (show In1 r r from rfl) v
theorem Kept.mono {S T : Nat → Prop} {a b : World} (h : Kept S a b) (hs : ∀ k, S k → T k) : Kept T a b := ⟨h.os, h.tape, h.output, h.size, fun k hk ht => h.block k hk (fun g => ht (hs k g))⟩
theorem kept_alloc (S : Nat → Prop) (w : World) (o : Obj) : Kept S w (w.alloc o) := Kept.of_below ((Below.refl _ _).alloc (Nat.le_refl _) o)
end Go.Proofs.YtdpemmmbkjmplabGreatDoor
namespace Go.Proofs.YtdpemmmbkjmplabGreatDoor
open Go.RowKit

/-- The cells of bytes. -/
def cellsB (B : ByteArray) : Array Value := (Lib.strCells B).toArray
theorem cellsB_size (B : ByteArray) : (cellsB B).size = B.size := by simp [cellsB, Lib.strCells_length]
theorem cellsB_at {B : ByteArray} {j : Nat} (h : j < B.size) : (cellsB B)[j]? = some (.int .u8 ((B[j]'h).toNat : Int)) := by
  unfold cellsB
  rw [List.getElem?_toArray]
  exact strCells_at h
/-- A plate: its head in block p, its bytes in block q. -/
structure Pl (w : World) (p q : Nat) (B : ByteArray) (l : Int) : Prop where
  ne : p ≠ q
  head : w.heap[p]? = some (.cells #[.slice (some ⟨q, 0, none⟩) B.size B.size, .int .i64 l] 137 (0, 0))
  row : w.heap[q]? = some (.cells (cellsB B) 5 (0, 0))
theorem Pl.kept {S : Nat → Prop} {w w' : World} {p q : Nat} {B : ByteArray} {l : Int} (h : Pl w p q B l) (k : Kept S w w') (hp : ¬ S p) (hq : ¬ S q) : Pl w' p q B l := ⟨h.ne, k.row h.head hp, k.row h.row hq⟩
theorem Pl.c0 {w : World} {p q : Nat} {B : ByteArray} {l : Int} (h : Pl w p q B l) : w.cell? ⟨p, 0, none⟩ = some (.slice (some ⟨q, 0, none⟩) B.size B.size) := by rw [cell_of_row w p 0 _ _ _ h.head]; rfl
theorem Pl.c1 {w : World} {p q : Nat} {B : ByteArray} {l : Int} (h : Pl w p q B l) : w.cell? ⟨p, 1, none⟩ = some (.int .i64 l) := by rw [cell_of_row w p 1 _ _ _ h.head]; rfl
theorem Pl.f1 {w : World} {p q : Nat} {B : ByteArray} {l : Int} (h : Pl w p q B l) : w.frozen? ⟨p, 1, none⟩ = false := frozen_of_row w p 1 _ _ h.head
theorem Pl.set {w : World} {p q : Nat} {B : ByteArray} {l : Int} (h : Pl w p q B l) (l' : Int) : Pl (w.setCell ⟨p, 1, none⟩ (.int .i64 l')) p q B l' :=
  ⟨h.ne, by rw [heap_setCell_same w p 1 _ _ _ h.head]; rfl, by rw [heap_setCell_other w _ q _ (Ne.symm h.ne)]; exact h.row⟩
theorem Pl.drew {w : World} {p q : Nat} {B : ByteArray} {l : Int} (h : Pl w p q B l) : Pl w.drew p q B l := ⟨h.ne, h.head, h.row⟩
/-- The blocks of a plate. -/
def In2 (p q : Nat) (k : Nat) : Prop := k = p ∨ k = q
theorem kept_set {w : World} (p q : Nat) (v : Value) : Kept (In2 p q) w (w.setCell ⟨p, 1, none⟩ v) := (Kept.refl _ w).setCell (.inl rfl) v

theorem power_any (p q : Nat) (B : ByteArray) (l : Int) (w : World) (h : Pl w p q B l) :
    Calls Tryz.prog 67 #[.pointer (some ⟨p, 0, none⟩)] w fun e w' => e = .returned (.bool (l != -2)) ∧ w' = w := by
  have c1 := h.c1
  clear h
  go_enter Tryz.func67, Tryz.ntmps67
  go_wp2
  go_ret
  exact ⟨rfl, rfl⟩
theorem pon_any (p q : Nat) (B : ByteArray) (l : Int) (w : World) (h : Pl w p q B l) :
    Calls Tryz.prog 68 #[.pointer (some ⟨p, 0, none⟩)] w fun e w' => e = .returned (.tuple #[]) ∧ Pl w' p q B (-1) ∧ Kept (In2 p q) w w' := by
  have c1 := h.c1
  have f1 := h.f1
  have H := hid (h.set (-1))
  clear h
  go_enter Tryz.func68, Tryz.ntmps68
  go_wp2
  go_end0
  exact ⟨rfl, H.out, kept_set p q _⟩
theorem poff_any (p q : Nat) (B : ByteArray) (l : Int) (w : World) (h : Pl w p q B l) :
    Calls Tryz.prog 69 #[.pointer (some ⟨p, 0, none⟩)] w fun e w' => e = .returned (.tuple #[]) ∧ Pl w' p q B (-2) ∧ Kept (In2 p q) w w' := by
  have c1 := h.c1
  have f1 := h.f1
  have H := hid (h.set (-2))
  clear h
  go_enter Tryz.func69, Tryz.ntmps69
  go_wp2
  go_end0
  exact ⟨rfl, H.out, kept_set p q _⟩
end Go.Proofs.YtdpemmmbkjmplabGreatDoor
namespace Go.Proofs.YtdpemmmbkjmplabGreatDoor
open Go.RowKit

/-- The error of a place on a plate of n bytes. -/
def pErr (len : Nat) (off : Bool) (at_ n : Int) : Nat := if at_ < 0 ∨ n < 0 ∨ (len : Int) - n < at_ then 2 else if off then 6 else 0
theorem Held9.g1 {w : World} {A : Nat → Addr} (h : Held9 w A) : w.cell? ⟨3, 0, none⟩ = some (.iface 222 (.pointer (some (A 1)))) := h.var 1 (by decide)
theorem Held9.g5 {w : World} {A : Nat → Addr} (h : Held9 w A) : w.cell? ⟨5, 0, none⟩ = some (.iface 222 (.pointer (some (A 5)))) := h.var 5 (by decide)
/-- The variables of package api that plate and journal name hold their errors. -/
structure HeldE (w : World) (A : Nat → Addr) : Prop where
  g1 : w.cell? ⟨3, 0, none⟩ = some (.iface 222 (.pointer (some (A 1))))
  g2 : w.cell? ⟨4, 0, none⟩ = some (.iface 222 (.pointer (some (A 2))))
  g4 : w.cell? ⟨7, 0, none⟩ = some (.iface 222 (.pointer (some (A 4))))
  g5 : w.cell? ⟨5, 0, none⟩ = some (.iface 222 (.pointer (some (A 5))))
theorem HeldE.later {w w' : World} {A : Nat → Addr} (h : HeldE w A) (hb : Below w.heap.size w w') : HeldE w' A := ⟨cell_later hb h.g1, cell_later hb h.g2, cell_later hb h.g4, cell_later hb h.g5⟩
theorem Held9.toE {w : World} {A : Nat → Addr} (h : Held9 w A) : HeldE w A := ⟨h.var 1 (by decide), h.var 2 (by decide), h.var 4 (by decide), h.var 5 (by decide)⟩

theorem pcheck_bound (A : Nat → Addr) (p q : Nat) (B : ByteArray) (l a n : Int) (w : World) (h : Pl w p q B l) (hE : HeldE w A) (hB : B.size ≤ 1000) (hn : n ≤ 9223372036854775807) (hb : a < 0 ∨ n < 0 ∨ (B.size : Int) - n < a) :
    Calls Tryz.prog 115 #[.pointer (some ⟨p, 0, none⟩), .int .i64 a, .int .i64 n] w fun e w' => e = .returned (.iface 222 (.pointer (some (A 1)))) ∧ w' = w := by
  have c0 := h.c0
  have g1 := hE.g1
  clear h hE
  by_cases h1 : a < 0
  · clear hb
    go_enter Tryz.func115, Tryz.ntmps115
    go_wp2
    go_ret
    exact ⟨rfl, rfl⟩
  · by_cases h2 : n < 0
    · clear hb
      go_enter Tryz.func115, Tryz.ntmps115
      go_wp2
      go_ret
      exact ⟨rfl, rfl⟩
    · have h3 : (B.size : Int) - n < a := by omega
      clear hb
      go_enter Tryz.func115, Tryz.ntmps115
      go_wp2
      go_ret
      exact ⟨rfl, rfl⟩
theorem pcheck_in (A : Nat → Addr) (p q : Nat) (B : ByteArray) (l a n : Int) (w : World) (h : Pl w p q B l) (hE : HeldE w A) (hB : B.size ≤ 1000) (hb : ¬ (a < 0 ∨ n < 0 ∨ (B.size : Int) - n < a)) :
    Calls Tryz.prog 115 #[.pointer (some ⟨p, 0, none⟩), .int .i64 a, .int .i64 n] w fun e w' => e = .returned (if l = -2 then .iface 222 (.pointer (some (A 5))) else .nilIface) ∧ w' = w := by
  have H := hid h
  have c0 := h.c0
  have g5 := hE.g5
  have h1 : ¬ a < 0 := fun g => hb (.inl g)
  have h2 : ¬ n < 0 := fun g => hb (.inr (.inl g))
  have h3 : ¬ (B.size : Int) - n < a := fun g => hb (.inr (.inr g))
  clear h hE hb
  by_cases hl : l = -2
  · subst hl
    go_enter Tryz.func115, Tryz.ntmps115
    go_wp2_with (go_at_call 67; refine (power_any p q B _ _ H.out).mono ?_; rintro e w' ⟨rfl, rfl⟩)
    go_ret
    exact ⟨rfl, rfl⟩
  · rw [if_neg hl]
    have hl' : (l != -2) = true := by simpa using hl
    clear hl
    go_enter Tryz.func115, Tryz.ntmps115
    go_wp2_with (go_at_call 67; refine (power_any p q B _ _ H.out).mono ?_; rintro e w' ⟨rfl, rfl⟩)
    go_ret
    exact ⟨rfl, rfl⟩

theorem pspend_zero (p q : Nat) (B : ByteArray) (w : World) (h : Pl w p q B 0) :
    Calls Tryz.prog 153 #[.pointer (some ⟨p, 0, none⟩)] w fun e w' => e = .returned (.bool false) ∧ Pl w' p q B (-2) ∧ Kept (In2 p q) w w' := by
  have H := hid h
  have c1 := h.c1
  clear h
  go_enter Tryz.func153, Tryz.ntmps153
  go_wp2_with (go_at_call 69; refine (poff_any p q B _ _ H.out).mono ?_; rintro e w' ⟨rfl, h1, h2⟩)
  go_ret
  exact ⟨rfl, h1, h2⟩
theorem pspend_pos (p q : Nat) (B : ByteArray) (l : Int) (w : World) (h : Pl w p q B l) (h0 : 0 < l) (h1 : l ≤ 9223372036854775807) :
    Calls Tryz.prog 153 #[.pointer (some ⟨p, 0, none⟩)] w fun e w' => e = .returned (.bool true) ∧ Pl w' p q B (l - 1) ∧ Kept (In2 p q) w w' := by
  have c1 := h.c1
  have f1 := h.f1
  have H := hid (h.set (l - 1))
  clear h
  go_enter Tryz.func153, Tryz.ntmps153
  go_wp2
  go_ret
  exact ⟨rfl, H.out, kept_set p q _⟩
theorem pspend_neg (p q : Nat) (B : ByteArray) (l : Int) (w : World) (h : Pl w p q B l) (h0 : l < 0) :
    Calls Tryz.prog 153 #[.pointer (some ⟨p, 0, none⟩)] w fun e w' => e = .returned (.bool true) ∧ w' = w := by
  have c1 := h.c1
  clear h
  go_enter Tryz.func153, Tryz.ntmps153
  go_wp2
  go_ret
  exact ⟨rfl, rfl⟩

theorem pcut_bound (A : Nat → Addr) (v : Value) (n : Int) (w : World) (hE : HeldE w A) (hn : n < 0) :
    Calls Tryz.prog 87 #[v, .int .i64 n] w fun e w' => e = .returned (.iface 222 (.pointer (some (A 1)))) ∧ w' = w := by
  have g1 := hE.g1
  clear hE
  go_enter Tryz.func87, Tryz.ntmps87
  go_wp2
  go_ret
  exact ⟨rfl, rfl⟩
theorem pcut_off (A : Nat → Addr) (p q : Nat) (B : ByteArray) (n : Int) (w : World) (h : Pl w p q B (-2)) (hE : HeldE w A) (hn : ¬ n < 0) :
    Calls Tryz.prog 87 #[.pointer (some ⟨p, 0, none⟩), .int .i64 n] w fun e w' => e = .returned (.iface 222 (.pointer (some (A 5)))) ∧ w' = w := by
  have H := hid h
  have g5 := hE.g5
  clear hE h
  go_enter Tryz.func87, Tryz.ntmps87
  go_wp2_with (go_at_call 67; refine (power_any p q B _ _ H.out).mono ?_; rintro e w' ⟨rfl, rfl⟩)
  go_ret
  exact ⟨rfl, rfl⟩
theorem pcut_ok (p q : Nat) (B : ByteArray) (l n : Int) (w : World) (h : Pl w p q B l) (hl : ¬ l = -2) (hn : ¬ n < 0) :
    Calls Tryz.prog 87 #[.pointer (some ⟨p, 0, none⟩), .int .i64 n] w fun e w' => e = .returned .nilIface ∧ Pl w' p q B n ∧ Kept (In2 p q) w w' := by
  have H := hid h
  have c1 := h.c1
  have f1 := h.f1
  have H2 := hid (h.set n)
  have hl' : (l != -2) = true := by simpa using hl
  clear h hl
  go_enter Tryz.func87, Tryz.ntmps87
  go_wp2_with (go_at_call 67; refine (power_any p q B _ _ H.out).mono ?_; rintro e w' ⟨rfl, rfl⟩)
  go_ret
  exact ⟨rfl, H2.out, kept_set p q _⟩
end Go.Proofs.YtdpemmmbkjmplabGreatDoor
namespace Go.Proofs.YtdpemmmbkjmplabGreatDoor
open Go.RowKit

def zeroB (n : Nat) : ByteArray := ⟨(List.replicate n 0).toArray⟩
theorem zeroB_size (n : Nat) : (zeroB n).size = n := by rw [size_list]; simp [zeroB]
theorem Tryz.infoB : (Tryz.prog.info? 5).map (fun i => (i.zero, i.size, i.bytes)) = some (some (.int .u8 0), 1, 1) := by kernel_rfl
theorem made_zero (n : Nat) : madeCells (Value.int .u8 0).cells n = cellsB (zeroB n) := by
  apply Array.ext'
  rw [show (Value.int .u8 0).cells = #[.int .u8 0] from rfl, toList_madeCells_one]
  simp [cellsB, Lib.strCells, zeroB]
theorem mkB (n : Nat) (h : n ≤ 1000) (w : World) : (Instr.makeSlice 135 (.int .i64 n) (.int .i64 n)).run Tryz.prog w = .ok (.slice (some ⟨w.heap.size, 0, none⟩) n n) (w.alloc (.cells (cellsB (zeroB n)) 5)) := by
  obtain ⟨i0, hi, hz0, hz1, hz2⟩ := info_parts Tryz.infoB
  have hr := run_make (P := Tryz.prog) w 135 5 i0 _ Tryz.underlying135 hi hz0 .i64 .i64 n n (by omega) (Int.le_refl _) (by rw [hz2]; omega) (by omega)
  simp only [Int.toNat_natCast, hz1, Nat.mul_one, made_zero] at hr
  exact hr

theorem pnew_bound (A : Nat → Addr) (n : Int) (w : World) (hE : HeldE w A) (h : n < 0 ∨ 512 < n) :
    Calls Tryz.prog 38 #[.int .i64 n] w fun e w' => e = .returned (.tuple #[.pointer none, .iface 222 (.pointer (some (A 1)))]) ∧ Below w.heap.size w w' := by
  have g1 := hE.g1
  clear hE
  by_cases h1 : n < 0
  · clear h
    go_enter Tryz.func38, Tryz.ntmps38
    go_wp2
    go_quiet (fail)
    go_wp2
    go_ret2
    exact ⟨rfl, below_drewN (Below.refl _ _) _⟩
  · have h2 : 512 < n := by omega
    clear h
    go_enter Tryz.func38, Tryz.ntmps38
    go_wp2
    go_quiet (fail)
    go_wp2
    go_ret2
    exact ⟨rfl, below_drewN (Below.refl _ _) _⟩
theorem pl_new (w : World) (n : Nat) : Pl ((w.alloc (.cells (cellsB (zeroB n)) 5)).alloc (.cells #[.slice (some ⟨w.heap.size, 0, none⟩) n n, .int .i64 (-1)] 137)) (w.heap.size + 1) w.heap.size (zeroB n) (-1) :=
  ⟨by omega, by rw [heap_alloc2_new, zeroB_size], heap_alloc2_old w _ _⟩
theorem pnew_ok (n : Nat) (w : World) (h : n ≤ 512) :
    Calls Tryz.prog 38 #[.int .i64 n] w fun e w' => e = .returned (.tuple #[.pointer (some ⟨w.heap.size + 1, 0, none⟩), .nilIface]) ∧ Pl w' (w.heap.size + 1) w.heap.size (zeroB n) (-1) ∧ Below w.heap.size w w' ∧ w'.heap.size = w.heap.size + 2 := by
  have hmk := mkB n (by omega)
  have H := hid (pl_new w n)
  go_enter Tryz.func38, Tryz.ntmps38
  go_wp2
  go_ret2
  exact ⟨rfl, H.out, ((Below.refl _ _).alloc (Nat.le_refl _) _).alloc (by simp) _, by simp⟩
end Go.Proofs.YtdpemmmbkjmplabGreatDoor
namespace Go.Proofs.YtdpemmmbkjmplabGreatDoor
open Go.RowKit

theorem Pl.put {w : World} {p q : Nat} {B s : ByteArray} {a k : Nat} {l : Int} (h : Pl w p q (putB B a s k) l) (ha : a + k < B.size) (hk : k < s.size) :
    Pl (w.setCell ⟨q, a + k, none⟩ (.int .u8 ((s[k]'hk).toNat : Int))) p q (putB B a s (k + 1)) l := by
  refine ⟨h.ne, ?_, ?_⟩
  · rw [heap_setCell_other w _ p _ h.ne, h.head, size_putB (by omega) (by omega), size_putB (by omega) (by omega)]
  · rw [heap_setCell_same w q (a + k) _ _ _ h.row]
    unfold cellsB
    rw [putB_succ ha hk]
theorem Pl.bytes {w : World} {p q : Nat} {B s : ByteArray} {a k : Nat} {l : Int} (h : Pl w p q (putB B a s k) l) (ha : a + k ≤ B.size) (hk : k ≤ s.size) : w.cell? ⟨p, 0, none⟩ = some (.slice (some ⟨q, 0, none⟩) B.size B.size) := by
  rw [h.c0, size_putB ha hk]
theorem Pl.cq {w : World} {p q : Nat} {B : ByteArray} {j : Nat} {l : Int} (h : Pl w p q B l) (hj : j < B.size) : w.cell? ⟨q, j, none⟩ = some (.int .u8 ((B[j]'hj).toNat : Int)) := by
  rw [cell_of_row w q j _ _ _ h.row, cellsB_at hj]
theorem Pl.fq {w : World} {p q : Nat} {B : ByteArray} {l : Int} (h : Pl w p q B l) (j : Nat) : w.frozen? ⟨q, j, none⟩ = false := frozen_of_row w q j _ _ h.row

theorem pwrite_bound (A : Nat → Addr) (p q : Nat) (B s : ByteArray) (l a : Int) (w : World) (h : Pl w p q B l) (hE : HeldE w A) (hB : B.size ≤ 1000) (hs : s.size ≤ 1000) (hb : a < 0 ∨ (B.size : Int) - s.size < a) :
    Calls Tryz.prog 149 #[.pointer (some ⟨p, 0, none⟩), .int .i64 a, .string s] w fun e w' => e = .returned (.iface 222 (.pointer (some (A 1)))) ∧ w' = w := by
  have H := hid h
  have HE := hid hE
  clear h hE
  go_enter Tryz.func149, Tryz.ntmps149
  go_wp2_with (go_at_call 115; refine (pcheck_bound A p q B l _ _ _ H.out HE.out hB (by omega) (by omega)).mono ?_; rintro e w' ⟨rfl, rfl⟩)
  go_ret
  exact ⟨rfl, rfl⟩
theorem pwrite_off (A : Nat → Addr) (p q : Nat) (B s : ByteArray) (a : Int) (w : World) (h : Pl w p q B (-2)) (hE : HeldE w A) (hB : B.size ≤ 1000) (hs : s.size ≤ 1000) (hb : ¬ (a < 0 ∨ (B.size : Int) - s.size < a)) :
    Calls Tryz.prog 149 #[.pointer (some ⟨p, 0, none⟩), .int .i64 a, .string s] w fun e w' => e = .returned (.iface 222 (.pointer (some (A 5)))) ∧ w' = w := by
  have H := hid h
  have HE := hid hE
  clear h hE
  go_enter Tryz.func149, Tryz.ntmps149
  go_wp2_with (go_at_call 115; refine (pcheck_in A p q B _ _ _ _ H.out HE.out hB (by omega)).mono ?_; rw [if_pos rfl]; rintro e w' ⟨rfl, rfl⟩)
  go_ret
  exact ⟨rfl, rfl⟩

set_option maxHeartbeats 1000000 in
/-- No cut ahead: all is written. -/
theorem pwrite_free (A : Nat → Addr) (p q : Nat) (B s : ByteArray) (a : Nat) (l : Int) (w : World) (h : Pl w p q B l) (hE : HeldE w A) (hB : B.size ≤ 1000) (ha : a + s.size ≤ B.size) (hl : l < 0) (hl2 : ¬ l = -2) :
    Calls Tryz.prog 149 #[.pointer (some ⟨p, 0, none⟩), .int .i64 a, .string s] w fun e w' => e = .returned .nilIface ∧ Pl w' p q (putB B a s s.size) l ∧ Kept (In2 p q) w w' := by
  have H := hid h
  have HE := hid hE
  have HL := hid hl2
  clear h hE hl2
  go_enter Tryz.func149, Tryz.ntmps149
  go_wp2_with (go_at_call 115; refine (pcheck_in A p q B _ _ _ _ H.out HE.out hB (by omega)).mono ?_; rw [if_neg HL.out]; rintro e wx ⟨rfl, hx⟩; subst wx)
  go_loopw [19] (fun i wr => ∃ k : Nat, k ≤ s.size ∧ i = .int .i64 k ∧ Pl wr p q (putB B a s k) l ∧ Kept (In2 p q) w wr) (fun i _ => s.size - (intOf i).toNat)
  case atStart => exact ⟨0, Nat.zero_le _, rfl, by rw [putB_zero]; exact H.out, Kept.refl _ _⟩
  case round =>
    obtain ⟨k, hk, rfl, hP, hK⟩ := hrel
    have HP := hid hP
    have HK := hid hK
    clear hP hK
    by_cases hlt : k < s.size
    · have c0 := HP.out.bytes (by omega) (by omega)
      have cq := HP.out.cq (j := a + k) (by rw [size_putB (by omega) (by omega)]; omega)
      have fq := HP.out.fq (a + k)
      go_wp2_with (go_at_call 153; refine (pspend_neg p q _ l _ HP.out hl).mono ?_; rintro e wx ⟨rfl, hx⟩; subst wx)
      go_region
      all_goals go_wp2
      all_goals go_roundw
      case rel => exact ⟨k + 1, by omega, by go_num, (HP.out.put (by omega) hlt).drew, (HK.out.setCell (.inr rfl) _).drew⟩
      case measure => simp [intOf]; omega
    · obtain rfl : k = s.size := by omega
      go_wp2
      go_ret
      exact ⟨rfl, HP.out, HK.out⟩
end Go.Proofs.YtdpemmmbkjmplabGreatDoor
namespace Go.Proofs.YtdpemmmbkjmplabGreatDoor
open Go.RowKit

/-- 'copy(bytes, text)', both of one length: the row is the text's. -/
theorem run_copy_str {P : Program} {w : World} (dT sT ty elem : TypeId) (hu : P.underlying dT = some (.slice elem)) (hsz : (P.info? elem).map (·.size) = some 1)
    (g cap : Nat) (x : ByteArray) (cur : Array Value) (t : TypeId) (hg : w.heap[g]? = some (.cells cur t (0, 0))) (hfit : cur.size = x.size) :
    (Builtin.copy_ #[dT, sT] ty #[.slice (some ⟨g, 0, none⟩) x.size cap, .string x]).run P w = .ok (goInt x.size) (w.setRow g (cellsB x)) := by
  have hf := Lib.run_firstCells_string (P := P) w 1 x
  have hst := run_storeCells_at P g 0 t (Lib.strCells x) 0 cur w hg (by rw [Lib.strCells_length]; omega) (Lib.strCells_oneCell x)
  rw [Lib.strCells_length] at hst
  have e : cur.toList.drop (0 + 0 + x.size) = [] := List.drop_eq_nil_of_le (by simp; omega)
  rw [e] at hst
  simp only [Nat.add_zero, List.take_zero, List.nil_append, List.append_nil] at hst
  cases hq : P.info? elem with
  | none => simp [hq] at hsz
  | some i =>
    have hi : i.size = 1 := by simpa [hq] using hsz
    simp [Builtin.copy_, run_underlying hu, Builtin.lenOf, sizeOf, typeInfo, hq, hi, hf, hst, cellsB]
theorem byteSize : (Tryz.prog.info? 5).map (·.size) = some 1 := by kernel_rfl
theorem Pl.row_set {w : World} {p q : Nat} {B s : ByteArray} {l : Int} (h : Pl w p q B l) (hs : s.size = B.size) : Pl (w.setRow q (cellsB s)) p q s l :=
  ⟨h.ne, by rw [setRow_other w q p _ h.ne, h.head, hs], setRow_heap w q _ _ _ _ h.row⟩
theorem kept_setRow {w : World} (p q : Nat) (cs : Array Value) : Kept (In2 p q) w (w.setRow q cs) := ⟨rfl, rfl, rfl, by simp, fun k _ hk => setRow_other w q k cs (fun e => hk (.inr e))⟩

theorem pfrom_bound (A : Nat → Addr) (s : ByteArray) (w : World) (hE : HeldE w A) (h : 512 < s.size) (h2 : s.size ≤ 9223372036854775807) :
    Calls Tryz.prog 96 #[.string s] w fun e w' => e = .returned (.tuple #[.pointer none, .iface 222 (.pointer (some (A 1)))]) ∧ Below w.heap.size w w' := by
  have HE := hid hE
  clear hE
  go_enter Tryz.func96, Tryz.ntmps96
  go_wp2_with (go_at_call 38; refine (pnew_bound A _ _ HE.out (by omega)).mono ?_; rintro e w1 ⟨rfl, hb⟩)
  go_ret2
  exact ⟨rfl, hb⟩
set_option maxRecDepth 100000 in
theorem pfrom_ok (s : ByteArray) (w : World) (h : s.size ≤ 512) :
    Calls Tryz.prog 96 #[.string s] w fun e w' => e = .returned (.tuple #[.pointer (some ⟨w.heap.size + 1, 0, none⟩), .nilIface]) ∧ Pl w' (w.heap.size + 1) w.heap.size s (-1) ∧ Below w.heap.size w w' ∧ w'.heap.size = w.heap.size + 2 := by
  go_enter Tryz.func96, Tryz.ntmps96
  go_wp2_with (go_at_call 38; refine (pnew_ok _ _ h).mono ?_; rintro e w1 ⟨rfl, hP, hb, hsz⟩; have c0 := hP.c0; rw [zeroB_size] at c0; have hcp := fun ty => run_copy_str (P := Tryz.prog) 135 9 ty 5 Tryz.underlying135 byteSize w.heap.size s.size s _ _ hP.row (by rw [cellsB_size, zeroB_size]))
  go_ret2
  exact ⟨rfl, hP.row_set (zeroB_size _).symm, Kept.below (kept_setRow (w.heap.size + 1) w.heap.size _) hb.size (fun k hk => by unfold In2 at hk; omega) hb, by simpa using hsz⟩

/-- 'string(bytes[o : o+n])'. -/
theorem conv_cut {w : World} {p q : Nat} {B : ByteArray} {l : Int} (h : Pl w p q B l) (o n cap : Nat) (hn : o + n ≤ B.size) :
    (convert 135 9 (.slice (some ⟨q, o, none⟩) n cap)).run Tryz.prog w = .ok (.string (B.extract o (o + n))) w := by
  have hl : ((B.extract o (o + n)).data.toList).length = n := by
    rw [ext_list]
    rw [size_list] at hn
    simp only [List.length_take, List.length_drop]
    omega
  have := run_convert_bytes_back (P := Tryz.prog) w 135 9 5 ⟨q, o, none⟩ cap (B.extract o (o + n)).data.toList Tryz.underlying135 Tryz.underlying5 Tryz.underlying9 (fun j hj => by
    rw [hl] at hj
    rw [Addr.add_lit, h.cq (by omega), getB (by omega)]
    congr 3
    simp only [ext_list, List.getElem_take, List.getElem_drop])
  rw [hl] at this
  rw [this]
theorem conv_all {w : World} {p q : Nat} {B : ByteArray} {l : Int} (h : Pl w p q B l) :
    (convert 135 9 (.slice (some ⟨q, 0, none⟩) B.size B.size)).run Tryz.prog w = .ok (.string B) w := by
  have := conv_cut h 0 B.size B.size (by omega)
  rw [Nat.zero_add, show B.extract 0 B.size = B by simp] at this
  exact this
theorem pbytes_any (p q : Nat) (B : ByteArray) (l : Int) (w : World) (h : Pl w p q B l) :
    Calls Tryz.prog 97 #[.pointer (some ⟨p, 0, none⟩)] w fun e w' => e = .returned (.string B) ∧ w' = w := by
  have c0 := h.c0
  have hc := conv_all h
  clear h
  go_enter Tryz.func97, Tryz.ntmps97
  go_wp2
  go_ret
  exact ⟨rfl, rfl⟩
end Go.Proofs.YtdpemmmbkjmplabGreatDoor
