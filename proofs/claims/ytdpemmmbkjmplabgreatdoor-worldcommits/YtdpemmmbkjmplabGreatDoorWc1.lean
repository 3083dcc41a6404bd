/-
  PLAIN: one deal, where all comes, nobody falls, and nobody ticks (after GRAY): each delivery, one behind the other.
  PLAIN: where all comes, nobody falls, and nobody ticks: what nobody refuses is committed at all sites, what somebody refuses is aborted at all.
  THE LAW WorldCommits, along its loops.
  THE LAW WorldCommits, walked.
  A slice of integers that came in.
  WHAT THE CELL 'laid' GIVES THE WALKS: each listed error variable holds a pointer of its own to a string, no two the same.
  FROM 'laid' TO WHAT THE WALKS ASK: package api's nine error variables hold nine different errors, errors.errorType its handle; the door's own heap meets the condition (the witness).
-/
import Derived.Test.YtdpemmmbkjmplabGreatDoorBa11
import Derived.Test.YtdpemmmbkjmplabGreatDoorBa13
import Derived.Test.YtdpemmmbkjmplabGreatDoorBa7
import Derived.Test.YtdpemmmbkjmplabGreatDoorBa6
import Derived.Test.YtdpemmmbkjmplabGreatDoorRows
import Derived.Test.YtdpemmmbkjmplabGreatDoorBa2
import Derived.WalkKit
import Derived.ProofKit
import Derived.LaidLaws
import Derived.LaidMore
import Derived.LaidSub
import Derived.LaidHandle
import Derived.MakeChecks
namespace Go.Proofs.YtdpemmmbkjmplabGreatDoor
open Go.RowKit

/-- How many of the first k states are final. -/
def cnt (st : Nat → St) : Nat → Nat
  | 0 => 0
  | k + 1 => cnt st k + if finB (st k).ph = true then 1 else 0
theorem cnt_le (st : Nat → St) : ∀ k, cnt st k ≤ k
  | 0 => Nat.le_refl _
  | k + 1 => by have := cnt_le st k; unfold cnt; split <;> omega
theorem cnt_same {st st' : Nat → St} : ∀ {k : Nat}, (∀ i, i < k → (st' i).ph = (st i).ph) → cnt st' k = cnt st k
  | 0, _ => rfl
  | k + 1, h => by unfold cnt; rw [cnt_same fun i hi => h i (by omega), h k (by omega)]
theorem cnt_upd (st : Nat → St) (i : Nat) (t : St) : ∀ k, i < k → cnt (upd st i t) k + (if finB (st i).ph = true then 1 else 0) = cnt st k + if finB t.ph = true then 1 else 0
  | 0, h => absurd h (Nat.not_lt_zero _)
  | k + 1, h => by
    unfold cnt
    by_cases e : i = k
    · subst e
      rw [upd_at, cnt_same (st := st) fun j hj => by rw [upd_ne _ _ _ (by omega)]]
      omega
    · have := cnt_upd st i t k (by omega)
      rw [upd_ne _ _ _ (by omega : k ≠ i)]
      omega
theorem cnt_all {st : Nat → St} : ∀ {k : Nat}, (∀ i, i < k → finB (st i).ph = true) → cnt st k = k
  | 0, _ => rfl
  | k + 1, h => by unfold cnt; rw [cnt_all fun i hi => h i (by omega), if_pos (h k (by omega))]
/-- A world in which all is well: one deal's states, its lead, what is on its way; each end so far is p. -/
structure CW (zs : List Int) (d s p : Nat) (rf : Nat → Bool) (V : PX) (m : Nat) (st : Nat → St) (P : PL) (fly : List F9) : Prop where
  xi : XI zs V m
  l : ∀ i, i < zs.length → (V.nd i).l = -1
  r : ∀ i, i < zs.length → (V.nd i).R d = rf i
  ec : V.evs.length = cnt st zs.length
  ev : ∀ e, e ∈ V.evs → e.d = (d : Int) ∧ e.p = (p : Int)
  st : ∀ i, i < zs.length → stN (V.nd i) d = st i
  ld : (V.nd s).ld d = some (0, P)
  br : ∀ a b, V.br a b = false
  fly : V.fly = fly
section
variable {zs : List Int} {d s p m : Nat} {rf : Nat → Bool} {V : PX} {st : Nat → St} {P : PL} {rest : List F9} {f : F9}
theorem CW.reach (h : CW zs d s p rf V m st P (f :: rest)) (hi : f.t.toNat < zs.length) : reachB V f = true := by
  unfold reachB brX upN
  rw [h.l _ hi, h.br]
  simp
theorem CW.take (h : CW zs d s p rf V m st P (f :: rest)) : (takeX V 0).fly = rest := by
  show V.fly.eraseIdx 0 = rest
  rw [h.fly]
  rfl
set_option maxHeartbeats 1000000 in
/-- A site hears the first frame. -/
theorem CW.site (h : CW zs d s p rf V m st P (f :: rest)) (hm : m < 1000000) (hd : f.d = (d : Int)) {i : Nat} (ht : f.t = (i : Int)) (hi : i < zs.length) (hk : isAns f.k = false)
    (hfin : finB (hearL (st i) (rf i) f.k.toNat f.a.toNat f.ph.toNat).st.ph = true → (hearL (st i) (rf i) f.k.toNat f.a.toNat f.ph.toNat).st.ph = p) :
    CW zs d s p rf (deliverX zs V 0 f) (m + 2) (upd st i (hearL (st i) (rf i) f.k.toNat f.a.toNat f.ph.toNat).st) P (rest ++ (if (hearL (st i) (rf i) f.k.toNat f.a.toNat f.ph.toNat).k ≠ 0 then [ansF i f (hearL (st i) (rf i) f.k.toNat f.a.toNat f.ph.toNat)] else [])) := by
  have hti : f.t.toNat = i := by rw [ht]; exact Int.toNat_natCast i
  have hdi : f.d.toNat = d := by rw [hd]; exact Int.toNat_natCast d
  have hmem : f ∈ V.fly := by rw [h.fly]; exact List.mem_cons_self
  have hF := h.xi.fr f hmem
  have hX1 : XI zs (takeX V 0) m := h.xi.take
  have hu : ((takeX V 0).nd i).l ≠ -2 := by show (V.nd i).l ≠ -2; rw [h.l i hi]; decide
  have hh := hearN_hf (hX1.nd i hi) hu hF (by omega)
  have hsti : stN ((takeX V 0).nd i) f.d.toNat = st i := by rw [hdi]; exact h.st i hi
  have hg : gHN ((takeX V 0).nd i) f = hearL (st i) (rf i) f.k.toNat f.a.toNat f.ph.toNat := by
    unfold gHN
    rw [hsti, hdi, show ((takeX V 0).nd i).R d = rf i from h.r i hi]
  have hNI := hX1.nd i hi
  have hfree := put_free (B := ((takeX V 0).nd i).B) (d := d) (s := (hearL (st i) (rf i) f.k.toNat f.a.toNat f.ph.toNat).st) (by have := hNI.sz; omega) (by have := hF.ok.2.2.1; omega) (by have := hNI.nm d (by have := hF.ok.2.2.1; omega); have h2 : (dealL ((takeX V 0).nd i).B.data.toList d).1 ≤ m := this; omega)
  have hov : ((takeX V 0).nd i).over = false := hNI.up hu
  have hl1 : ((takeX V 0).nd i).l = -1 := h.l i hi
  have hgood := hh.good
  rw [hg] at hgood
  have hput : oHN ((takeX V 0).nd i) f = putIn (dealL ((takeX V 0).nd i).B.data.toList) ((takeX V 0).nd i).B (-1) d (hearL (st i) (rf i) f.k.toNat f.a.toNat f.ph.toNat).st := by
    unfold oHN
    rw [hg, hov, hl1, hdi]
    unfold pOut
    rw [if_neg (by decide), if_pos ⟨by have := hF.ok.2.2.1; omega, good_fits hgood⟩]
    simp only [Int.toNat_natCast]
    rfl
  have hc : (oHN ((takeX V 0).nd i) f).c = 0 := by rw [hput]; exact hfree.1
  have hlo : (oHN ((takeX V 0).nd i) f).l = -1 := by rw [hput]; exact hfree.2
  have hN : hearN ((takeX V 0).nd i) f = { (takeX V 0).nd i with B := (oHN ((takeX V 0).nd i) f).b, l := (oHN ((takeX V 0).nd i) f).l, over := (oHN ((takeX V 0).nd i) f).over } := by
    unfold hearN
    rw [if_neg (by omega)]
  have hans : ansN i ((takeX V 0).nd i) f = if (hearL (st i) (rf i) f.k.toNat f.a.toNat f.ph.toNat).k ≠ 0 then [ansF i f (hearL (st i) (rf i) f.k.toNat f.a.toNat f.ph.toNat)] else [] := by
    unfold ansN
    rw [hg]
    by_cases hk0 : (hearL (st i) (rf i) f.k.toNat f.a.toNat f.ph.toNat).k ≠ 0
    · rw [if_pos ⟨hc, hk0⟩, if_pos hk0]
      rfl
    · rw [if_neg (fun x => hk0 x.2), if_neg hk0]
  have hdel : deliverX zs V 0 f = sendX (hearX (takeX V 0) i f) (ansN i ((takeX V 0).nd i) f) := by
    unfold deliverX arriveX arriveO
    rw [if_pos (h.reach (by omega)), if_neg (by rw [hk]; decide), if_neg (by rw [hk]; decide), hti]
  have hsd : ∀ k, k < zs.length → stN ((hearX (takeX V 0) i f).nd k) d = upd st i (hearL (st i) (rf i) f.k.toNat f.a.toNat f.ph.toNat).st k := by
    intro k hk
    have := congrFun (hearX_st (V := takeX V 0) (i := i) hh hc) k
    rw [hdi] at this
    have h2 : stN ((hearX (takeX V 0) i f).nd k) d = upd (stD (takeX V 0) d) i (gHN ((takeX V 0).nd i) f).st k := this
    rw [h2, hg]
    unfold upd
    split
    · rfl
    · exact h.st k hk
  have hXh := hX1.hear hu hF (by omega) hi
  have hfi : ∀ x, x ∈ ansN i ((takeX V 0).nd i) f → FI zs.length x := ansN_fi (hX1.nd i hi) hu hF (by omega) (by rw [ht])
  have hXs := XI.send hXh hfi (by rw [hans]; split <;> simp)
  rw [hdel, ← hans]
  have hmay := hh.may
  rw [hsti, hg] at hmay
  have hev : (hearX (takeX V 0) i f).evs = noteE V.evs i d (st i).ph (hearL (st i) (rf i) f.k.toNat f.a.toNat f.ph.toNat).st.ph := by
    show noteE V.evs i f.d.toNat (stN ((takeX V 0).nd i) f.d.toNat).ph (stN (hearN ((takeX V 0).nd i) f) f.d.toNat).ph = _
    rw [hsti, hh.yes hc, hg, hdi]
  have hcu := cnt_upd st i (hearL (st i) (rf i) f.k.toNat f.a.toNat f.ph.toNat).st zs.length hi
  have hcl := cnt_le st zs.length
  have n7 := (errW_zero h.xi.he).2.1
  have hWl : ∀ k, k < zs.length → ((hearX (takeX V 0) i f).nd k).l = -1 := by
    intro k hk
    show ((setNd (takeX V 0) i (hearN ((takeX V 0).nd i) f)).nd k).l = -1
    by_cases e : k = i
    · subst e; rw [nd_at, hN]; exact hlo
    · rw [nd_ne _ _ _ e]; exact h.l k hk
  have hWr : ∀ k, k < zs.length → ((hearX (takeX V 0) i f).nd k).R d = rf k := by
    intro k hk
    show ((setNd (takeX V 0) i (hearN ((takeX V 0).nd i) f)).nd k).R d = rf k
    by_cases e : k = i
    · subst e; rw [nd_at, hN]; exact h.r k hk
    · rw [nd_ne _ _ _ e]; exact h.r k hk
  have hWd : ((hearX (takeX V 0) i f).nd s).ld d = some (0, P) := by
    show ((setNd (takeX V 0) i (hearN ((takeX V 0).nd i) f)).nd s).ld d = some (0, P)
    by_cases e : s = i
    · subst e; rw [nd_at, hN]; exact h.ld
    · rw [nd_ne _ _ _ e]; exact h.ld
  have hWb : ∀ a b, (hearX (takeX V 0) i f).br a b = false := h.br
  have hWf : (hearX (takeX V 0) i f).fly = rest := h.take
  generalize hearX (takeX V 0) i f = W at *
  generalize ansN i ((takeX V 0).nd i) f = L at *
  clear hN hput hh hfree hXh hfi hdel hNI
  generalize hO : (hearL (st i) (rf i) f.k.toNat f.a.toNat f.ph.toNat).st = o at *
  have hlen : W.evs.length = cnt (upd st i o) zs.length := by
    rw [hev]
    unfold noteE
    have hec := h.ec
    unfold mayN at hmay
    split
    · rename_i hcnd
      have hf2 : finB (st i).ph = false := by
        refine decide_eq_false fun x => hcnd.1 ?_
        omega
      rw [if_neg (by rw [hf2]; decide), if_pos hcnd.2.1] at hcu
      rw [List.length_append, List.length_singleton]
      omega
    · rename_i hcnd
      by_cases hof : finB o.ph = true
      · have heq : o.ph = (st i).ph := by
          refine Classical.byContradiction fun x => hcnd ⟨x, hof, ?_⟩
          omega
        rw [← heq, if_pos hof] at hcu
        omega
      · have hof2 : finB (st i).ph = false := by
          refine decide_eq_false fun x => hof (decide_eq_true ?_)
          omega
        rw [if_neg hof, if_neg (by rw [hof2]; decide)] at hcu
        omega
  have hevs : ∀ e, e ∈ W.evs → e.d = (d : Int) ∧ e.p = (p : Int) := by
    intro e he
    rw [hev] at he
    unfold noteE at he
    split at he
    · rename_i hcnd
      rcases List.mem_append.1 he with x | x
      · exact h.ev e x
      · rw [List.mem_singleton] at x
        subst x
        exact ⟨rfl, by show (o.ph : Int) = p; rw [hfin hcnd.2.1]⟩
    · exact h.ev e he
  exact ⟨hXs, hWl, hWr, hlen, hevs, hsd, hWd, hWb, by show W.fly ++ L = rest ++ L; rw [hWf]⟩
/-- The lead hears the first frame. -/
theorem CW.lead (h : CW zs d s p rf V m st P (f :: rest)) (hd : f.d = (d : Int)) (ht : f.t = (s : Int)) (hs : s < zs.length) (hk : isAns f.k = true) :
    CW zs d s p rf (deliverX zs V 0 f) (m + 1) st (phear zs s d 0 P f).1 (rest ++ outL s d 0 zs.length (phear zs s d 0 P f).2) := by
  have hti : f.t.toNat = s := by rw [ht]; exact Int.toNat_natCast s
  have hdi : f.d.toNat = d := by rw [hd]; exact Int.toNat_natCast d
  have hmem : f ∈ V.fly := by rw [h.fly]; exact List.mem_cons_self
  have hF := h.xi.fr f hmem
  have hX1 : XI zs (takeX V 0) m := h.xi.take
  have hx : ((takeX V 0).nd s).ld d = some (0, P) := h.ld
  have hdel : deliverX zs V 0 f = sendX (leadX zs (takeX V 0) s d f) (leadO zs (takeX V 0) s d f) := by
    unfold deliverX arriveX arriveO
    rw [if_pos (h.reach (by omega)), if_pos hk, if_pos hk, hti, hdi]
  have hXl := hX1.lead hF hs (d := d) (by have := hF.ok.2.2.1; omega)
  rw [hdel]
  have e1 := (leadX_some (zs := zs) (f := f) hx).1
  have e2 := (leadX_some (zs := zs) (f := f) hx).2
  rw [e1, e2] at hXl ⊢
  generalize (phear zs s d 0 P f).1 = Q at *
  have keep : ∀ k, (setNd (takeX V 0) s (setLd ((takeX V 0).nd s) d (0, Q))).nd k = if k = s then setLd (V.nd s) d (0, Q) else V.nd k := fun _ => rfl
  refine ⟨hXl, fun k hk => ?_, fun k hk => ?_, h.ec, h.ev, fun k hk => ?_, ?_, h.br, ?_⟩
  · show ((setNd (takeX V 0) s (setLd ((takeX V 0).nd s) d (0, Q))).nd k).l = -1
    rw [keep]
    split
    · exact h.l s hs
    · exact h.l k hk
  · show ((setNd (takeX V 0) s (setLd ((takeX V 0).nd s) d (0, Q))).nd k).R d = rf k
    rw [keep]
    split
    · rename_i e; rw [e]; exact h.r s hs
    · exact h.r k hk
  · show stN ((setNd (takeX V 0) s (setLd ((takeX V 0).nd s) d (0, Q))).nd k) d = st k
    rw [keep]
    split
    · rename_i e; rw [e]; exact h.st s hs
    · exact h.st k hk
  · show ((setNd (takeX V 0) s (setLd ((takeX V 0).nd s) d (0, Q))).nd s).ld d = _
    rw [nd_at, ld_at]
  · show (takeX V 0).fly ++ _ = _
    rw [h.take]
end
end Go.Proofs.YtdpemmmbkjmplabGreatDoor
namespace Go.Proofs.YtdpemmmbkjmplabGreatDoor
open Go.RowKit

def frsL (g : Nat → F9) (k : Nat) : List F9 := (List.range k).map g
def sufL (g : Nat → F9) (k n : Nat) : List F9 := ((List.range n).map g).drop k
theorem frsL_succ (g : Nat → F9) (k : Nat) : frsL g (k + 1) = frsL g k ++ [g k] := by simp [frsL, List.range_succ]
theorem sufL_zero (g : Nat → F9) (n : Nat) : sufL g 0 n = frsL g n := rfl
theorem sufL_nil (g : Nat → F9) (n : Nat) : sufL g n n = [] := by unfold sufL; exact List.drop_eq_nil_of_le (by simp)
theorem sufL_cons (g : Nat → F9) {k n : Nat} (h : k < n) : sufL g k n = g k :: sufL g (k + 1) n := by
  unfold sufL
  rw [List.drop_eq_getElem_cons (by simpa using h)]
  simp
theorem toL_frs (id : Nat) (deal kind att ph : Int) : ∀ n, toL id deal kind att ph n = frsL (fun k => ⟨id, k, deal, kind, att, false, ph, 0, 0⟩) n
  | 0 => rfl
  | n + 1 => by rw [toL, toL_frs id deal kind att ph n, frsL_succ]
/-- The end: nothing on its way; all have the phase p, and so has each of n events; the lead is done. -/
def FinC (zs : List Int) (d s p : Nat) (V : PX) : Prop := V.fly = [] ∧ (∀ i, i < zs.length → (stN (V.nd i) d).ph = p) ∧ V.evs.length = zs.length ∧ (∀ e, e ∈ V.evs → e.d = (d : Int) ∧ e.p = (p : Int)) ∧ ∃ P, (V.nd s).ld d = some (0, P) ∧ P.stt = 2
/-- The end is r deliveries off. -/
def GoC (zs : List Int) (d s p : Nat) : Nat → PX → Prop
  | 0, V => FinC zs d s p V
  | r + 1, V => ∃ f rest, V.fly = f :: rest ∧ GoC zs d s p r (deliverX zs V 0 f)
def GoB (zs : List Int) (d s p b : Nat) (V : PX) : Prop := ∃ r, r ≤ b ∧ GoC zs d s p r V
section
variable {zs : List Int} {d s p m : Nat} {rf : Nat → Bool} {V : PX} {st : Nat → St} {P : PL}
theorem GoB.step {b : Nat} {f : F9} {rest : List F9} (hf : V.fly = f :: rest) (h : GoB zs d s p b (deliverX zs V 0 f)) : GoB zs d s p (b + 1) V := by
  obtain ⟨r, h1, h2⟩ := h
  exact ⟨r + 1, by omega, f, rest, hf, h2⟩
theorem GoB.mono {b c : Nat} (h : GoB zs d s p b V) (hb : b ≤ c) : GoB zs d s p c V := by
  obtain ⟨r, h1, h2⟩ := h
  exact ⟨r, by omega, h2⟩
def decF (s d p : Nat) (i : Nat) : F9 := ⟨s, i, d, 7, 0, false, p, 0, 0⟩
def askF (s d : Nat) (i : Nat) : F9 := ⟨s, i, d, 1, 0, false, 0, 0, 0⟩
def preF (s d : Nat) (i : Nat) : F9 := ⟨s, i, d, 5, 0, false, 4, 0, 0⟩
def ackF (s d : Nat) (i : Nat) : F9 := ⟨i, s, d, 6, 0, true, 4, 0, 0⟩
def votF (s d : Nat) (rf : Nat → Bool) (i : Nat) : F9 := ⟨i, s, d, 2, 0, !rf i, if rf i = true then 3 else 1, 0, 0⟩
/-- All decide. -/
theorem goE (hp : p = 2 ∨ p = 3) : ∀ (r k : Nat) (V : PX) (m : Nat) (st : Nat → St), k + r = zs.length → CW zs d s p rf V m st P (sufL (decF s d p) k zs.length) → P.stt = 2 → (∀ i, i < k → (st i).ph = p) → (∀ i, i < zs.length → finB (st i).ph = true → (st i).ph = p) → m + 2 * r < 1000000 → GoB zs d s p r V
  | 0, k, V, m, st, hk, h, hP, h1, h2, hm => by
    obtain rfl : k = zs.length := by omega
    rw [sufL_nil] at h
    refine ⟨0, Nat.le_refl _, h.fly, fun i hi => by rw [h.st i hi]; exact h1 i hi, ?_, h.ev, P, h.ld, hP⟩
    rw [h.ec]
    exact cnt_all fun i hi => by rw [h1 i hi]; exact decide_eq_true hp
  | r + 1, k, V, m, st, hk, h, hP, h1, h2, hm => by
    have hkn : k < zs.length := by omega
    rw [sufL_cons _ hkn] at h
    have hL : hearL (st k) (rf k) (decF s d p k).k.toNat (decF s d p k).a.toNat (decF s d p k).ph.toNat = if finB p = true ∧ finB (st k).ph = false then ⟨⟨p, (st k).pr, (st k).at_⟩, 0, false⟩ else ⟨st k, 0, false⟩ := by
      show hearL (st k) (rf k) 7 0 (p : Int).toNat = _
      rw [Int.toNat_natCast]
      unfold hearL
      rw [if_neg (by decide), if_neg (by decide), if_neg (by decide), if_pos rfl]
    have hfp : finB p = true := decide_eq_true hp
    have hph : (hearL (st k) (rf k) (decF s d p k).k.toNat (decF s d p k).a.toNat (decF s d p k).ph.toNat).st.ph = p ∧ (hearL (st k) (rf k) (decF s d p k).k.toNat (decF s d p k).a.toNat (decF s d p k).ph.toNat).k = 0 := by
      rw [hL]
      by_cases hf : finB (st k).ph = false
      · rw [if_pos ⟨hfp, hf⟩]; exact ⟨rfl, rfl⟩
      · rw [if_neg (fun x => hf x.2)]
        exact ⟨h2 k hkn (by cases hq : finB (st k).ph with | true => rfl | false => exact absurd hq hf), rfl⟩
    have hs := h.site (by omega) rfl rfl hkn rfl (fun _ => hph.1)
    generalize hearL (st k) (rf k) (decF s d p k).k.toNat (decF s d p k).a.toNat (decF s d p k).ph.toNat = o at *
    rw [if_neg (fun x => x hph.2), List.append_nil] at hs
    refine GoB.step h.fly (goE hp r (k + 1) _ (m + 2) _ (by omega) hs hP (fun i hi => ?_) (fun i hi hf => ?_) (by omega))
    · by_cases e : i = k
      · subst e; rw [upd_at]; exact hph.1
      · rw [upd_ne _ _ _ e]; exact h1 i (by omega)
    · by_cases e : i = k
      · subst e; rw [upd_at]; exact hph.1
      · rw [upd_ne _ _ _ e] at hf ⊢; exact h2 i hi hf
/-- A lead that is done does not hear. -/
theorem phear_done {a : Int} {f : F9} (h : P.stt = 2) : phear zs s d a P f = (P, none) := by
  unfold phear
  rw [if_neg]
  intro ht
  obtain ⟨-, hw, -, -⟩ := takesB_in ht
  have := waitsY hw
  omega
theorem goI {g : Nat → F9} {rest : List F9} {q : Nat} (hs : s < zs.length) (hg : ∀ i, i < zs.length → isAns (g i).k = true ∧ (g i).d = (d : Int) ∧ (g i).t = (s : Int)) (hP : P.stt = 2) (hq : ∀ V m, m < 900000 → CW zs d s p rf V m st P rest → GoB zs d s p q V) :
    ∀ (r k : Nat) (V : PX) (m : Nat), k + r = zs.length → CW zs d s p rf V m st P (sufL g k zs.length ++ rest) → m + 2 * r < 900000 → GoB zs d s p (r + q) V
  | 0, k, V, m, hk, h, hm => by
    obtain rfl : k = zs.length := by omega
    rw [sufL_nil, List.nil_append] at h
    exact (hq V m (by omega) h).mono (by omega)
  | r + 1, k, V, m, hk, h, hm => by
    have hkn : k < zs.length := by omega
    rw [sufL_cons _ hkn, List.cons_append] at h
    obtain ⟨g1, g2, g3⟩ := hg k hkn
    have hl := h.lead g2 g3 hs g1
    rw [phear_done hP] at hl
    have hl2 : CW zs d s p rf (deliverX zs V 0 (g k)) (m + 1) st P (sufL g (k + 1) zs.length ++ rest ++ []) := hl
    rw [List.append_nil] at hl2
    exact (GoB.step h.fly (goI hs hg hP hq r (k + 1) _ (m + 1) (by omega) hl2 (by omega))).mono (by omega)
theorem ans_next {n k : Nat} (hn : n ≤ 7) (hk : k < n) : ansS (2 ^ k - 1) k = 2 ^ (k + 1) - 1 ∧ bit (2 ^ k - 1) k = false := by
  have h7 : k = 0 ∨ k = 1 ∨ k = 2 ∨ k = 3 ∨ k = 4 ∨ k = 5 ∨ k = 6 := by omega
  rcases h7 with rfl | rfl | rfl | rfl | rfl | rfl | rfl <;> exact ⟨by decide, by decide⟩
/-- The acks come. -/
theorem goD (he : errW zs = 0) (hs : s < zs.length) : ∀ (r k : Nat) (V : PX) (m : Nat) (P : PL), k + r = zs.length → 0 < r → CW zs d s 2 rf V m st P (sufL (ackF s d) k zs.length) → P.stt = 1 → P.prep = 4 → P.ans = 2 ^ k - 1 → (∀ i, i < zs.length → (st i).ph = 4) → m + 2 * r + 100 < 900000 → GoB zs d s 2 (r + zs.length) V
  | 0, _, _, _, _, _, h0, _, _, _, _, _, _ => absurd h0 (Nat.lt_irrefl _)
  | r + 1, k, V, m, P, hk, _, h, hs1, hpr, han, hst, hm => by
    have n7 := (errW_zero he).2.1
    have hkn : k < zs.length := by omega
    rw [sufL_cons _ hkn] at h
    have hl := h.lead (f := ackF s d k) rfl rfl hs rfl
    obtain ⟨a1, a2⟩ := ans_next n7 hkn
    have htk : takesB zs.length s d 0 P (ackF s d k) = true := by
      unfold takesB waitsB
      rw [hs1, han]
      have hb : bit (2 ^ k - 1) ((ackF s d k).f.toNat) = false := by show bit (2 ^ k - 1) ((k : Int).toNat) = false; rw [Int.toNat_natCast]; exact a2
      rw [hb, decide_eq_true (show (ackF s d k).t = (s : Int) ∧ (ackF s d k).d = (d : Int) ∧ (ackF s d k).a = 0 from ⟨rfl, rfl, rfl⟩), decide_eq_true (show 0 ≤ (ackF s d k).f ∧ (ackF s d k).f < zs.length from ⟨by show (0 : Int) ≤ k; omega, by show (k : Int) < zs.length; omega⟩)]
      rfl
    obtain ⟨q1, q2, q3, q4⟩ := seeP_of (noteP P (ackF s d k)) 4
    have hq0 : (noteP P (ackF s d k)).ans = 2 ^ (k + 1) - 1 := by
      show ansS P.ans ((k : Int).toNat) = _
      rw [Int.toNat_natCast, han, a1]
    have hph : phear zs s d 0 P (ackF s d k) = ackP zs (seeP (noteP P (ackF s d k)) 0) := by
      unfold phear
      rw [if_pos htk]
      unfold takenP
      rw [if_neg (by show ¬ (6 : Int) = 2; decide), if_neg (by show ¬ (true = false); decide), if_neg (by show ¬ (6 : Int) = 4; decide)]
      rfl
    obtain ⟨q1, q2, q3, q4⟩ := seeP_of (noteP P (ackF s d k)) 0
    rw [hph] at hl
    generalize seeP (noteP P (ackF s d k)) 0 = Q at *
    have hQa : Q.ans = 2 ^ (k + 1) - 1 := by rw [q2, hq0]
    have hQp : Q.prep = 4 := by rw [q4]; exact hpr
    have hQs : Q.stt = 1 := by rw [q1]; exact hs1
    unfold ackP at hl
    by_cases hen : enoughB zs Q.ans = false
    · rw [if_pos hen] at hl
      have hl2 : CW zs d s 2 rf (deliverX zs V 0 (ackF s d k)) (m + 1) st Q (sufL (ackF s d) (k + 1) zs.length ++ []) := hl
      rw [List.append_nil] at hl2
      have hr : 0 < r := by
        rcases Nat.eq_zero_or_pos r with e | e
        · have hall := allEnough he
          rw [hQa, show k + 1 = zs.length by omega, hall] at hen
          cases hen
        · exact e
      exact (GoB.step h.fly (goD he hs r (k + 1) _ (m + 1) Q (by omega) hr hl2 hQs hQp hQa hst (by omega))).mono (by omega)
    · rw [if_neg hen, hQp] at hl
      have hl2 : CW zs d s 2 rf (deliverX zs V 0 (ackF s d k)) (m + 1) st { Q with stt := 2 } (sufL (ackF s d) (k + 1) zs.length ++ toL s d 7 0 2 zs.length) := hl
      rw [toL_frs] at hl2
      have hI := goI (g := ackF s d) (rest := sufL (decF s d 2) 0 zs.length) (q := zs.length) hs (fun i _ => ⟨rfl, rfl, rfl⟩) rfl
        (fun V2 m2 hm2 hc2 => goE (.inl rfl) zs.length 0 V2 m2 st (by omega) hc2 rfl (fun i hi => absurd hi (Nat.not_lt_zero _)) (fun i hi hf => by rw [hst i hi] at hf; cases hf) (by omega)) r (k + 1) _ (m + 1) (by omega) hl2 (by omega)
      exact (GoB.step h.fly hI).mono (by omega)
/-- They prepare. -/
theorem goP (he : errW zs = 0) (hs : s < zs.length) : ∀ (r k : Nat) (V : PX) (m : Nat) (st : Nat → St), k + r = zs.length → CW zs d s 2 rf V m st P (sufL (preF s d) k zs.length ++ frsL (ackF s d) k) → P.stt = 1 → P.prep = 4 → P.ans = 0 → (∀ i, i < zs.length → st i = if i < k then ⟨4, 0, 0⟩ else ⟨1, 0, 0⟩) → m + 2 * r + 200 < 900000 → GoB zs d s 2 (r + 2 * zs.length) V
  | 0, k, V, m, st, hk, h, h1, h2, h3, hst, hm => by
    obtain rfl : k = zs.length := by omega
    rw [sufL_nil, List.nil_append, ← sufL_zero] at h
    have hn := (errW_zero he).1
    exact (goD he hs zs.length 0 V m P (by omega) hn h h1 h2 (by rw [h3]; rfl) (fun i hi => by rw [hst i hi, if_pos hi]) (by have := (errW_zero he).2.1; omega)).mono (by omega)
  | r + 1, k, V, m, st, hk, h, h1, h2, h3, hst, hm => by
    have hkn : k < zs.length := by omega
    rw [sufL_cons _ hkn, List.cons_append] at h
    have hsk := hst k hkn
    rw [if_neg (Nat.lt_irrefl _)] at hsk
    have hL : hearL (st k) (rf k) (preF s d k).k.toNat (preF s d k).a.toNat (preF s d k).ph.toNat = ⟨⟨4, 0, 0⟩, 6, true⟩ := by rw [hsk]; rfl
    have hsi := h.site (by omega) rfl rfl hkn rfl (fun x => by rw [hL] at x; cases x)
    rw [hL, if_pos (by decide)] at hsi
    have hsi2 : CW zs d s 2 rf (deliverX zs V 0 (preF s d k)) (m + 2) (upd st k ⟨4, 0, 0⟩) P (sufL (preF s d) (k + 1) zs.length ++ frsL (ackF s d) k ++ [ackF s d k]) := hsi
    rw [List.append_assoc, ← frsL_succ] at hsi2
    refine (GoB.step h.fly (goP he hs r (k + 1) _ (m + 2) _ (by omega) hsi2 h1 h2 h3 (fun i hi => ?_) (by omega))).mono (by omega)
    by_cases e : i = k
    · subst e; rw [upd_at, if_pos (by omega)]
    · rw [upd_ne _ _ _ e, hst i hi]
      by_cases hlt : i < k
      · rw [if_pos hlt, if_pos (by omega)]
      · rw [if_neg hlt, if_neg (by omega)]
/-- The votes come. -/
theorem goV (he : errW zs = 0) (hs : s < zs.length) (hst : ∀ i, i < zs.length → st i = if rf i = true then ⟨3, 0, 0⟩ else ⟨1, 0, 0⟩) : ∀ (r k : Nat) (V : PX) (m : Nat) (P : PL), k + r = zs.length → 0 < r → CW zs d s p rf V m st P (sufL (votF s d rf) k zs.length) → P.stt = 0 → P.ans = 2 ^ k - 1 → ((p = 3 ∧ ∃ j, k ≤ j ∧ j < zs.length ∧ rf j = true) ∨ (p = 2 ∧ ∀ j, j < zs.length → rf j = false)) → m + 2 * r + 300 < 900000 → GoB zs d s p (r + 3 * zs.length) V
  | 0, _, _, _, _, _, h0, _, _, _, _, _ => absurd h0 (Nat.lt_irrefl _)
  | r + 1, k, V, m, P, hk, _, h, hs1, han, hp, hm => by
    have n7 := (errW_zero he).2.1
    have hkn : k < zs.length := by omega
    rw [sufL_cons _ hkn] at h
    have hl := h.lead (f := votF s d rf k) rfl rfl hs rfl
    obtain ⟨a1, a2⟩ := ans_next n7 hkn
    have htk : takesB zs.length s d 0 P (votF s d rf k) = true := by
      unfold takesB waitsB
      rw [hs1, han]
      have hb : bit (2 ^ k - 1) ((votF s d rf k).f.toNat) = false := by show bit (2 ^ k - 1) ((k : Int).toNat) = false; rw [Int.toNat_natCast]; exact a2
      rw [hb, decide_eq_true (show (votF s d rf k).t = (s : Int) ∧ (votF s d rf k).d = (d : Int) ∧ (votF s d rf k).a = 0 from ⟨rfl, rfl, rfl⟩), decide_eq_true (show 0 ≤ (votF s d rf k).f ∧ (votF s d rf k).f < zs.length from ⟨by show (0 : Int) ≤ k; omega, by show (k : Int) < zs.length; omega⟩)]
      rfl
    have hq0 : (noteP P (votF s d rf k)).ans = 2 ^ (k + 1) - 1 := by
      show ansS P.ans ((k : Int).toNat) = _
      rw [Int.toNat_natCast, han, a1]
    have hph : phear zs s d 0 P (votF s d rf k) = voteP zs.length (noteP P (votF s d rf k)) (!rf k) := by
      unfold phear
      rw [if_pos htk]
      unfold takenP
      rw [if_pos (by rfl)]
      rfl
    have hQs : (noteP P (votF s d rf k)).stt = 0 := hs1
    rw [hph] at hl
    generalize noteP P (votF s d rf k) = Q at *
    unfold voteP at hl
    cases hrf : rf k with
    | true =>
      obtain rfl : p = 3 := by
        rcases hp with x | x
        · exact x.1
        · have := x.2 k hkn; rw [hrf] at this; cases this
      rw [if_pos (by rw [hrf]; rfl)] at hl
      have hl2 : CW zs d s 3 rf (deliverX zs V 0 (votF s d rf k)) (m + 1) st { Q with stt := 2 } (sufL (votF s d rf) (k + 1) zs.length ++ toL s d 7 0 3 zs.length) := hl
      rw [toL_frs] at hl2
      have hI := goI (g := votF s d rf) (rest := sufL (decF s d 3) 0 zs.length) (q := zs.length) hs (fun i _ => ⟨rfl, rfl, rfl⟩) rfl
        (fun V2 m2 hm2 hc2 => goE (.inr rfl) zs.length 0 V2 m2 st (by omega) hc2 rfl (fun i hi => absurd hi (Nat.not_lt_zero _)) (fun i hi hf => by
          rw [hst i hi] at hf ⊢
          by_cases x : rf i = true
          · rw [if_pos x]
          · rw [if_neg x] at hf; cases hf) (by omega)) r (k + 1) _ (m + 1) (by omega) hl2 (by omega)
      exact (GoB.step h.fly hI).mono (by omega)
    | false =>
      rw [if_neg (by rw [hrf]; decide)] at hl
      by_cases hfull : Q.ans = 2 ^ zs.length - 1
      · have hkl : k + 1 = zs.length := by
          rw [hq0] at hfull
          have h7 : zs.length = 1 ∨ zs.length = 2 ∨ zs.length = 3 ∨ zs.length = 4 ∨ zs.length = 5 ∨ zs.length = 6 ∨ zs.length = 7 := by omega
          have h8 : k = 0 ∨ k = 1 ∨ k = 2 ∨ k = 3 ∨ k = 4 ∨ k = 5 ∨ k = 6 := by omega
          rcases h7 with e | e | e | e | e | e | e <;> rw [e] at hfull ⊢ <;> rcases h8 with rfl | rfl | rfl | rfl | rfl | rfl | rfl <;> first | rfl | (exact absurd hfull (by decide))
        rw [if_pos hfull] at hl
        have hno : p = 2 ∧ ∀ j, j < zs.length → rf j = false := by
          rcases hp with ⟨-, j, j1, j2, j3⟩ | x
          · obtain rfl : j = k := by omega
            rw [hrf] at j3; cases j3
          · exact x
        obtain ⟨rfl, hno⟩ := hno
        have hl2 : CW zs d s 2 rf (deliverX zs V 0 (votF s d rf k)) (m + 1) st { Q with stt := 1, prep := 4, ans := 0 } (sufL (votF s d rf) (k + 1) zs.length ++ toL s d 5 0 4 zs.length) := hl
        rw [hkl, sufL_nil, List.nil_append, toL_frs] at hl2
        have hl3 : CW zs d s 2 rf (deliverX zs V 0 (votF s d rf k)) (m + 1) st { Q with stt := 1, prep := 4, ans := 0 } (sufL (preF s d) 0 zs.length ++ frsL (ackF s d) 0) := by
          show CW zs d s 2 rf _ (m + 1) st _ (sufL (preF s d) 0 zs.length ++ [])
          rw [List.append_nil]
          exact hl2
        exact (GoB.step h.fly (goP he hs zs.length 0 _ (m + 1) st (by omega) hl3 rfl rfl rfl (fun i hi => by rw [hst i hi, if_neg (by rw [hno i hi]; decide), if_neg (Nat.not_lt_zero _)]) (by omega))).mono (by omega)
      · rw [if_neg hfull] at hl
        have hl2 : CW zs d s p rf (deliverX zs V 0 (votF s d rf k)) (m + 1) st Q (sufL (votF s d rf) (k + 1) zs.length ++ []) := hl
        rw [List.append_nil] at hl2
        have hr : 0 < r := by
          rcases Nat.eq_zero_or_pos r with e | e
          · rw [hq0, show k + 1 = zs.length by omega] at hfull
            exact absurd rfl hfull
          · exact e
        refine (GoB.step h.fly (goV he hs hst r (k + 1) _ (m + 1) Q (by omega) hr hl2 hQs hq0 ?_ (by omega))).mono (by omega)
        rcases hp with ⟨x, j, j1, j2, j3⟩ | x
        · refine .inl ⟨x, j, ?_, j2, j3⟩
          rcases Nat.lt_or_ge k j with y | y
          · exact y
          · obtain rfl : j = k := by omega
            rw [hrf] at j3; cases j3
        · exact .inr x
/-- They are asked. -/
theorem goA (he : errW zs = 0) (hs : s < zs.length) (hP : P.stt = 0) (hPa : P.ans = 0) (hp : (p = 3 ∧ ∃ j, j < zs.length ∧ rf j = true) ∨ (p = 2 ∧ ∀ j, j < zs.length → rf j = false)) : ∀ (r k : Nat) (V : PX) (m : Nat) (st : Nat → St), k + r = zs.length → CW zs d s p rf V m st P (sufL (askF s d) k zs.length ++ frsL (votF s d rf) k) → (∀ i, i < zs.length → st i = if i < k then (if rf i = true then ⟨3, 0, 0⟩ else ⟨1, 0, 0⟩) else ⟨0, 0, 0⟩) → m + 2 * r + 400 < 900000 → GoB zs d s p (r + 4 * zs.length) V
  | 0, k, V, m, st, hk, h, hst, hm => by
    obtain rfl : k = zs.length := by omega
    rw [sufL_nil, List.nil_append, ← sufL_zero] at h
    have hn := (errW_zero he).1
    have n7 := (errW_zero he).2.1
    refine (goV he hs (fun i hi => by rw [hst i hi, if_pos hi]) zs.length 0 V m P (by omega) hn h hP (by rw [hPa]; rfl) ?_ (by omega)).mono (by omega)
    rcases hp with ⟨x, j, j1, j2⟩ | x
    · exact .inl ⟨x, j, Nat.zero_le _, j1, j2⟩
    · exact .inr x
  | r + 1, k, V, m, st, hk, h, hst, hm => by
    have hkn : k < zs.length := by omega
    rw [sufL_cons _ hkn, List.cons_append] at h
    have hsk := hst k hkn
    rw [if_neg (Nat.lt_irrefl _)] at hsk
    have hL : hearL (st k) (rf k) (askF s d k).k.toNat (askF s d k).a.toNat (askF s d k).ph.toNat = ⟨if rf k = true then ⟨3, 0, 0⟩ else ⟨1, 0, 0⟩, 2, !rf k⟩ := by
      rw [hsk]
      cases hr : rf k <;> rfl
    have hsi := h.site (by omega) rfl rfl hkn rfl (fun x => by
      rw [hL] at x ⊢
      cases hr : rf k with
      | true =>
        rcases hp with y | y
        · rw [y.1]; rfl
        · have := y.2 k hkn; rw [hr] at this; cases this
      | false => rw [hr] at x; cases x)
    rw [hL] at hsi
    have hsi2 : CW zs d s p rf (deliverX zs V 0 (askF s d k)) (m + 2) (upd st k (if rf k = true then ⟨3, 0, 0⟩ else ⟨1, 0, 0⟩)) P (sufL (askF s d) (k + 1) zs.length ++ frsL (votF s d rf) k ++ [ansF k (askF s d k) ⟨if rf k = true then ⟨3, 0, 0⟩ else ⟨1, 0, 0⟩, 2, !rf k⟩]) := hsi
    have hvf : ansF k (askF s d k) ⟨if rf k = true then ⟨3, 0, 0⟩ else ⟨1, 0, 0⟩, 2, !rf k⟩ = votF s d rf k := by
      unfold ansF votF askF
      cases hr : rf k <;> rfl
    rw [hvf, List.append_assoc, ← frsL_succ] at hsi2
    refine (GoB.step h.fly (goA he hs hP hPa hp r (k + 1) _ (m + 2) _ (by omega) hsi2 (fun i hi => ?_) (by omega))).mono (by omega)
    by_cases e : i = k
    · subst e; rw [upd_at, if_pos (show i < i + 1 by omega)]
    · rw [upd_ne _ _ _ e, hst i hi]
      by_cases hlt : i < k
      · rw [if_pos hlt, if_pos (show i < k + 1 by omega)]
      · rw [if_neg hlt, if_neg (show ¬ i < k + 1 by omega)]
end
end Go.Proofs.YtdpemmmbkjmplabGreatDoor
namespace Go.Proofs.YtdpemmmbkjmplabGreatDoor
open Go.RowKit

/-- Some sites refuse; nothing else has been. -/
structure RfI (zs : List Int) (V : PX) (d : Nat) (rf : Nat → Bool) : Prop where
  l : ∀ i, i < zs.length → (V.nd i).l = -1
  r : ∀ i, i < zs.length → (V.nd i).R d = rf i
  st : ∀ i, i < zs.length → stN (V.nd i) d = ⟨0, 0, 0⟩
  ld : ∀ i, i < zs.length → (V.nd i).ld d = none
  br : ∀ a b, V.br a b = false
  fly : V.fly = []
  evs : V.evs = []
section
variable {zs : List Int} {V : PX} {d s : Nat} {rf : Nat → Bool} {m : Nat}
theorem RfI.new (hd : d < 6) : RfI zs newX d (fun _ => false) := ⟨fun _ _ => rfl, fun _ _ => rfl, fun i _ => stN_new i d hd, fun _ _ => rfl, fun _ _ => rfl, rfl, rfl⟩
theorem RfI.refuse (h : RfI zs V d rf) (k : Nat) : RfI zs (refuseX V k d) d (fun i => if i = k then true else rf i) := by
  have keep : ∀ i, (refuseX V k d).nd i = if i = k then { V.nd k with R := updR (V.nd k).R d } else V.nd i := fun _ => rfl
  refine ⟨fun i hi => ?_, fun i hi => ?_, fun i hi => ?_, fun i hi => ?_, h.br, h.fly, h.evs⟩
  · rw [keep]; split
    · rename_i e; subst e; exact h.l i hi
    · exact h.l i hi
  · rw [keep]
    by_cases e : i = k
    · rw [if_pos e, if_pos e]
      show updR (V.nd k).R d d = true
      unfold updR
      simp
    · rw [if_neg e, if_neg e]; exact h.r i hi
  · rw [keep]; split
    · rename_i e; subst e; exact h.st i hi
    · exact h.st i hi
  · rw [keep]; split
    · rename_i e; subst e; exact h.ld i hi
    · exact h.ld i hi
theorem RfI.same (h : RfI zs V d rf) {rf' : Nat → Bool} (hr : ∀ i, i < zs.length → rf' i = rf i) : RfI zs V d rf' := ⟨h.l, fun i hi => (h.r i hi).trans (hr i hi).symm, h.st, h.ld, h.br, h.fly, h.evs⟩
theorem RfI.up (h : RfI zs V d rf) {i : Nat} (hi : i < zs.length) : upN (V.nd i) = true := by
  unfold upN; rw [h.l i hi]; rfl
theorem RfI.beg (h : RfI zs V d rf) (hs : s < zs.length) (hd : d < 6) : cBeg zs.length V (s : Int) (d : Int) = 0 := by
  unfold cBeg
  rw [if_pos ⟨⟨by omega, by omega⟩, by omega, by omega⟩, Int.toNat_natCast, Int.toNat_natCast, if_pos (h.up hs), if_neg ?_]
  unfold heldX
  rw [Bool.not_eq_true, List.any_eq_false]
  intro i hi
  have hin : i < zs.length := List.mem_range.1 hi
  rw [h.ld i hin, h.st i hin]
  decide
theorem RfI.cw (h : RfI zs V d rf) (hX : XI zs (beginX zs V s d) m) (p : Nat) : CW zs d s p rf (beginX zs V s d) m (fun _ => ⟨0, 0, 0⟩) P0 (sufL (askF s d) 0 zs.length ++ frsL (votF s d rf) 0) := by
  have keep : ∀ i, (beginX zs V s d).nd i = if i = s then setLd (V.nd s) d (0, P0) else V.nd i := fun _ => rfl
  refine ⟨hX, fun i hi => ?_, fun i hi => ?_, ?_, fun e he => ?_, fun i hi => ?_, ?_, h.br, ?_⟩
  · rw [keep]; split
    · rename_i e; subst e; exact h.l i hi
    · exact h.l i hi
  · rw [keep]; split
    · rename_i e; subst e; exact h.r i hi
    · exact h.r i hi
  · show V.evs.length = _
    rw [h.evs]
    have : ∀ k, cnt (fun _ => ⟨0, 0, 0⟩) k = 0 := by
      intro k
      induction k with
      | zero => rfl
      | succ k ih => unfold cnt; rw [ih]; rfl
    exact (this _).symm
  · have he2 : e ∈ V.evs := he
    rw [h.evs] at he2
    cases he2
  · rw [keep]; split
    · rename_i e; subst e; exact h.st i hi
    · exact h.st i hi
  · rw [keep, if_pos rfl, ld_at]
  · show V.fly ++ toL s d 1 0 0 zs.length = _
    rw [h.fly, toL_frs, List.nil_append]
    show _ = frsL (askF s d) zs.length ++ []
    rw [List.append_nil]
    rfl
end
theorem outE_all {d : Nat} {p : Nat} : ∀ (L : List E3), L ≠ [] → (∀ e, e ∈ L → e.d = (d : Int) ∧ e.p = (p : Int)) → outE (d : Int) L = (p : Int)
  | [], h, _ => absurd rfl h
  | e :: r, _, h => by
    obtain ⟨h1, h2⟩ := h e List.mem_cons_self
    rw [outE, if_pos h1, h2]
theorem rf_zero {r : Int} {n : Nat} (h0 : 0 ≤ r) (h1 : r < 2 ^ n) : (r = 0 ∧ ∀ i, i < n → bit r i = false) ∨ (0 < r ∧ ∃ i, i < n ∧ bit r i = true) := by
  obtain ⟨k, rfl⟩ := Int.eq_ofNat_of_zero_le h0
  rcases Nat.eq_zero_or_pos k with rfl | hp
  · exact .inl ⟨rfl, fun i _ => by unfold bit; simp⟩
  · refine .inr ⟨by omega, ?_⟩
    obtain ⟨i, hi⟩ := Nat.exists_testBit_of_ne_zero (show k ≠ 0 by omega)
    refine ⟨i, ?_, by unfold bit; rw [Int.toNat_natCast]; exact hi⟩
    refine Nat.lt_of_not_le fun hle => ?_
    rw [pow_nat] at h1
    have : k < 2 ^ i := Nat.lt_of_lt_of_le (by omega) (Nat.pow_le_pow_right (by decide) hle)
    rw [Nat.testBit_lt_two_pow this] at hi
    cases hi
end Go.Proofs.YtdpemmmbkjmplabGreatDoor
namespace Go.Proofs.YtdpemmmbkjmplabGreatDoor
open Go.RowKit

set_option maxHeartbeats 8000000 in
set_option maxRecDepth 100000 in
theorem wcommits_any (A : Nat → Addr) (v : Value) (zs : List Int) (s0 d0 r0 : Int) (w : World) (hE : Held9 w A) (hv : IsSl w v zs) :
    Calls Tryz.prog 3 #[v, .int .i64 s0, .int .i64 d0, .int .i64 r0] w fun e w' => e = .returned (.bool true) ∧ Below w.heap.size w w' := by
  have HE := hid hE
  have HV := hid hv
  obtain ⟨av, capv, rfl, hzm, -, -⟩ := hv
  unfold maxLen at hzm
  obtain ⟨n, HN⟩ : ∃ n, Hid (zs.length = n) := ⟨_, rfl⟩
  rw [HN.out] at HV hzm ⊢
  clear hE
  by_cases he : errW zs = 0
  · obtain ⟨n1, n7, -, -⟩ := errW_zero he
    rw [HN.out] at n1 n7
    by_cases hs0 : s0 < 0
    · have k1 : s0 < 0 := hs0
      go_enter Tryz.func3, Tryz.ntmps3
      go_wp2_with fail
      refine (born_any A w HE.out).mono ?_
      rintro e w1 ⟨rfl, hb⟩
      have HB1 := hid hb
      have HWe := hid (rErr_any _ zs w1 (HV.out.later hb))
      rw [he, show ((0 : Nat) : Int) = 0 from rfl] at HWe
      clear hb
      go_wp2_with fail
      refine HWe.out.mono ?_
      rintro e w2 ⟨rfl, hx⟩
      subst w2
      go_wp2_with fail
      go_ret
      exact ⟨rfl, HB1.out⟩
    · obtain ⟨s, rfl⟩ := Int.eq_ofNat_of_zero_le (show 0 ≤ s0 by omega)
      by_cases hsn : n ≤ s
      · have k1 : (n : Int) ≤ (s : Int) := by omega
        go_enter Tryz.func3, Tryz.ntmps3
        go_wp2_with fail
        refine (born_any A w HE.out).mono ?_
        rintro e w1 ⟨rfl, hb⟩
        have HB1 := hid hb
        have HWe := hid (rErr_any _ zs w1 (HV.out.later hb))
        rw [he, show ((0 : Nat) : Int) = 0 from rfl] at HWe
        clear hb
        go_wp2_with fail
        refine HWe.out.mono ?_
        rintro e w2 ⟨rfl, hx⟩
        subst w2
        go_wp2_with fail
        go_ret
        exact ⟨rfl, HB1.out⟩
      · have k1 : ¬ (n : Int) ≤ (s : Int) := by omega
        by_cases hd0 : d0 < 0
        · have k2 : d0 < 0 := hd0
          go_enter Tryz.func3, Tryz.ntmps3
          go_wp2_with fail
          refine (born_any A w HE.out).mono ?_
          rintro e w1 ⟨rfl, hb⟩
          have HB1 := hid hb
          have HWe := hid (rErr_any _ zs w1 (HV.out.later hb))
          rw [he, show ((0 : Nat) : Int) = 0 from rfl] at HWe
          clear hb
          go_wp2_with fail
          refine HWe.out.mono ?_
          rintro e w2 ⟨rfl, hx⟩
          subst w2
          go_wp2_with fail
          go_ret
          exact ⟨rfl, HB1.out⟩
        · obtain ⟨d, rfl⟩ := Int.eq_ofNat_of_zero_le (show 0 ≤ d0 by omega)
          by_cases hd6 : 6 ≤ d
          · have k2 : (6 : Int) ≤ (d : Int) := by omega
            go_enter Tryz.func3, Tryz.ntmps3
            go_wp2_with fail
            refine (born_any A w HE.out).mono ?_
            rintro e w1 ⟨rfl, hb⟩
            have HB1 := hid hb
            have HWe := hid (rErr_any _ zs w1 (HV.out.later hb))
            rw [he, show ((0 : Nat) : Int) = 0 from rfl] at HWe
            clear hb
            go_wp2_with fail
            refine HWe.out.mono ?_
            rintro e w2 ⟨rfl, hx⟩
            subst w2
            go_wp2_with fail
            go_ret
            exact ⟨rfl, HB1.out⟩
          · have k2 : ¬ (6 : Int) ≤ (d : Int) := by omega
            by_cases hr0 : r0 < 0
            · have k3 : r0 < 0 := hr0
              go_enter Tryz.func3, Tryz.ntmps3
              go_wp2_with fail
              refine (born_any A w HE.out).mono ?_
              rintro e w1 ⟨rfl, hb⟩
              have HB1 := hid hb
              have HWe := hid (rErr_any _ zs w1 (HV.out.later hb))
              rw [he, show ((0 : Nat) : Int) = 0 from rfl] at HWe
              clear hb
              go_wp2_with fail
              refine HWe.out.mono ?_
              rintro e w2 ⟨rfl, hx⟩
              subst w2
              go_wp2_with fail
              go_ret
              exact ⟨rfl, HB1.out⟩
            · by_cases hrn : 2 ^ n ≤ r0
              · have k3 : 0 ≤ r0 := by omega
                go_enter Tryz.func3, Tryz.ntmps3
                go_wp2_with fail
                refine (born_any A w HE.out).mono ?_
                rintro e w1 ⟨rfl, hb⟩
                have HB1 := hid hb
                have HWe := hid (rErr_any _ zs w1 (HV.out.later hb))
                rw [he, show ((0 : Nat) : Int) = 0 from rfl] at HWe
                clear hb
                go_wp2_with fail
                refine HWe.out.mono ?_
                rintro e w2 ⟨rfl, hx⟩
                subst w2
                go_wp2_with fail
                refine (two_any n w1 (by omega)).mono ?_
                rintro e w2 ⟨rfl, hx⟩
                subst w2
                go_wp2_with fail
                go_ret
                exact ⟨rfl, HB1.out⟩
              · have k3 : 0 ≤ r0 := by omega
                have hp7 := (pow_le7 n7).1
                go_enter Tryz.func3, Tryz.ntmps3
                go_wp2_with fail
                refine (born_any A w HE.out).mono ?_
                rintro e w1 ⟨rfl, hb⟩
                have HB1 := hid hb
                have HWe := hid (rErr_any _ zs w1 (HV.out.later hb))
                rw [he, show ((0 : Nat) : Int) = 0 from rfl] at HWe
                clear hb
                go_wp2_with fail
                refine HWe.out.mono ?_
                rintro e w2 ⟨rfl, hx⟩
                subst w2
                go_wp2_with fail
                refine (two_any n w1 (by omega)).mono ?_
                rintro e w2 ⟨rfl, hx⟩
                subst w2
                go_wp2_with fail
                have HOwn := hid (ownInts_any _ zs w1 (HV.out.later HB1.out) (by rw [HN.out]; omega))
                refine HOwn.out.mono ?_
                rintro e w2 ⟨v2, rfl, hv2, hb2⟩
                have HV2 := hid hv2
                have HB2 := hid (below_trans HB1.out hb2)
                have HNew := hid (wnew_ok v2 HV2.out (HE.out.later HB2.out) he)
                clear hv2 hb2
                go_wp2_with fail
                refine HNew.out.mono ?_
                rintro e w3 ⟨C, X, rfl, h3⟩
                have H3 := hid h3
                clear h3
                go_wp2_with fail
                go_loopw [12] (fun v wr => ∃ (k : Nat) (V : PX) (C' : Nat → Nat) (X' : XB), k ≤ n ∧ v = .int .i64 (k : Int) ∧ Hid (WD w2 wr C' X' zs V k ∧ X'.xb = X.xb ∧ RfI zs V d (fun i => decide (i < k) && bit r0 i))) (fun v _ => n - (intOf v).toNat)
                case atStart => exact ⟨0, newX, C, X, Nat.zero_le _, rfl, H3.out, rfl, (RfI.new (by omega)).same fun i _ => by simp⟩
                case round =>
                  obtain ⟨k, V, C1, X1, hk, rfl, HI⟩ := hrel
                  by_cases hlt : k < n
                  · have hlt' : (k : Int) < (n : Int) := by omega
                    have HHas := hid (rHas_any r0 k wr (by omega) k3 (by omega))
                    cases hbt : bit r0 k with
                    | true =>
                      rw [hbt] at HHas
                      have HRf := hid (refuse_any (k : Int) (d : Int) 0 HI.out.1 (HE.out.later HB2.out) (by omega) (by
                        unfold cRef
                        rw [if_pos ⟨⟨by omega, by rw [HN.out]; omega⟩, by omega, by omega⟩, Int.toNat_natCast, if_pos (HI.out.2.2.up (by rw [HN.out]; exact hlt))]))
                      rw [HI.out.2.1, if_pos rfl, Int.toNat_natCast, Int.toNat_natCast, show ev A 0 = .nilIface from rfl] at HRf
                      go_wp2_with fail
                      refine HHas.out.mono ?_
                      rintro e w4 ⟨rfl, hx⟩
                      subst w4
                      go_wp2_with fail
                      refine HRf.out.mono ?_
                      rintro e w4 ⟨rfl, C2, X2, g1, g2, -, -⟩
                      have HI2 : Hid (WD w2 w4 C2 X2 zs (refuseX V k d) (k + 1) ∧ X2.xb = X.xb ∧ RfI zs (refuseX V k d) d (fun i => decide (i < k + 1) && bit r0 i)) := by
                        refine ⟨g1, (key_xb g2).trans HI.out.2.1, (HI.out.2.2.refuse k).same fun i _ => ?_⟩
                        by_cases e : i = k
                        · subst e; rw [if_pos rfl, hbt, decide_eq_true (by omega)]; rfl
                        · rw [if_neg e]
                          congr 1
                          exact decide_eq_decide.2 (by omega)
                      clear g1 g2
                      go_wp2_with fail
                      go_roundw
                      case rel => exact ⟨k + 1, refuseX V k d, C2, X2, by omega, by go_num, HI2.out⟩
                      case measure => simp [intOf]; omega
                    | false =>
                      rw [hbt] at HHas
                      have HI2 : Hid (WD w2 wr C1 X1 zs V (k + 1) ∧ X1.xb = X.xb ∧ RfI zs V d (fun i => decide (i < k + 1) && bit r0 i)) := by
                        refine ⟨HI.out.1.mono (by omega), HI.out.2.1, HI.out.2.2.same fun i _ => ?_⟩
                        by_cases e : i = k
                        · subst e; rw [hbt, Bool.and_false, Bool.and_false]
                        · congr 1
                          exact decide_eq_decide.2 (by omega)
                      go_wp2_with fail
                      refine HHas.out.mono ?_
                      rintro e w4 ⟨rfl, hx⟩
                      subst w4
                      go_wp2_with fail
                      go_roundw
                      case rel => exact ⟨k + 1, V, C1, X1, by omega, by go_num, HI2.out⟩
                      case measure => simp [intOf]; omega
                  · obtain rfl : k = n := by omega
                    have hlt' : ¬ ((k : Int) < (k : Int)) := by omega
                    have hsk : s < zs.length := by rw [HN.out]; omega
                    have HRr : Hid (RfI zs V d (fun i => bit r0 i)) := HI.out.2.2.same fun i hi => by rw [decide_eq_true (by rw [HN.out] at hi; exact hi), Bool.true_and]
                    have HBg := hid (begin_any (s : Int) (d : Int) 0 HI.out.1 (HE.out.later HB2.out) (by omega) (HRr.out.beg hsk (by omega)))
                    rw [HI.out.2.1, if_pos rfl, Int.toNat_natCast, Int.toNat_natCast, show ev A 0 = .nilIface from rfl] at HBg
                    obtain ⟨p, HP⟩ : ∃ p : Nat, Hid ((p = 3 ∧ 0 < r0 ∧ ∃ j, j < zs.length ∧ bit r0 j = true) ∨ (p = 2 ∧ r0 = 0 ∧ ∀ j, j < zs.length → bit r0 j = false)) := by
                      rcases rf_zero (n := k) k3 (by omega) with ⟨q1, q2⟩ | ⟨q1, q2⟩
                      · exact ⟨2, .inr ⟨rfl, q1, by rw [HN.out]; exact q2⟩⟩
                      · exact ⟨3, .inl ⟨rfl, q1, by rw [HN.out]; exact q2⟩⟩
                    go_wp2_with fail
                    refine HBg.out.mono ?_
                    rintro e w4 ⟨rfl, C2, X2, g1, g2, -, -⟩
                    have HGo : Hid (GoB zs d s p 35 (beginX zs V s d)) := by
                      have hc := HRr.out.cw (s := s) g1.inv p
                      refine (goA he hsk rfl rfl ?_ zs.length 0 _ _ _ (by omega) hc (fun i _ => by rw [if_neg (Nat.not_lt_zero _)]) (by rw [HN.out]; omega)).mono (by rw [HN.out]; omega)
                      rcases HP.out with ⟨x, -, y⟩ | ⟨x, -, y⟩
                      · exact .inl ⟨x, y⟩
                      · exact .inr ⟨x, y⟩
                    have HX2 := hid (key_xb g2 |>.trans HI.out.2.1)
                    have H4 := hid (g1.mono (show k + 1 ≤ 10 by omega))
                    obtain ⟨rr, HRr2⟩ : ∃ rr, Hid (rr ≤ 35 ∧ GoC zs d s p rr (beginX zs V s d)) := HGo.out
                    clear g1 g2
                    go_wp2_with fail
                    go_loopw [14] (fun v wr => ∃ (j r : Nat) (V' : PX) (C' : Nat → Nat) (X' : XB), v = .int .i64 (j : Int) ∧ j + r ≤ 35 ∧ Hid (WD w2 wr C' X' zs V' (10 + 3 * j) ∧ X'.xb = X.xb ∧ GoC zs d s p r V')) (fun v _ => 40 - (intOf v).toNat)
                    case atStart => exact ⟨0, rr, beginX zs V s d, C2, X2, rfl, by have := HRr2.out.1; omega, H4.out, HX2.out, HRr2.out.2⟩
                    case round =>
                      obtain ⟨j, r, V', C3, X3, rfl, hjr, HJ⟩ := hrel
                      have hj200 : (j : Int) < 200 := by omega
                      have HFl := hid (flying_any HJ.out.1 (by omega))
                      rw [HJ.out.2.1] at HFl
                      cases r with
                      | succ r =>
                        obtain ⟨f, rest, HF⟩ : ∃ f rest, Hid (V'.fly = f :: rest ∧ GoC zs d s p r (deliverX zs V' 0 f)) := HJ.out.2.2
                        obtain ⟨nf, HNf⟩ : ∃ nf, Hid (V'.fly.length = nf + 1) := ⟨rest.length, by rw [HF.out.1]; rfl⟩
                        go_wp2_with fail
                        refine HFl.out.mono ?_
                        rintro e w5 ⟨v5, rfl, ho5, hb5⟩
                        obtain ⟨ad5, cap5, rfl⟩ : ∃ ad cap, v5 = .slice ad (nf + 1) cap := by
                          rw [HNf.out] at ho5
                          rcases ho5.2 with ⟨_, h0⟩ | ⟨g, cap, cur, e, -⟩
                          · cases h0
                          · exact ⟨_, _, e⟩
                        have H5 := hid (HJ.out.1.later hb5)
                        have hfl : 0 < V'.fly.length := by rw [HNf.out]; omega
                        have HDl := hid (deliver_ok 0 f H5.out (HE.out.later HB2.out) hfl (by simp [HF.out.1]) (by omega))
                        rw [HJ.out.2.1, show ((0 : Nat) : Int) = 0 from rfl] at HDl
                        clear ho5 hb5
                        go_wp2_with fail
                        refine HDl.out.mono ?_
                        rintro e w6 ⟨rfl, C6, X6, g1, g2, -, -⟩
                        have H6 : Hid (WD w2 w6 C6 X6 zs (deliverX zs V' 0 f) (10 + 3 * (j + 1)) ∧ X6.xb = X.xb ∧ GoC zs d s p r (deliverX zs V' 0 f)) := ⟨g1.mono (by omega), (key_xb g2).trans HJ.out.2.1, HF.out.2⟩
                        clear g1 g2
                        go_wp2_with fail
                        go_roundw
                        case rel => exact ⟨j + 1, r, deliverX zs V' 0 f, C6, X6, by go_num, by omega, H6.out⟩
                        case measure => simp [intOf]; omega
                      | zero =>
                        have HFin : Hid (FinC zs d s p V') := HJ.out.2.2
                        rcases HP.out with ⟨rfl, hr1, -⟩ | ⟨rfl, hr1, -⟩
                        · have k4 : 0 < r0 := hr1
                          go_wp2_with fail
                          refine HFl.out.mono ?_
                          rintro e w5 ⟨v5, rfl, ho5, hb5⟩
                          obtain ⟨ad5, cap5, rfl⟩ : ∃ ad cap, v5 = .slice ad 0 cap := by
                            rw [HFin.out.1] at ho5
                            rcases ho5.2 with ⟨e, _⟩ | ⟨g, cap, cur, e, -⟩
                            · exact ⟨_, _, e⟩
                            · exact ⟨_, _, e⟩
                          have H5 := hid (HJ.out.1.later hb5)
                          clear ho5 hb5
                          have HStt := hid (states_any d k H5.out (HE.out.later HB2.out) (by omega) HN.out)
                          rw [HJ.out.2.1] at HStt
                          go_wp2_with fail
                          refine HStt.out.mono ?_
                          rintro e w6 ⟨adS, capS, rfl, hsl, hb6, -⟩
                          have H6 := hid (H5.out.later hb6)
                          have HSL := hid hsl
                          have HLd := hid (lead_ok s d H6.out hsk (by omega))
                          obtain ⟨PF, HPF⟩ : ∃ PF, Hid ((V'.nd s).ld d = some (0, PF) ∧ PF.stt = 2) := HFin.out.2.2.2.2
                          have HLt : Hid (leadT (V'.nd s) d = ⟨#[100, 111, 110, 101]⟩) := by
                            unfold leadT
                            rw [HPF.out.1]
                            show stP PF.stt = _
                            rw [HPF.out.2]
                            rfl
                          rw [HJ.out.2.1, HLt.out] at HLd
                          clear hsl hb6 HStt
                          go_wp2_with fail
                          refine HLd.out.mono ?_
                          rintro e w7 ⟨rfl, hx⟩
                          subst w7
                          have HFl6 := hid (flying_any H6.out (by omega))
                          rw [HJ.out.2.1] at HFl6
                          go_wp2_with fail
                          refine HFl6.out.mono ?_
                          rintro e w8 ⟨v8, rfl, ho8, hb8⟩
                          obtain ⟨ad8, cap8, rfl⟩ : ∃ ad cap, v8 = .slice ad 0 cap := by
                            rw [HFin.out.1] at ho8
                            rcases ho8.2 with ⟨e, _⟩ | ⟨g, cap, cur, e, -⟩
                            · exact ⟨_, _, e⟩
                            · exact ⟨_, _, e⟩
                          have H8 := hid (H6.out.later hb8)
                          have HSL8 := hid (HSL.out.later hb8)
                          clear ho8 hb8
                          go_wp2_with fail
                          go_loopw [19] (fun v wq => ∃ i : Nat, i ≤ k ∧ v = .int .i64 (i : Int) ∧ wq = w8) (fun v _ => k - (intOf v).toNat)
                          case atStart => exact ⟨0, Nat.zero_le _, rfl, rfl⟩
                          case round =>
                            obtain ⟨i, hik, rfl, hwq⟩ := hrel
                            subst hwq
                            by_cases hil : i < k
                            · have hil' : (i : Int) < (k : Int) := by omega
                              obtain ⟨bS, oS, hadS, z0, -, -⟩ := HSL8.out i (by rw [stsL_length]; exact hil)
                              rw [stsL_get] at z0
                              subst hadS
                              have HPi := hid (HFin.out.2.1 i (by rw [HN.out]; exact hil))
                              rw [HPi.out, show ((3 : Nat) : Int) = 3 from rfl] at z0
                              go_wp2_with fail
                              go_roundw
                              case rel => exact ⟨i + 1, by omega, by go_num, by trivial⟩
                              case measure => simp [intOf]; omega
                            · have hil' : ¬ (i : Int) < (k : Int) := by omega
                              have HEv := hid (events_any H8.out)
                              rw [HJ.out.2.1] at HEv
                              have HLen : Hid (V'.evs.length = k) := by rw [← HN.out]; exact HFin.out.2.2.1
                              have HOut : Hid (outE (d : Int) V'.evs = 3) := outE_all V'.evs (fun e => by have := HLen.out; rw [e] at this; simp at this; omega) HFin.out.2.2.2.1
                              go_wp2_with fail
                              refine HEv.out.mono ?_
                              rintro e w9 ⟨v9, rfl, ho9, hb9⟩
                              obtain ⟨ad9, cap9, rfl, -, -, hel9⟩ := own_el ho9
                              have HOc := hid (joutcome_any ad9 cap9 V'.evs (d : Int) w9 hel9 (by rw [HLen.out]; omega))
                              rw [HOut.out, HLen.out] at HOc
                              have H9 := hid (H8.out.later hb9)
                              rw [HLen.out]
                              clear ho9 hb9 hel9
                              go_wp2_with fail
                              refine HOc.out.mono ?_
                              rintro e w10 ⟨rfl, hb10⟩
                              have H10 := hid (H9.out.later hb10)
                              have HEv2 := hid (events_any H10.out)
                              rw [HJ.out.2.1] at HEv2
                              clear hb10
                              go_wp2_with fail
                              refine HEv2.out.mono ?_
                              rintro e w11 ⟨v11, rfl, ho11, hb11⟩
                              obtain ⟨ad11, cap11, rfl, -, -, -⟩ := own_el ho11
                              rw [HLen.out]
                              have HBz := hid (below_trans HB2.out (H10.out.later hb11).bel)
                              clear ho11 hb11
                              go_wp2_with fail
                              go_ret
                              exact ⟨rfl, HBz.out⟩
                        · have k4 : ¬ 0 < r0 := by omega
                          go_wp2_with fail
                          refine HFl.out.mono ?_
                          rintro e w5 ⟨v5, rfl, ho5, hb5⟩
                          obtain ⟨ad5, cap5, rfl⟩ : ∃ ad cap, v5 = .slice ad 0 cap := by
                            rw [HFin.out.1] at ho5
                            rcases ho5.2 with ⟨e, _⟩ | ⟨g, cap, cur, e, -⟩
                            · exact ⟨_, _, e⟩
                            · exact ⟨_, _, e⟩
                          have H5 := hid (HJ.out.1.later hb5)
                          clear ho5 hb5
                          have HStt := hid (states_any d k H5.out (HE.out.later HB2.out) (by omega) HN.out)
                          rw [HJ.out.2.1] at HStt
                          go_wp2_with fail
                          refine HStt.out.mono ?_
                          rintro e w6 ⟨adS, capS, rfl, hsl, hb6, -⟩
                          have H6 := hid (H5.out.later hb6)
                          have HSL := hid hsl
                          have HLd := hid (lead_ok s d H6.out hsk (by omega))
                          obtain ⟨PF, HPF⟩ : ∃ PF, Hid ((V'.nd s).ld d = some (0, PF) ∧ PF.stt = 2) := HFin.out.2.2.2.2
                          have HLt : Hid (leadT (V'.nd s) d = ⟨#[100, 111, 110, 101]⟩) := by
                            unfold leadT
                            rw [HPF.out.1]
                            show stP PF.stt = _
                            rw [HPF.out.2]
                            rfl
                          rw [HJ.out.2.1, HLt.out] at HLd
                          clear hsl hb6 HStt
                          go_wp2_with fail
                          refine HLd.out.mono ?_
                          rintro e w7 ⟨rfl, hx⟩
                          subst w7
                          have HFl6 := hid (flying_any H6.out (by omega))
                          rw [HJ.out.2.1] at HFl6
                          go_wp2_with fail
                          refine HFl6.out.mono ?_
                          rintro e w8 ⟨v8, rfl, ho8, hb8⟩
                          obtain ⟨ad8, cap8, rfl⟩ : ∃ ad cap, v8 = .slice ad 0 cap := by
                            rw [HFin.out.1] at ho8
                            rcases ho8.2 with ⟨e, _⟩ | ⟨g, cap, cur, e, -⟩
                            · exact ⟨_, _, e⟩
                            · exact ⟨_, _, e⟩
                          have H8 := hid (H6.out.later hb8)
                          have HSL8 := hid (HSL.out.later hb8)
                          clear ho8 hb8
                          go_wp2_with fail
                          go_loopw [19] (fun v wq => ∃ i : Nat, i ≤ k ∧ v = .int .i64 (i : Int) ∧ wq = w8) (fun v _ => k - (intOf v).toNat)
                          case atStart => exact ⟨0, Nat.zero_le _, rfl, rfl⟩
                          case round =>
                            obtain ⟨i, hik, rfl, hwq⟩ := hrel
                            subst hwq
                            by_cases hil : i < k
                            · have hil' : (i : Int) < (k : Int) := by omega
                              obtain ⟨bS, oS, hadS, z0, -, -⟩ := HSL8.out i (by rw [stsL_length]; exact hil)
                              rw [stsL_get] at z0
                              subst hadS
                              have HPi := hid (HFin.out.2.1 i (by rw [HN.out]; exact hil))
                              rw [HPi.out, show ((2 : Nat) : Int) = 2 from rfl] at z0
                              go_wp2_with fail
                              go_roundw
                              case rel => exact ⟨i + 1, by omega, by go_num, by trivial⟩
                              case measure => simp [intOf]; omega
                            · have hil' : ¬ (i : Int) < (k : Int) := by omega
                              have HEv := hid (events_any H8.out)
                              rw [HJ.out.2.1] at HEv
                              have HLen : Hid (V'.evs.length = k) := by rw [← HN.out]; exact HFin.out.2.2.1
                              have HOut : Hid (outE (d : Int) V'.evs = 2) := outE_all V'.evs (fun e => by have := HLen.out; rw [e] at this; simp at this; omega) HFin.out.2.2.2.1
                              go_wp2_with fail
                              refine HEv.out.mono ?_
                              rintro e w9 ⟨v9, rfl, ho9, hb9⟩
                              obtain ⟨ad9, cap9, rfl, -, -, hel9⟩ := own_el ho9
                              have HOc := hid (joutcome_any ad9 cap9 V'.evs (d : Int) w9 hel9 (by rw [HLen.out]; omega))
                              rw [HOut.out, HLen.out] at HOc
                              have H9 := hid (H8.out.later hb9)
                              rw [HLen.out]
                              clear ho9 hb9 hel9
                              go_wp2_with fail
                              refine HOc.out.mono ?_
                              rintro e w10 ⟨rfl, hb10⟩
                              have H10 := hid (H9.out.later hb10)
                              have HEv2 := hid (events_any H10.out)
                              rw [HJ.out.2.1] at HEv2
                              clear hb10
                              go_wp2_with fail
                              refine HEv2.out.mono ?_
                              rintro e w11 ⟨v11, rfl, ho11, hb11⟩
                              obtain ⟨ad11, cap11, rfl, -, -, -⟩ := own_el ho11
                              rw [HLen.out]
                              have HBz := hid (below_trans HB2.out (H10.out.later hb11).bel)
                              clear ho11 hb11
                              go_wp2_with fail
                              go_ret
                              exact ⟨rfl, HBz.out⟩
  · obtain ⟨c, hc⟩ : ∃ c, Hid (errW zs = c) := ⟨_, rfl⟩
    have hcp : (0 : Int) < (c : Int) := by have := hc.out; omega
    go_enter Tryz.func3, Tryz.ntmps3
    go_wp2_with fail
    refine (born_any A w HE.out).mono ?_
    rintro e w1 ⟨rfl, hb⟩
    have HB1 := hid hb
    have HWe := hid (rErr_any _ zs w1 (HV.out.later hb))
    rw [hc.out] at HWe
    clear hb
    go_wp2_with fail
    refine HWe.out.mono ?_
    rintro e w2 ⟨rfl, hx⟩
    subst w2
    go_wp2_with fail
    go_ret
    exact ⟨rfl, HB1.out⟩
end Go.Proofs.YtdpemmmbkjmplabGreatDoor
namespace Go.Proofs.YtdpemmmbkjmplabGreatDoor
open Go.ChangeShapes Go.WideShapes Go.RowKit

/-- A slice of integers that came in is a slice of numbers. -/
theorem isSl_of_trod {H : Type} {enc : TypeId × Value → H} {W : World} {a : Option Addr} {len cap fuel : Nat} {d : DataW H} {p : List MemPlace} {sp : Nat → Bool} {held : Bool}
    (hf : DataW.trod enc Tryz.prog W 0 sp held fuel 22 (Value.slice a len cap).cells.toList = some (d, p)) : ∃ zs, IsSl W (.slice a len cap) zs := by
  rcases open_ints Tryz.underlying22 Tryz.underlying3 (by kernel_rfl) hf with ⟨hcs, _⟩ | ⟨x, l, c, zs, hcs, _, hl, hm, hz, _, hcell, hwz⟩
  · simp [Value.cells] at hcs
    obtain ⟨rfl, rfl, rfl⟩ := hcs
    exact ⟨[], none, 0, rfl, by simp, fun _ => rfl, fun h => by cases h⟩
  · simp [Value.cells] at hcs
    obtain ⟨rfl, rfl, rfl⟩ := hcs
    have hzl : len ≤ zs.length := by rw [hz]; split <;> omega
    have hlen : (zs.take len).length = len := by rw [List.length_take]; omega
    refine ⟨zs.take len, some x, cap, by rw [hlen], by omega, (fun h => by cases h), fun h0 => ?_⟩
    rw [hlen] at h0
    have hx := hcell 0 (by omega)
    have hsp : x.spot = none := by
      cases hq : x.spot with
      | none => rfl
      | some k => unfold World.cell? Addr.add at hx; simp [hq] at hx; revert hx; split <;> simp
    obtain ⟨b, off, sp⟩ := x
    simp at hsp
    subst hsp
    refine ⟨b, off, rfl, fun i hi => ?_⟩
    rw [hlen] at hi
    have := hcell i (by omega)
    have e : (⟨b, off, none⟩ : Addr).add i = ⟨b, off + i, none⟩ := by unfold Addr.add; split <;> simp_all
    rw [e] at this
    rw [this]
    simp [List.getD, hi]
end Go.Proofs.YtdpemmmbkjmplabGreatDoor
namespace Go.Proofs.YtdpemmmbkjmplabGreatDoor
open Go.ChangeShapes Go.WideShapes Go.RowKit

theorem own : ownKnob Tryz.prog.godebug = none := by kernel_rfl
theorem laidOut : laidOutB Tryz.prog = true := by kernel_rfl
theorem star : "*" ++ "errors.errorString" = "*errors.errorString" := by decide
theorem rowErrS (u : TypeId) (h : Tryz.prog.typeName? 3 u = some "*errors.errorString") : u = 222 :=
  typeName_ptr_named (nm := "errors.errorString") (by rw [star]; kernel_rfl) (by kernel_rfl) (by decide) u (by rw [star]; exact h)
theorem cellsErrS : Tryz.prog.cellsOf 242 = 1 := by kernel_rfl
theorem cellsString : Tryz.prog.cellsOf 9 = 1 := by kernel_rfl

/-- An error of errors.New, read through. -/
def errD (text : List UInt8) : DataW Unit := .iface "*errors.errorString" (.ptr (.agg [.lit (.string text)]))

/-- What a listed error variable (number g) and its address a have. -/
structure Sent (W : World) (g : Nat) (a : Addr) : Prop where
  var : W.cell? ⟨g, 0, none⟩ = some (.iface 222 (.pointer (some a)))
  str : ∃ s, W.cell? a = some (.string s)
  row : ∃ c t, W.heap[a.block]? = some (.cells c t (0, 0))

set_option maxRecDepth 100000 in
theorem sents {W : World} : ∀ (l : List (String × DataW Unit)) (gs : List Nat) (texts : List (List UInt8)),
    l.map (fun x => Tryz.prog.globalNamed x.1) = gs.map some → (∀ g ∈ gs, (Tryz.prog.globals[g]?).map (·.type) = some 28) → l.map (·.2) = texts.map errD →
    ∀ ps, DataW.LaidVars Tryz.prog W l ps → ps.Nodup →
    (∀ b off, MemPlace.cell b off ∈ ps → (∃ c t, W.heap[b]? = some (.cells c t (0, 0))) ∧ ∀ u v, W.cell? ⟨b, off, none⟩ = some (.iface u v) → Value.okWide Tryz.prog W .any 0 u v) →
    ∃ ads : List Addr, ads.length = gs.length ∧ ads.Nodup ∧ (∀ a ∈ ads, MemPlace.cell a.block a.off ∈ ps ∧ a.spot = none) ∧ ∀ (i g : Nat) (a : Addr), gs[i]? = some g → ads[i]? = some a → Sent W g a
  | [], [], _, _, _, _, _, _, _, _ => ⟨[], rfl, List.nodup_nil, (fun a h => by cases h), fun i g a h => by simp at h⟩
  | [], _ :: _, _, h, _, _, _, _, _, _ => by simp at h
  | _ :: _, [], _, h, _, _, _, _, _, _ => by simp at h
  | _ :: _, _ :: _, [], _, _, h, _, _, _, _ => by simp at h
  | (n, d) :: l, g :: gs, text :: texts, hg, ht, hd, ps, hl, hnd, hrows => by
    simp only [List.map_cons, List.cons.injEq] at hg hd
    obtain ⟨hg0, hg⟩ := hg
    obtain ⟨hd0, hd⟩ := hd
    obtain ⟨g', t, cs, fuel, p, q, e1, e2, e3, e4, e5, rfl⟩ := hl
    obtain rfl := Option.some.inj (hg0.symm.trans e1)
    obtain rfl := Option.some.inj ((ht g (List.mem_cons_self)).symm.trans e2)
    subst hd0
    obtain ⟨l0⟩ := cs
    have hvc : ∀ v, l0 = [v] → W.cell? ⟨g, 0, none⟩ = some v := fun v e => by subst e; simpa using World.var?_cell hg0 e3 0
    have ok0 : ∀ u v, l0 = [.iface u v] → Value.okWide Tryz.prog W .any 0 u v := fun u v e => (hrows g 0 (by subst e; simp [MemPlace.row])).2 u v (hvc _ e)
    obtain ⟨a0, s0, rfl, hc0, hs0, hz0, rfl⟩ := errorString_of_trod Tryz.underlying28 rowErrS Tryz.underlying222 Tryz.underlying242 rfl rfl Tryz.underlying9 cellsErrS cellsString e4 ok0
    have hr0 := (hrows a0.block a0.off (by simp [MemPlace.row])).1
    obtain ⟨ads, h1, h2, h3, h4⟩ := sents l gs texts hg (fun g' hm => ht g' (List.mem_cons_of_mem _ hm)) hd q e5 (hnd.sublist (List.sublist_append_right _ _)) (fun b off hm => hrows b off (List.mem_append_right _ hm))
    have hsp : a0.spot = none := by
      cases hq : a0.spot with
      | none => rfl
      | some k => unfold World.cell? at hc0; rw [hq] at hc0; revert hc0; split <;> simp
    refine ⟨a0 :: ads, by simp [h1], ?_, ?_, ?_⟩
    · refine List.nodup_cons.2 ⟨fun hm => ?_, h2⟩
      have hq := (h3 a0 hm).1
      rw [List.append_assoc] at hnd
      have h5 := (List.nodup_append.1 (List.nodup_append.1 hnd).2.1).2.2 (MemPlace.cell a0.block a0.off) (by simp [MemPlace.row]) _ hq
      exact h5 rfl
    · intro a hm
      rcases List.mem_cons.1 hm with rfl | hm
      · exact ⟨by simp [MemPlace.row], hsp⟩
      · exact ⟨List.mem_append_right _ (h3 a hm).1, (h3 a hm).2⟩
    · intro i g' a hgi hai
      cases i with
      | zero =>
        simp at hgi hai
        subst hgi; subst hai
        exact ⟨hvc _ rfl, ⟨s0, hc0⟩, hr0⟩
      | succ i => exact h4 i g' a (by simpa using hgi) (by simpa using hai)
def textOf : DataW Unit → List UInt8
  | .iface _ (.ptr (.agg [.lit (.string t)])) => t
  | _ => []
end Go.Proofs.YtdpemmmbkjmplabGreatDoor
namespace Go.Proofs.YtdpemmmbkjmplabGreatDoor
open Go.ChangeShapes Go.WideShapes Go.RowKit

theorem door_met9 (os : Os) (args : Array Value) : laidMetH Tryz.prog Rows.worldAgreesRow.laid ((World.doorLaid Tryz.prog 187 os).forCall (fun _ _ => 0) ⟨#[], args, []⟩).memory :=
  laidMetH_of_parts3 (fuel := 8) (laidMet_of_run' 8 (by kernel_rfl) (by kernel_rfl)) (by kernel_rfl) (by kernel_rfl)
theorem plainOf : (Rows.worldAgreesRow.laid.filter fun x => x.2.handleName?.isNone).map (fun x => Tryz.prog.globalNamed x.1) = [6, 3, 4, 1, 7, 5, 8, 0, 2].map some := by kernel_rfl
theorem textsOf : (Rows.worldAgreesRow.laid.filter fun x => x.2.handleName?.isNone).map (·.2) = ((Rows.worldAgreesRow.laid.filter fun x => x.2.handleName?.isNone).map fun x => textOf x.2).map errD := by kernel_rfl
theorem typesOf : ([6, 3, 4, 1, 7, 5, 8, 0, 2].all fun g => ((Tryz.prog.globals[g]?).map (·.type)) == some 28) = true := by kernel_rfl
theorem handleOf : (Rows.worldAgreesRow.laid.filter fun x => x.2.handleName?.isSome) = Rows.worldAgreesRow.laid.take 1 := by kernel_rfl
theorem gErrT : Tryz.prog.globalNamed (Rows.worldAgreesRow.laid.map (·.1)).head! = some 9 := by kernel_rfl
theorem rtypeT : (Tryz.prog.cutTypes.find? (·.1 == "internal/reflectlite.rtype")).map (·.2) = some 191 := by kernel_rfl
theorem oneRow : ((List.range 254).filter fun t => Tryz.prog.rowNamed t [101, 114, 114, 111, 114]) = [28] := by kernel_rfl
theorem sizeT : Tryz.prog.types.size = 254 := by kernel_rfl
theorem handleErr : typeHandle Tryz.prog 28 = .pointer (some ⟨10, 28, none⟩) := by kernel_rfl

theorem handle_of {W : World} (h : handlesMet Tryz.prog (Rows.worldAgreesRow.laid.filter fun x => x.2.handleName?.isSome) W) : W.cell? ⟨9, 0, none⟩ = some (.iface 191 (.agg #[.pointer (some ⟨10, 28, none⟩)])) := by
  rw [handleOf] at h
  obtain ⟨name, u, ty, e1, e2, e3, e4, e5⟩ := h _ (List.mem_singleton.2 rfl)
  have en : name = [101, 114, 114, 111, 114] := (Option.some.inj e1).symm
  subst en
  obtain rfl := Option.some.inj (rtypeT.symm.trans e2)
  have hm : ty ∈ (List.range 254).filter fun t => Tryz.prog.rowNamed t [101, 114, 114, 111, 114] := List.mem_filter.2 ⟨List.mem_range.2 (by rw [← sizeT]; exact e3), e4⟩
  rw [oneRow] at hm
  obtain rfl := List.mem_singleton.1 hm
  rw [handleErr] at e5
  simpa using World.var?_cell gErrT e5 0

theorem held9_of_laid {W : World} (h : laidMetH Tryz.prog Rows.worldAgreesRow.laid W) : ∃ A, Held9 W A := by
  obtain ⟨⟨ps, h1, h2, h3⟩, hh⟩ := laidMetH_iff.1 h
  obtain ⟨ads, hl, hnd, -, hs⟩ := sents _ [6, 3, 4, 1, 7, 5, 8, 0, 2] _ plainOf
    (fun g hg => by simpa using List.all_eq_true.1 typesOf g hg) textsOf ps h1 h2 h3
  have hlen : ads.length = 9 := by rw [hl]; rfl
  have hgs : ∀ i, i < 9 → [6, 3, 4, 1, 7, 5, 8, 0, 2][i]? = some (gN i) := by
    intro i hi
    have : i = 0 ∨ i = 1 ∨ i = 2 ∨ i = 3 ∨ i = 4 ∨ i = 5 ∨ i = 6 ∨ i = 7 ∨ i = 8 := by omega
    rcases this with rfl | rfl | rfl | rfl | rfl | rfl | rfl | rfl | rfl <;> rfl
  have hat : ∀ i (hi : i < 9), ads[i]? = some (ads.getD i ⟨0, 0, none⟩) := by
    intro i hi
    rw [List.getD_eq_getElem?_getD, List.getElem?_eq_getElem (by omega)]; rfl
  refine ⟨fun i => ads.getD i ⟨0, 0, none⟩, fun i hi => (hs i (gN i) _ (hgs i hi) (hat i hi)).var, ?_, fun i hi => (hs i (gN i) _ (hgs i hi) (hat i hi)).row, handle_of hh⟩
  intro i j hi hj hne e
  have e1 := hat i hi
  have e2 := hat j hj
  rw [e] at e1
  exact hne ((List.getElem?_inj (by omega) hnd).1 (e1.trans e2.symm))
end Go.Proofs.YtdpemmmbkjmplabGreatDoor
