/-
  On the way to WCommitsProof: YM YN YOR.
-/
import Derived.Test.YtadhpkopkkjmfaaGreatDoorBz51
set_option maxHeartbeats 8000000
set_option maxRecDepth 100000
namespace Go.Proofs.YtadhpkopkkjmfaaGreatDoor
open Go.RowKit
def cnt (st : Nat → St) : Nat → Nat
  | 0 => 0
  | k + 1 => cnt st k + if finB (st k).ph = true then 1 else 0
theorem cnt_le (st : Nat → St) : ∀ k, cnt st k ≤ k
  | 0 => Nat.le_refl _
  | k + 1 => by have := cnt_le st k; unfold cnt; split <;> omega
theorem cnt_same {st st' : Nat → St} : ∀ {k : Nat}, (∀ i, i < k → (st' i).ph = (st i).ph) → cnt st' k = cnt st k
  | 0, _ => rfl
  | k + 1, h => by unfold cnt; rw [cnt_same fun i hi => h i (by omega), h k (by omega)]
theorem cnt_upd (st : Nat → St) (i : Nat) (t : St) : ∀ k, i < k → cnt (upd st i t) k + (if finB (st i).ph = true then 1 else 0) = cnt st k + if finB t.ph = true then 1 else 0
  | 0, h => absurd h (Nat.not_lt_zero _)
  | k + 1, h => by
    unfold cnt
    by_cases e : i = k
    · subst e
      rw [upd_at, cnt_same (st := st) fun j hj => by rw [upd_ne _ _ _ (by omega)]]
      omega
    · have := cnt_upd st i t k (by omega)
      rw [upd_ne _ _ _ (by omega : k ≠ i)]
      omega
theorem cnt_all {st : Nat → St} : ∀ {k : Nat}, (∀ i, i < k → finB (st i).ph = true) → cnt st k = k
  | 0, _ => rfl
  | k + 1, h => by unfold cnt; rw [cnt_all fun i hi => h i (by omega), if_pos (h k (by omega))]
structure CW (zs : List Int) (d s p : Nat) (rf : Nat → Bool) (V : PX) (m : Nat) (st : Nat → St) (P : PL) (fly : List F9) : Prop where
  xi : XI zs V m
  l : ∀ i, i < zs.length → (V.nd i).l = -1
  r : ∀ i, i < zs.length → (V.nd i).R d = rf i
  ec : V.evs.length = cnt st zs.length
  ev : ∀ e, e ∈ V.evs → e.d = (d : Int) ∧ e.p = (p : Int)
  st : ∀ i, i < zs.length → stN (V.nd i) d = st i
  ld : (V.nd s).ld d = some (0, P)
  br : ∀ a b, V.br a b = false
  fly : V.fly = fly
section
variable {zs : List Int} {d s p m : Nat} {rf : Nat → Bool} {V : PX} {st : Nat → St} {P : PL} {rest : List F9} {f : F9}
theorem CW.reach (h : CW zs d s p rf V m st P (f :: rest)) (hi : f.t.toNat < zs.length) : reachB V f = true := by
  unfold reachB brX upN
  rw [h.l _ hi, h.br]
  simp
theorem CW.take (h : CW zs d s p rf V m st P (f :: rest)) : (takeX V 0).fly = rest := by
  show V.fly.eraseIdx 0 = rest
  rw [h.fly]
  rfl
theorem CW.site (h : CW zs d s p rf V m st P (f :: rest)) (hm : m < 1000000) (hd : f.d = (d : Int)) {i : Nat} (ht : f.t = (i : Int)) (hi : i < zs.length) (hk : isAns f.k = false)
    (hfin : finB (hearL (st i) (rf i) f.k.toNat f.a.toNat f.ph.toNat).st.ph = true → (hearL (st i) (rf i) f.k.toNat f.a.toNat f.ph.toNat).st.ph = p) :
    CW zs d s p rf (deliverX zs V 0 f) (m + 2) (upd st i (hearL (st i) (rf i) f.k.toNat f.a.toNat f.ph.toNat).st) P (rest ++ (if (hearL (st i) (rf i) f.k.toNat f.a.toNat f.ph.toNat).k ≠ 0 then [ansF i f (hearL (st i) (rf i) f.k.toNat f.a.toNat f.ph.toNat)] else [])) := by
  have hti : f.t.toNat = i := by rw [ht]; exact Int.toNat_natCast i
  have hdi : f.d.toNat = d := by rw [hd]; exact Int.toNat_natCast d
  have hmem : f ∈ V.fly := by rw [h.fly]; exact List.mem_cons_self
  have hF := h.xi.fr f hmem
  have hX1 : XI zs (takeX V 0) m := h.xi.take
  have hu : ((takeX V 0).nd i).l ≠ -2 := by show (V.nd i).l ≠ -2; rw [h.l i hi]; decide
  have hh := hearN_hf (hX1.nd i hi) hu hF (by omega)
  have hsti : stN ((takeX V 0).nd i) f.d.toNat = st i := by rw [hdi]; exact h.st i hi
  have hg : gHN ((takeX V 0).nd i) f = hearL (st i) (rf i) f.k.toNat f.a.toNat f.ph.toNat := by
    unfold gHN
    rw [hsti, hdi, show ((takeX V 0).nd i).R d = rf i from h.r i hi]
  have hNI := hX1.nd i hi
  have hfree := put_free (B := ((takeX V 0).nd i).B) (d := d) (s := (hearL (st i) (rf i) f.k.toNat f.a.toNat f.ph.toNat).st) (by have := hNI.sz; omega) (by have := hF.ok.2.2.1; omega) (by have := hNI.nm d (by have := hF.ok.2.2.1; omega); have h2 : (dealL ((takeX V 0).nd i).B.data.toList d).1 ≤ m := this; omega)
  have hov : ((takeX V 0).nd i).over = false := hNI.up hu
  have hl1 : ((takeX V 0).nd i).l = -1 := h.l i hi
  have hgood := hh.good
  rw [hg] at hgood
  have hput : oHN ((takeX V 0).nd i) f = putIn (dealL ((takeX V 0).nd i).B.data.toList) ((takeX V 0).nd i).B (-1) d (hearL (st i) (rf i) f.k.toNat f.a.toNat f.ph.toNat).st := by
    unfold oHN
    rw [hg, hov, hl1, hdi]
    unfold pOut
    rw [if_neg (by decide), if_pos ⟨by have := hF.ok.2.2.1; omega, good_fits hgood⟩]
    simp only [Int.toNat_natCast]
    rfl
  have hc : (oHN ((takeX V 0).nd i) f).c = 0 := by rw [hput]; exact hfree.1
  have hlo : (oHN ((takeX V 0).nd i) f).l = -1 := by rw [hput]; exact hfree.2
  have hN : hearN ((takeX V 0).nd i) f = { (takeX V 0).nd i with B := (oHN ((takeX V 0).nd i) f).b, l := (oHN ((takeX V 0).nd i) f).l, over := (oHN ((takeX V 0).nd i) f).over } := by
    unfold hearN
    rw [if_neg (by omega)]
  have hans : ansN i ((takeX V 0).nd i) f = if (hearL (st i) (rf i) f.k.toNat f.a.toNat f.ph.toNat).k ≠ 0 then [ansF i f (hearL (st i) (rf i) f.k.toNat f.a.toNat f.ph.toNat)] else [] := by
    unfold ansN
    rw [hg]
    by_cases hk0 : (hearL (st i) (rf i) f.k.toNat f.a.toNat f.ph.toNat).k ≠ 0
    · rw [if_pos ⟨hc, hk0⟩, if_pos hk0]
      rfl
    · rw [if_neg (fun x => hk0 x.2), if_neg hk0]
  have hdel : deliverX zs V 0 f = sendX (hearX (takeX V 0) i f) (ansN i ((takeX V 0).nd i) f) := by
    unfold deliverX arriveX arriveO
    rw [if_pos (h.reach (by omega)), if_neg (by rw [hk]; decide), if_neg (by rw [hk]; decide), hti]
  have hsd : ∀ k, k < zs.length → stN ((hearX (takeX V 0) i f).nd k) d = upd st i (hearL (st i) (rf i) f.k.toNat f.a.toNat f.ph.toNat).st k := by
    intro k hk
    have := congrFun (hearX_st (V := takeX V 0) (i := i) hh hc) k
    rw [hdi] at this
    have h2 : stN ((hearX (takeX V 0) i f).nd k) d = upd (stD (takeX V 0) d) i (gHN ((takeX V 0).nd i) f).st k := this
    rw [h2, hg]
    unfold upd
    split
    · rfl
    · exact h.st k hk
  have hXh := hX1.hear hu hF (by omega) hi
  have hfi : ∀ x, x ∈ ansN i ((takeX V 0).nd i) f → FI zs.length x := ansN_fi (hX1.nd i hi) hu hF (by omega) (by rw [ht])
  have hXs := XI.send hXh hfi (by rw [hans]; split <;> simp)
  rw [hdel, ← hans]
  have hmay := hh.may
  rw [hsti, hg] at hmay
  have hev : (hearX (takeX V 0) i f).evs = noteE V.evs i d (st i).ph (hearL (st i) (rf i) f.k.toNat f.a.toNat f.ph.toNat).st.ph := by
    show noteE V.evs i f.d.toNat (stN ((takeX V 0).nd i) f.d.toNat).ph (stN (hearN ((takeX V 0).nd i) f) f.d.toNat).ph = _
    rw [hsti, hh.yes hc, hg, hdi]
  have hcu := cnt_upd st i (hearL (st i) (rf i) f.k.toNat f.a.toNat f.ph.toNat).st zs.length hi
  have hcl := cnt_le st zs.length
  have n7 := (errW_zero h.xi.he).2.1
  have hWl : ∀ k, k < zs.length → ((hearX (takeX V 0) i f).nd k).l = -1 := by
    intro k hk
    show ((setNd (takeX V 0) i (hearN ((takeX V 0).nd i) f)).nd k).l = -1
    by_cases e : k = i
    · subst e; rw [nd_at, hN]; exact hlo
    · rw [nd_ne _ _ _ e]; exact h.l k hk
  have hWr : ∀ k, k < zs.length → ((hearX (takeX V 0) i f).nd k).R d = rf k := by
    intro k hk
    show ((setNd (takeX V 0) i (hearN ((takeX V 0).nd i) f)).nd k).R d = rf k
    by_cases e : k = i
    · subst e; rw [nd_at, hN]; exact h.r k hk
    · rw [nd_ne _ _ _ e]; exact h.r k hk
  have hWd : ((hearX (takeX V 0) i f).nd s).ld d = some (0, P) := by
    show ((setNd (takeX V 0) i (hearN ((takeX V 0).nd i) f)).nd s).ld d = some (0, P)
    by_cases e : s = i
    · subst e; rw [nd_at, hN]; exact h.ld
    · rw [nd_ne _ _ _ e]; exact h.ld
  have hWb : ∀ a b, (hearX (takeX V 0) i f).br a b = false := h.br
  have hWf : (hearX (takeX V 0) i f).fly = rest := h.take
  generalize hearX (takeX V 0) i f = W at *
  generalize ansN i ((takeX V 0).nd i) f = L at *
  clear hN hput hh hfree hXh hfi hdel hNI
  generalize hO : (hearL (st i) (rf i) f.k.toNat f.a.toNat f.ph.toNat).st = o at *
  have hlen : W.evs.length = cnt (upd st i o) zs.length := by
    rw [hev]
    unfold noteE
    have hec := h.ec
    unfold mayN at hmay
    split
    · rename_i hcnd
      have hf2 : finB (st i).ph = false := by
        refine decide_eq_false fun x => hcnd.1 ?_
        omega
      rw [if_neg (by rw [hf2]; decide), if_pos hcnd.2.1] at hcu
      rw [List.length_append, List.length_singleton]
      omega
    · rename_i hcnd
      by_cases hof : finB o.ph = true
      · have heq : o.ph = (st i).ph := by
          refine Classical.byContradiction fun x => hcnd ⟨x, hof, ?_⟩
          omega
        rw [← heq, if_pos hof] at hcu
        omega
      · have hof2 : finB (st i).ph = false := by
          refine decide_eq_false fun x => hof (decide_eq_true ?_)
          omega
        rw [if_neg hof, if_neg (by rw [hof2]; decide)] at hcu
        omega
  have hevs : ∀ e, e ∈ W.evs → e.d = (d : Int) ∧ e.p = (p : Int) := by
    intro e he
    rw [hev] at he
    unfold noteE at he
    split at he
    · rename_i hcnd
      rcases List.mem_append.1 he with x | x
      · exact h.ev e x
      · rw [List.mem_singleton] at x
        subst x
        exact ⟨rfl, by show (o.ph : Int) = p; rw [hfin hcnd.2.1]⟩
    · exact h.ev e he
  exact ⟨hXs, hWl, hWr, hlen, hevs, hsd, hWd, hWb, by show W.fly ++ L = rest ++ L; rw [hWf]⟩
theorem CW.lead (h : CW zs d s p rf V m st P (f :: rest)) (hd : f.d = (d : Int)) (ht : f.t = (s : Int)) (hs : s < zs.length) (hk : isAns f.k = true) :
    CW zs d s p rf (deliverX zs V 0 f) (m + 1) st (phear zs s d 0 P f).1 (rest ++ outL s d 0 zs.length (phear zs s d 0 P f).2) := by
  have hti : f.t.toNat = s := by rw [ht]; exact Int.toNat_natCast s
  have hdi : f.d.toNat = d := by rw [hd]; exact Int.toNat_natCast d
  have hmem : f ∈ V.fly := by rw [h.fly]; exact List.mem_cons_self
  have hF := h.xi.fr f hmem
  have hX1 : XI zs (takeX V 0) m := h.xi.take
  have hx : ((takeX V 0).nd s).ld d = some (0, P) := h.ld
  have hdel : deliverX zs V 0 f = sendX (leadX zs (takeX V 0) s d f) (leadO zs (takeX V 0) s d f) := by
    unfold deliverX arriveX arriveO
    rw [if_pos (h.reach (by omega)), if_pos hk, if_pos hk, hti, hdi]
  have hXl := hX1.lead hF hs (d := d) (by have := hF.ok.2.2.1; omega)
  rw [hdel]
  have e1 := (leadX_some (zs := zs) (f := f) hx).1
  have e2 := (leadX_some (zs := zs) (f := f) hx).2
  rw [e1, e2] at hXl ⊢
  generalize (phear zs s d 0 P f).1 = Q at *
  have keep : ∀ k, (setNd (takeX V 0) s (setLd ((takeX V 0).nd s) d (0, Q))).nd k = if k = s then setLd (V.nd s) d (0, Q) else V.nd k := fun _ => rfl
  refine ⟨hXl, fun k hk => ?_, fun k hk => ?_, h.ec, h.ev, fun k hk => ?_, ?_, h.br, ?_⟩
  · show ((setNd (takeX V 0) s (setLd ((takeX V 0).nd s) d (0, Q))).nd k).l = -1
    rw [keep]
    split
    · exact h.l s hs
    · exact h.l k hk
  · show ((setNd (takeX V 0) s (setLd ((takeX V 0).nd s) d (0, Q))).nd k).R d = rf k
    rw [keep]
    split
    · rename_i e; rw [e]; exact h.r s hs
    · exact h.r k hk
  · show stN ((setNd (takeX V 0) s (setLd ((takeX V 0).nd s) d (0, Q))).nd k) d = st k
    rw [keep]
    split
    · rename_i e; rw [e]; exact h.st s hs
    · exact h.st k hk
  · show ((setNd (takeX V 0) s (setLd ((takeX V 0).nd s) d (0, Q))).nd s).ld d = _
    rw [nd_at, ld_at]
  · show (takeX V 0).fly ++ _ = _
    rw [h.take]
end
def frsL (g : Nat → F9) (k : Nat) : List F9 := (List.range k).map g
def sufL (g : Nat → F9) (k n : Nat) : List F9 := ((List.range n).map g).drop k
theorem frsL_succ (g : Nat → F9) (k : Nat) : frsL g (k + 1) = frsL g k ++ [g k] := by simp [frsL, List.range_succ]
theorem sufL_zero (g : Nat → F9) (n : Nat) : sufL g 0 n = frsL g n := rfl
theorem sufL_nil (g : Nat → F9) (n : Nat) : sufL g n n = [] := by unfold sufL; exact List.drop_eq_nil_of_le (by simp)
theorem sufL_cons (g : Nat → F9) {k n : Nat} (h : k < n) : sufL g k n = g k :: sufL g (k + 1) n := by
  unfold sufL
  rw [List.drop_eq_getElem_cons (by simpa using h)]
  simp
theorem toL_frs (id : Nat) (deal kind att ph : Int) : ∀ n, toL id deal kind att ph n = frsL (fun k => ⟨id, k, deal, kind, att, false, ph, 0, 0⟩) n
  | 0 => rfl
  | n + 1 => by rw [toL, toL_frs id deal kind att ph n, frsL_succ]
def FinC (zs : List Int) (d s p : Nat) (V : PX) : Prop := V.fly = [] ∧ (∀ i, i < zs.length → (stN (V.nd i) d).ph = p) ∧ V.evs.length = zs.length ∧ (∀ e, e ∈ V.evs → e.d = (d : Int) ∧ e.p = (p : Int)) ∧ ∃ P, (V.nd s).ld d = some (0, P) ∧ P.stt = 2
def GoC (zs : List Int) (d s p : Nat) : Nat → PX → Prop
  | 0, V => FinC zs d s p V
  | r + 1, V => ∃ f rest, V.fly = f :: rest ∧ GoC zs d s p r (deliverX zs V 0 f)
def GoB (zs : List Int) (d s p b : Nat) (V : PX) : Prop := ∃ r, r ≤ b ∧ GoC zs d s p r V
section
variable {zs : List Int} {d s p m : Nat} {rf : Nat → Bool} {V : PX} {st : Nat → St} {P : PL}
theorem GoB.step {b : Nat} {f : F9} {rest : List F9} (hf : V.fly = f :: rest) (h : GoB zs d s p b (deliverX zs V 0 f)) : GoB zs d s p (b + 1) V := by
  obtain ⟨r, h1, h2⟩ := h
  exact ⟨r + 1, by omega, f, rest, hf, h2⟩
theorem GoB.mono {b c : Nat} (h : GoB zs d s p b V) (hb : b ≤ c) : GoB zs d s p c V := by
  obtain ⟨r, h1, h2⟩ := h
  exact ⟨r, by omega, h2⟩
def decF (s d p : Nat) (i : Nat) : F9 := ⟨s, i, d, 7, 0, false, p, 0, 0⟩
def askF (s d : Nat) (i : Nat) : F9 := ⟨s, i, d, 1, 0, false, 0, 0, 0⟩
def preF (s d : Nat) (i : Nat) : F9 := ⟨s, i, d, 5, 0, false, 4, 0, 0⟩
def ackF (s d : Nat) (i : Nat) : F9 := ⟨i, s, d, 6, 0, true, 4, 0, 0⟩
def votF (s d : Nat) (rf : Nat → Bool) (i : Nat) : F9 := ⟨i, s, d, 2, 0, !rf i, if rf i = true then 3 else 1, 0, 0⟩
theorem goE (hp : p = 2 ∨ p = 3) : ∀ (r k : Nat) (V : PX) (m : Nat) (st : Nat → St), k + r = zs.length → CW zs d s p rf V m st P (sufL (decF s d p) k zs.length) → P.stt = 2 → (∀ i, i < k → (st i).ph = p) → (∀ i, i < zs.length → finB (st i).ph = true → (st i).ph = p) → m + 2 * r < 1000000 → GoB zs d s p r V
  | 0, k, V, m, st, hk, h, hP, h1, h2, hm => by
    obtain rfl : k = zs.length := by omega
    rw [sufL_nil] at h
    refine ⟨0, Nat.le_refl _, h.fly, fun i hi => by rw [h.st i hi]; exact h1 i hi, ?_, h.ev, P, h.ld, hP⟩
    rw [h.ec]
    exact cnt_all fun i hi => by rw [h1 i hi]; exact decide_eq_true hp
  | r + 1, k, V, m, st, hk, h, hP, h1, h2, hm => by
    have hkn : k < zs.length := by omega
    rw [sufL_cons _ hkn] at h
    have hL : hearL (st k) (rf k) (decF s d p k).k.toNat (decF s d p k).a.toNat (decF s d p k).ph.toNat = if finB p = true ∧ finB (st k).ph = false then ⟨⟨p, (st k).pr, (st k).at_⟩, 0, false⟩ else ⟨st k, 0, false⟩ := by
      show hearL (st k) (rf k) 7 0 (p : Int).toNat = _
      rw [Int.toNat_natCast]
      unfold hearL
      rw [if_neg (by decide), if_neg (by decide), if_neg (by decide), if_pos rfl]
    have hfp : finB p = true := decide_eq_true hp
    have hph : (hearL (st k) (rf k) (decF s d p k).k.toNat (decF s d p k).a.toNat (decF s d p k).ph.toNat).st.ph = p ∧ (hearL (st k) (rf k) (decF s d p k).k.toNat (decF s d p k).a.toNat (decF s d p k).ph.toNat).k = 0 := by
      rw [hL]
      by_cases hf : finB (st k).ph = false
      · rw [if_pos ⟨hfp, hf⟩]; exact ⟨rfl, rfl⟩
      · rw [if_neg (fun x => hf x.2)]
        exact ⟨h2 k hkn (by cases hq : finB (st k).ph with | true => rfl | false => exact absurd hq hf), rfl⟩
    have hs := h.site (by omega) rfl rfl hkn rfl (fun _ => hph.1)
    generalize hearL (st k) (rf k) (decF s d p k).k.toNat (decF s d p k).a.toNat (decF s d p k).ph.toNat = o at *
    rw [if_neg (fun x => x hph.2), List.append_nil] at hs
    refine GoB.step h.fly (goE hp r (k + 1) _ (m + 2) _ (by omega) hs hP (fun i hi => ?_) (fun i hi hf => ?_) (by omega))
    · by_cases e : i = k
      · subst e; rw [upd_at]; exact hph.1
      · rw [upd_ne _ _ _ e]; exact h1 i (by omega)
    · by_cases e : i = k
      · subst e; rw [upd_at]; exact hph.1
      · rw [upd_ne _ _ _ e] at hf ⊢; exact h2 i hi hf
theorem phear_done {a : Int} {f : F9} (h : P.stt = 2) : phear zs s d a P f = (P, none) := by
  unfold phear
  rw [if_neg]
  intro ht
  obtain ⟨-, hw, -, -⟩ := takesB_in ht
  have := waitsY hw
  omega
theorem goI {g : Nat → F9} {rest : List F9} {q : Nat} (hs : s < zs.length) (hg : ∀ i, i < zs.length → isAns (g i).k = true ∧ (g i).d = (d : Int) ∧ (g i).t = (s : Int)) (hP : P.stt = 2) (hq : ∀ V m, m < 900000 → CW zs d s p rf V m st P rest → GoB zs d s p q V) :
    ∀ (r k : Nat) (V : PX) (m : Nat), k + r = zs.length → CW zs d s p rf V m st P (sufL g k zs.length ++ rest) → m + 2 * r < 900000 → GoB zs d s p (r + q) V
  | 0, k, V, m, hk, h, hm => by
    obtain rfl : k = zs.length := by omega
    rw [sufL_nil, List.nil_append] at h
    exact (hq V m (by omega) h).mono (by omega)
  | r + 1, k, V, m, hk, h, hm => by
    have hkn : k < zs.length := by omega
    rw [sufL_cons _ hkn, List.cons_append] at h
    obtain ⟨g1, g2, g3⟩ := hg k hkn
    have hl := h.lead g2 g3 hs g1
    rw [phear_done hP] at hl
    have hl2 : CW zs d s p rf (deliverX zs V 0 (g k)) (m + 1) st P (sufL g (k + 1) zs.length ++ rest ++ []) := hl
    rw [List.append_nil] at hl2
    exact (GoB.step h.fly (goI hs hg hP hq r (k + 1) _ (m + 1) (by omega) hl2 (by omega))).mono (by omega)
theorem ans_next {n k : Nat} (hn : n ≤ 7) (hk : k < n) : ansS (2 ^ k - 1) k = 2 ^ (k + 1) - 1 ∧ bit (2 ^ k - 1) k = false := by
  have h7 : k = 0 ∨ k = 1 ∨ k = 2 ∨ k = 3 ∨ k = 4 ∨ k = 5 ∨ k = 6 := by omega
  rcases h7 with rfl | rfl | rfl | rfl | rfl | rfl | rfl <;> exact ⟨by decide, by decide⟩
theorem goD (he : errW zs = 0) (hs : s < zs.length) : ∀ (r k : Nat) (V : PX) (m : Nat) (P : PL), k + r = zs.length → 0 < r → CW zs d s 2 rf V m st P (sufL (ackF s d) k zs.length) → P.stt = 1 → P.prep = 4 → P.ans = 2 ^ k - 1 → (∀ i, i < zs.length → (st i).ph = 4) → m + 2 * r + 100 < 900000 → GoB zs d s 2 (r + zs.length) V
  | 0, _, _, _, _, _, h0, _, _, _, _, _, _ => absurd h0 (Nat.lt_irrefl _)
  | r + 1, k, V, m, P, hk, _, h, hs1, hpr, han, hst, hm => by
    have n7 := (errW_zero he).2.1
    have hkn : k < zs.length := by omega
    rw [sufL_cons _ hkn] at h
    have hl := h.lead (f := ackF s d k) rfl rfl hs rfl
    obtain ⟨a1, a2⟩ := ans_next n7 hkn
    have htk : takesB zs.length s d 0 P (ackF s d k) = true := by
      unfold takesB waitsB
      rw [hs1, han]
      have hb : bit (2 ^ k - 1) ((ackF s d k).f.toNat) = false := by show bit (2 ^ k - 1) ((k : Int).toNat) = false; rw [Int.toNat_natCast]; exact a2
      rw [hb, decide_eq_true (show (ackF s d k).t = (s : Int) ∧ (ackF s d k).d = (d : Int) ∧ (ackF s d k).a = 0 from ⟨rfl, rfl, rfl⟩), decide_eq_true (show 0 ≤ (ackF s d k).f ∧ (ackF s d k).f < zs.length from ⟨by show (0 : Int) ≤ k; omega, by show (k : Int) < zs.length; omega⟩)]
      rfl
    obtain ⟨q1, q2, q3, q4⟩ := seeP_of (noteP P (ackF s d k)) 4
    have hq0 : (noteP P (ackF s d k)).ans = 2 ^ (k + 1) - 1 := by
      show ansS P.ans ((k : Int).toNat) = _
      rw [Int.toNat_natCast, han, a1]
    have hph : phear zs s d 0 P (ackF s d k) = ackP zs (seeP (noteP P (ackF s d k)) 0) := by
      unfold phear
      rw [if_pos htk]
      unfold takenP
      rw [if_neg (by show ¬ (6 : Int) = 2; decide), if_neg (by show ¬ (true = false); decide), if_neg (by show ¬ (6 : Int) = 4; decide)]
      rfl
    obtain ⟨q1, q2, q3, q4⟩ := seeP_of (noteP P (ackF s d k)) 0
    rw [hph] at hl
    generalize seeP (noteP P (ackF s d k)) 0 = Q at *
    have hQa : Q.ans = 2 ^ (k + 1) - 1 := by rw [q2, hq0]
    have hQp : Q.prep = 4 := by rw [q4]; exact hpr
    have hQs : Q.stt = 1 := by rw [q1]; exact hs1
    unfold ackP at hl
    by_cases hen : enoughB zs Q.ans = false
    · rw [if_pos hen] at hl
      have hl2 : CW zs d s 2 rf (deliverX zs V 0 (ackF s d k)) (m + 1) st Q (sufL (ackF s d) (k + 1) zs.length ++ []) := hl
      rw [List.append_nil] at hl2
      have hr : 0 < r := by
        rcases Nat.eq_zero_or_pos r with e | e
        · have hall := allEnough he
          rw [hQa, show k + 1 = zs.length by omega, hall] at hen
          cases hen
        · exact e
      exact (GoB.step h.fly (goD he hs r (k + 1) _ (m + 1) Q (by omega) hr hl2 hQs hQp hQa hst (by omega))).mono (by omega)
    · rw [if_neg hen, hQp] at hl
      have hl2 : CW zs d s 2 rf (deliverX zs V 0 (ackF s d k)) (m + 1) st { Q with stt := 2 } (sufL (ackF s d) (k + 1) zs.length ++ toL s d 7 0 2 zs.length) := hl
      rw [toL_frs] at hl2
      have hI := goI (g := ackF s d) (rest := sufL (decF s d 2) 0 zs.length) (q := zs.length) hs (fun i _ => ⟨rfl, rfl, rfl⟩) rfl
        (fun V2 m2 hm2 hc2 => goE (.inl rfl) zs.length 0 V2 m2 st (by omega) hc2 rfl (fun i hi => absurd hi (Nat.not_lt_zero _)) (fun i hi hf => by rw [hst i hi] at hf; cases hf) (by omega)) r (k + 1) _ (m + 1) (by omega) hl2 (by omega)
      exact (GoB.step h.fly hI).mono (by omega)
theorem goP (he : errW zs = 0) (hs : s < zs.length) : ∀ (r k : Nat) (V : PX) (m : Nat) (st : Nat → St), k + r = zs.length → CW zs d s 2 rf V m st P (sufL (preF s d) k zs.length ++ frsL (ackF s d) k) → P.stt = 1 → P.prep = 4 → P.ans = 0 → (∀ i, i < zs.length → st i = if i < k then ⟨4, 0, 0⟩ else ⟨1, 0, 0⟩) → m + 2 * r + 200 < 900000 → GoB zs d s 2 (r + 2 * zs.length) V
  | 0, k, V, m, st, hk, h, h1, h2, h3, hst, hm => by
    obtain rfl : k = zs.length := by omega
    rw [sufL_nil, List.nil_append, ← sufL_zero] at h
    have hn := (errW_zero he).1
    exact (goD he hs zs.length 0 V m P (by omega) hn h h1 h2 (by rw [h3]; rfl) (fun i hi => by rw [hst i hi, if_pos hi]) (by have := (errW_zero he).2.1; omega)).mono (by omega)
  | r + 1, k, V, m, st, hk, h, h1, h2, h3, hst, hm => by
    have hkn : k < zs.length := by omega
    rw [sufL_cons _ hkn, List.cons_append] at h
    have hsk := hst k hkn
    rw [if_neg (Nat.lt_irrefl _)] at hsk
    have hL : hearL (st k) (rf k) (preF s d k).k.toNat (preF s d k).a.toNat (preF s d k).ph.toNat = ⟨⟨4, 0, 0⟩, 6, true⟩ := by rw [hsk]; rfl
    have hsi := h.site (by omega) rfl rfl hkn rfl (fun x => by rw [hL] at x; cases x)
    rw [hL, if_pos (by decide)] at hsi
    have hsi2 : CW zs d s 2 rf (deliverX zs V 0 (preF s d k)) (m + 2) (upd st k ⟨4, 0, 0⟩) P (sufL (preF s d) (k + 1) zs.length ++ frsL (ackF s d) k ++ [ackF s d k]) := hsi
    rw [List.append_assoc, ← frsL_succ] at hsi2
    refine (GoB.step h.fly (goP he hs r (k + 1) _ (m + 2) _ (by omega) hsi2 h1 h2 h3 (fun i hi => ?_) (by omega))).mono (by omega)
    by_cases e : i = k
    · subst e; rw [upd_at, if_pos (by omega)]
    · rw [upd_ne _ _ _ e, hst i hi]
      by_cases hlt : i < k
      · rw [if_pos hlt, if_pos (by omega)]
      · rw [if_neg hlt, if_neg (by omega)]
theorem goV (he : errW zs = 0) (hs : s < zs.length) (hst : ∀ i, i < zs.length → st i = if rf i = true then ⟨3, 0, 0⟩ else ⟨1, 0, 0⟩) : ∀ (r k : Nat) (V : PX) (m : Nat) (P : PL), k + r = zs.length → 0 < r → CW zs d s p rf V m st P (sufL (votF s d rf) k zs.length) → P.stt = 0 → P.ans = 2 ^ k - 1 → ((p = 3 ∧ ∃ j, k ≤ j ∧ j < zs.length ∧ rf j = true) ∨ (p = 2 ∧ ∀ j, j < zs.length → rf j = false)) → m + 2 * r + 300 < 900000 → GoB zs d s p (r + 3 * zs.length) V
  | 0, _, _, _, _, _, h0, _, _, _, _, _ => absurd h0 (Nat.lt_irrefl _)
  | r + 1, k, V, m, P, hk, _, h, hs1, han, hp, hm => by
    have n7 := (errW_zero he).2.1
    have hkn : k < zs.length := by omega
    rw [sufL_cons _ hkn] at h
    have hl := h.lead (f := votF s d rf k) rfl rfl hs rfl
    obtain ⟨a1, a2⟩ := ans_next n7 hkn
    have htk : takesB zs.length s d 0 P (votF s d rf k) = true := by
      unfold takesB waitsB
      rw [hs1, han]
      have hb : bit (2 ^ k - 1) ((votF s d rf k).f.toNat) = false := by show bit (2 ^ k - 1) ((k : Int).toNat) = false; rw [Int.toNat_natCast]; exact a2
      rw [hb, decide_eq_true (show (votF s d rf k).t = (s : Int) ∧ (votF s d rf k).d = (d : Int) ∧ (votF s d rf k).a = 0 from ⟨rfl, rfl, rfl⟩), decide_eq_true (show 0 ≤ (votF s d rf k).f ∧ (votF s d rf k).f < zs.length from ⟨by show (0 : Int) ≤ k; omega, by show (k : Int) < zs.length; omega⟩)]
      rfl
    have hq0 : (noteP P (votF s d rf k)).ans = 2 ^ (k + 1) - 1 := by
      show ansS P.ans ((k : Int).toNat) = _
      rw [Int.toNat_natCast, han, a1]
    have hph : phear zs s d 0 P (votF s d rf k) = voteP zs.length (noteP P (votF s d rf k)) (!rf k) := by
      unfold phear
      rw [if_pos htk]
      unfold takenP
      rw [if_pos (by rfl)]
      rfl
    have hQs : (noteP P (votF s d rf k)).stt = 0 := hs1
    rw [hph] at hl
    generalize noteP P (votF s d rf k) = Q at *
    unfold voteP at hl
    cases hrf : rf k with
    | true =>
      obtain rfl : p = 3 := by
        rcases hp with x | x
        · exact x.1
        · have := x.2 k hkn; rw [hrf] at this; cases this
      rw [if_pos (by rw [hrf]; rfl)] at hl
      have hl2 : CW zs d s 3 rf (deliverX zs V 0 (votF s d rf k)) (m + 1) st { Q with stt := 2 } (sufL (votF s d rf) (k + 1) zs.length ++ toL s d 7 0 3 zs.length) := hl
      rw [toL_frs] at hl2
      have hI := goI (g := votF s d rf) (rest := sufL (decF s d 3) 0 zs.length) (q := zs.length) hs (fun i _ => ⟨rfl, rfl, rfl⟩) rfl
        (fun V2 m2 hm2 hc2 => goE (.inr rfl) zs.length 0 V2 m2 st (by omega) hc2 rfl (fun i hi => absurd hi (Nat.not_lt_zero _)) (fun i hi hf => by
          rw [hst i hi] at hf ⊢
          by_cases x : rf i = true
          · rw [if_pos x]
          · rw [if_neg x] at hf; cases hf) (by omega)) r (k + 1) _ (m + 1) (by omega) hl2 (by omega)
      exact (GoB.step h.fly hI).mono (by omega)
    | false =>
      rw [if_neg (by rw [hrf]; decide)] at hl
      by_cases hfull : Q.ans = 2 ^ zs.length - 1
      · have hkl : k + 1 = zs.length := by
          rw [hq0] at hfull
          have h7 : zs.length = 1 ∨ zs.length = 2 ∨ zs.length = 3 ∨ zs.length = 4 ∨ zs.length = 5 ∨ zs.length = 6 ∨ zs.length = 7 := by omega
          have h8 : k = 0 ∨ k = 1 ∨ k = 2 ∨ k = 3 ∨ k = 4 ∨ k = 5 ∨ k = 6 := by omega
          rcases h7 with e | e | e | e | e | e | e <;> rw [e] at hfull ⊢ <;> rcases h8 with rfl | rfl | rfl | rfl | rfl | rfl | rfl <;> first | rfl | (exact absurd hfull (by decide))
        rw [if_pos hfull] at hl
        have hno : p = 2 ∧ ∀ j, j < zs.length → rf j = false := by
          rcases hp with ⟨-, j, j1, j2, j3⟩ | x
          · obtain rfl : j = k := by omega
            rw [hrf] at j3; cases j3
          · exact x
        obtain ⟨rfl, hno⟩ := hno
        have hl2 : CW zs d s 2 rf (deliverX zs V 0 (votF s d rf k)) (m + 1) st { Q with stt := 1, prep := 4, ans := 0 } (sufL (votF s d rf) (k + 1) zs.length ++ toL s d 5 0 4 zs.length) := hl
        rw [hkl, sufL_nil, List.nil_append, toL_frs] at hl2
        have hl3 : CW zs d s 2 rf (deliverX zs V 0 (votF s d rf k)) (m + 1) st { Q with stt := 1, prep := 4, ans := 0 } (sufL (preF s d) 0 zs.length ++ frsL (ackF s d) 0) := by
          show CW zs d s 2 rf _ (m + 1) st _ (sufL (preF s d) 0 zs.length ++ [])
          rw [List.append_nil]
          exact hl2
        exact (GoB.step h.fly (goP he hs zs.length 0 _ (m + 1) st (by omega) hl3 rfl rfl rfl (fun i hi => by rw [hst i hi, if_neg (by rw [hno i hi]; decide), if_neg (Nat.not_lt_zero _)]) (by omega))).mono (by omega)
      · rw [if_neg hfull] at hl
        have hl2 : CW zs d s p rf (deliverX zs V 0 (votF s d rf k)) (m + 1) st Q (sufL (votF s d rf) (k + 1) zs.length ++ []) := hl
        rw [List.append_nil] at hl2
        have hr : 0 < r := by
          rcases Nat.eq_zero_or_pos r with e | e
          · rw [hq0, show k + 1 = zs.length by omega] at hfull
            exact absurd rfl hfull
          · exact e
        refine (GoB.step h.fly (goV he hs hst r (k + 1) _ (m + 1) Q (by omega) hr hl2 hQs hq0 ?_ (by omega))).mono (by omega)
        rcases hp with ⟨x, j, j1, j2, j3⟩ | x
        · refine .inl ⟨x, j, ?_, j2, j3⟩
          rcases Nat.lt_or_ge k j with y | y
          · exact y
          · obtain rfl : j = k := by omega
            rw [hrf] at j3; cases j3
        · exact .inr x
theorem goA (he : errW zs = 0) (hs : s < zs.length) (hP : P.stt = 0) (hPa : P.ans = 0) (hp : (p = 3 ∧ ∃ j, j < zs.length ∧ rf j = true) ∨ (p = 2 ∧ ∀ j, j < zs.length → rf j = false)) : ∀ (r k : Nat) (V : PX) (m : Nat) (st : Nat → St), k + r = zs.length → CW zs d s p rf V m st P (sufL (askF s d) k zs.length ++ frsL (votF s d rf) k) → (∀ i, i < zs.length → st i = if i < k then (if rf i = true then ⟨3, 0, 0⟩ else ⟨1, 0, 0⟩) else ⟨0, 0, 0⟩) → m + 2 * r + 400 < 900000 → GoB zs d s p (r + 4 * zs.length) V
  | 0, k, V, m, st, hk, h, hst, hm => by
    obtain rfl : k = zs.length := by omega
    rw [sufL_nil, List.nil_append, ← sufL_zero] at h
    have hn := (errW_zero he).1
    have n7 := (errW_zero he).2.1
    refine (goV he hs (fun i hi => by rw [hst i hi, if_pos hi]) zs.length 0 V m P (by omega) hn h hP (by rw [hPa]; rfl) ?_ (by omega)).mono (by omega)
    rcases hp with ⟨x, j, j1, j2⟩ | x
    · exact .inl ⟨x, j, Nat.zero_le _, j1, j2⟩
    · exact .inr x
  | r + 1, k, V, m, st, hk, h, hst, hm => by
    have hkn : k < zs.length := by omega
    rw [sufL_cons _ hkn, List.cons_append] at h
    have hsk := hst k hkn
    rw [if_neg (Nat.lt_irrefl _)] at hsk
    have hL : hearL (st k) (rf k) (askF s d k).k.toNat (askF s d k).a.toNat (askF s d k).ph.toNat = ⟨if rf k = true then ⟨3, 0, 0⟩ else ⟨1, 0, 0⟩, 2, !rf k⟩ := by
      rw [hsk]
      cases hr : rf k <;> rfl
    have hsi := h.site (by omega) rfl rfl hkn rfl (fun x => by
      rw [hL] at x ⊢
      cases hr : rf k with
      | true =>
        rcases hp with y | y
        · rw [y.1]; rfl
        · have := y.2 k hkn; rw [hr] at this; cases this
      | false => rw [hr] at x; cases x)
    rw [hL] at hsi
    have hsi2 : CW zs d s p rf (deliverX zs V 0 (askF s d k)) (m + 2) (upd st k (if rf k = true then ⟨3, 0, 0⟩ else ⟨1, 0, 0⟩)) P (sufL (askF s d) (k + 1) zs.length ++ frsL (votF s d rf) k ++ [ansF k (askF s d k) ⟨if rf k = true then ⟨3, 0, 0⟩ else ⟨1, 0, 0⟩, 2, !rf k⟩]) := hsi
    have hvf : ansF k (askF s d k) ⟨if rf k = true then ⟨3, 0, 0⟩ else ⟨1, 0, 0⟩, 2, !rf k⟩ = votF s d rf k := by
      unfold ansF votF askF
      cases hr : rf k <;> rfl
    rw [hvf, List.append_assoc, ← frsL_succ] at hsi2
    refine (GoB.step h.fly (goA he hs hP hPa hp r (k + 1) _ (m + 2) _ (by omega) hsi2 (fun i hi => ?_) (by omega))).mono (by omega)
    by_cases e : i = k
    · subst e; rw [upd_at, if_pos (show i < i + 1 by omega)]
    · rw [upd_ne _ _ _ e, hst i hi]
      by_cases hlt : i < k
      · rw [if_pos hlt, if_pos (show i < k + 1 by omega)]
      · rw [if_neg hlt, if_neg (show ¬ i < k + 1 by omega)]
end
theorem stN_fresh (i d : Nat) (hd : d < 6) : stN (newX.nd i) d = ⟨0, 0, 0⟩ := by
  show (dealL (zeroB 512).data.toList d).2 = _
  rw [deal_zero 512 d (by omega)]
  rfl
structure RfI (zs : List Int) (V : PX) (d : Nat) (rf : Nat → Bool) : Prop where
  l : ∀ i, i < zs.length → (V.nd i).l = -1
  r : ∀ i, i < zs.length → (V.nd i).R d = rf i
  st : ∀ i, i < zs.length → stN (V.nd i) d = ⟨0, 0, 0⟩
  ld : ∀ i, i < zs.length → (V.nd i).ld d = none
  br : ∀ a b, V.br a b = false
  fly : V.fly = []
  evs : V.evs = []
section
variable {zs : List Int} {V : PX} {d s : Nat} {rf : Nat → Bool} {m : Nat}
theorem RfI.new (hd : d < 6) : RfI zs newX d (fun _ => false) := ⟨fun _ _ => rfl, fun _ _ => rfl, fun i _ => stN_fresh i d hd, fun _ _ => rfl, fun _ _ => rfl, rfl, rfl⟩
theorem RfI.refuse (h : RfI zs V d rf) (k : Nat) : RfI zs (refuseX V k d) d (fun i => if i = k then true else rf i) := by
  have keep : ∀ i, (refuseX V k d).nd i = if i = k then { V.nd k with R := updR (V.nd k).R d } else V.nd i := fun _ => rfl
  refine ⟨fun i hi => ?_, fun i hi => ?_, fun i hi => ?_, fun i hi => ?_, h.br, h.fly, h.evs⟩
  · rw [keep]; split
    · rename_i e; subst e; exact h.l i hi
    · exact h.l i hi
  · rw [keep]
    by_cases e : i = k
    · rw [if_pos e, if_pos e]
      show updR (V.nd k).R d d = true
      unfold updR
      simp
    · rw [if_neg e, if_neg e]; exact h.r i hi
  · rw [keep]; split
    · rename_i e; subst e; exact h.st i hi
    · exact h.st i hi
  · rw [keep]; split
    · rename_i e; subst e; exact h.ld i hi
    · exact h.ld i hi
theorem RfI.same (h : RfI zs V d rf) {rf' : Nat → Bool} (hr : ∀ i, i < zs.length → rf' i = rf i) : RfI zs V d rf' := ⟨h.l, fun i hi => (h.r i hi).trans (hr i hi).symm, h.st, h.ld, h.br, h.fly, h.evs⟩
theorem RfI.up (h : RfI zs V d rf) {i : Nat} (hi : i < zs.length) : upN (V.nd i) = true := by
  unfold upN; rw [h.l i hi]; rfl
theorem RfI.beg (h : RfI zs V d rf) (hs : s < zs.length) (hd : d < 6) : cBeg zs.length V (s : Int) (d : Int) = 0 := by
  unfold cBeg
  rw [if_pos ⟨⟨by omega, by omega⟩, by omega, by omega⟩, Int.toNat_natCast, Int.toNat_natCast, if_pos (h.up hs), if_neg ?_]
  unfold heldX
  rw [Bool.not_eq_true, List.any_eq_false]
  intro i hi
  have hin : i < zs.length := List.mem_range.1 hi
  rw [h.ld i hin, h.st i hin]
  decide
theorem RfI.cw (h : RfI zs V d rf) (hX : XI zs (beginX zs V s d) m) (p : Nat) : CW zs d s p rf (beginX zs V s d) m (fun _ => ⟨0, 0, 0⟩) P0 (sufL (askF s d) 0 zs.length ++ frsL (votF s d rf) 0) := by
  have keep : ∀ i, (beginX zs V s d).nd i = if i = s then setLd (V.nd s) d (0, P0) else V.nd i := fun _ => rfl
  refine ⟨hX, fun i hi => ?_, fun i hi => ?_, ?_, fun e he => ?_, fun i hi => ?_, ?_, h.br, ?_⟩
  · rw [keep]; split
    · rename_i e; subst e; exact h.l i hi
    · exact h.l i hi
  · rw [keep]; split
    · rename_i e; subst e; exact h.r i hi
    · exact h.r i hi
  · show V.evs.length = _
    rw [h.evs]
    have : ∀ k, cnt (fun _ => ⟨0, 0, 0⟩) k = 0 := by
      intro k
      induction k with
      | zero => rfl
      | succ k ih => unfold cnt; rw [ih]; rfl
    exact (this _).symm
  · have he2 : e ∈ V.evs := he
    rw [h.evs] at he2
    cases he2
  · rw [keep]; split
    · rename_i e; subst e; exact h.st i hi
    · exact h.st i hi
  · rw [keep, if_pos rfl, ld_at]
  · show V.fly ++ toL s d 1 0 0 zs.length = _
    rw [h.fly, toL_frs, List.nil_append]
    show _ = frsL (askF s d) zs.length ++ []
    rw [List.append_nil]
    rfl
end
end Go.Proofs.YtadhpkopkkjmfaaGreatDoor
