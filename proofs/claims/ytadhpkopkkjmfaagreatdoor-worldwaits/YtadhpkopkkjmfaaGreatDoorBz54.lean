/-
  On the way to WEndsProof, WWaitsProof: YR.
-/
import Derived.Test.YtadhpkopkkjmfaaGreatDoorBz51
set_option maxHeartbeats 8000000
set_option maxRecDepth 100000
namespace Go.Proofs.YtadhpkopkkjmfaaGreatDoor
open Go.RowKit
def wtF (f : F9) : Nat := if f.k = 1 ∨ f.k = 3 ∨ f.k = 5 then 2 else 1
def wtL (L : List F9) : Nat := (L.map wtF).sum
def potL (n : Nat) : Option (Int × PL) → Nat
  | none => 0
  | some y => if y.2.stt = 0 then 3 * n else if y.2.stt = 1 then n else 0
def sumN (g : Nat → Nat) : Nat → Nat
  | 0 => 0
  | k + 1 => sumN g k + g k
theorem sumN_le {g h : Nat → Nat} : ∀ {k : Nat}, (∀ i, i < k → g i ≤ h i) → sumN g k ≤ sumN h k
  | 0, _ => Nat.le_refl _
  | k + 1, hl => Nat.add_le_add (sumN_le fun i hi => hl i (by omega)) (hl k (by omega))
theorem sumN_one {g h : Nat → Nat} {j a b : Nat} : ∀ {k : Nat}, j < k → (∀ i, i < k → i ≠ j → g i ≤ h i) → g j + a ≤ h j + b → sumN g k + a ≤ sumN h k + b
  | 0, hj, _, _ => absurd hj (Nat.not_lt_zero _)
  | k + 1, hj, hl, hab => by
    show sumN g k + g k + a ≤ sumN h k + h k + b
    by_cases e : j = k
    · subst e
      have := sumN_le (g := g) (h := h) (k := j) fun i hi => hl i (by omega) (by omega)
      omega
    · have h1 := sumN_one (k := k) (by omega) (fun i hi hne => hl i (by omega) hne) hab
      have h2 := hl k (by omega) (fun q => e q.symm)
      omega
def potN (n : Nat) (N : PN) : Nat := sumN (fun d => potL n (N.ld d)) 6
def pot (zs : List Int) (V : PX) : Nat := wtL V.fly + sumN (fun i => potN zs.length (V.nd i)) zs.length
theorem wtL_append (L M : List F9) : wtL (L ++ M) = wtL L + wtL M := by simp [wtL]
theorem wtL_erase : ∀ (L : List F9) (k : Nat) (f : F9), L[k]? = some f → wtL (L.eraseIdx k) + wtF f = wtL L
  | [], _, _, h => by simp at h
  | g :: r, 0, f, h => by
    obtain rfl : g = f := by simpa using h
    simp [wtL]
    omega
  | g :: r, k + 1, f, h => by
    have := wtL_erase r k f (by simpa using h)
    simp [wtL] at this ⊢
    omega
theorem wtL_to (id : Nat) (deal kind att ph : Int) (n : Nat) : wtL (toL id deal kind att ph n) = n * (if kind = 1 ∨ kind = 3 ∨ kind = 5 then 2 else 1) := by
  induction n with
  | zero => simp [toL, wtL]
  | succ n ih =>
    rw [toL, wtL_append, ih, Nat.succ_mul]
    rfl
section
variable {zs : List Int} {V : PX} {m : Nat}
theorem pot_lead {i : Nat} {d att : Int} {P : PL} {f : F9} (n : Nat) (hn : zs.length = n) : potL n (some (att, (phear zs i d att P f).1)) + wtL (outL i d att n (phear zs i d att P f).2) ≤ potL n (some (att, P)) := by
  have key : ∀ x : PL × Option (Int × Int), (x.2 = none ∧ (x.1.stt = P.stt ∨ 2 ≤ x.1.stt)) ∨ (∃ p, x.2 = some (7, p) ∧ x.1.stt = 2 ∧ P.stt ≤ 1) ∨ (∃ p, x.2 = some (5, p) ∧ x.1.stt = 1 ∧ P.stt = 0) → potL n (some (att, x.1)) + wtL (outL i d att n x.2) ≤ potL n (some (att, P)) := by
    rintro ⟨Q, o⟩ (⟨h1, h2⟩ | ⟨p, h1, h2, h3⟩ | ⟨p, h1, h2, h3⟩)
    · simp only at h1 h2
      subst h1
      show potL n (some (att, Q)) + 0 ≤ _
      unfold potL
      simp only
      rcases h2 with h2 | h2
      · rw [h2]; exact Nat.le_refl _
      · rw [if_neg (by omega), if_neg (by omega)]; exact Nat.zero_le _
    · simp only at h1 h2
      subst h1
      show potL n (some (att, Q)) + wtL (toL i d 7 att p n) ≤ _
      rw [wtL_to, if_neg (by decide)]
      unfold potL
      simp only
      rw [h2, if_neg (by decide), if_neg (by decide)]
      have : P.stt = 0 ∨ P.stt = 1 := by omega
      rcases this with e | e <;> rw [e] <;> simp <;> omega
    · simp only at h1 h2
      subst h1
      show potL n (some (att, Q)) + wtL (toL i d 5 att p n) ≤ _
      rw [wtL_to, if_pos (by decide)]
      unfold potL
      simp only
      rw [h2, h3, if_neg (by decide), if_pos rfl, if_pos rfl]
      omega
  refine key _ ?_
  unfold phear
  by_cases ht : takesB zs.length i d att P f = true
  · rw [if_pos ht]
    obtain ⟨-, hw, -, -⟩ := takesB_in ht
    obtain ⟨q1, -, -, -⟩ := seeP_of (noteP P f) f.pr
    have q1' : (seeP (noteP P f) f.pr).stt = P.stt := q1
    unfold takenP
    rcases waitsY hw with ⟨e1, e2, -⟩ | ⟨e1, e2, -⟩ | ⟨e1, e2⟩
    · rw [if_pos e1]
      unfold voteP
      split
      · exact .inr (.inl ⟨3, rfl, rfl, by omega⟩)
      · split
        · exact .inr (.inr ⟨4, rfl, rfl, e2⟩)
        · exact .inl ⟨rfl, .inl rfl⟩
    · rw [if_neg (by omega)]
      split
      · exact .inl ⟨rfl, .inr (by show 2 ≤ 3; decide)⟩
      · first | rw [if_pos e1] | skip
        unfold tellP
        split
        · exact .inl ⟨rfl, .inl q1'⟩
        · split
          · exact .inr (.inl ⟨_, rfl, rfl, by omega⟩)
          · exact .inr (.inr ⟨_, rfl, rfl, e2⟩)
    · rw [if_neg (by omega)]
      split
      · exact .inl ⟨rfl, .inr (by show 2 ≤ 3; decide)⟩
      · first | rw [if_neg (show ¬ f.k = 4 by omega)] | skip
        unfold ackP
        split
        · exact .inl ⟨rfl, .inl q1'⟩
        · exact .inr (.inl ⟨_, rfl, rfl, by omega⟩)
  · rw [if_neg ht]
    exact .inl ⟨rfl, .inl rfl⟩
theorem wtF_pos (f : F9) : 1 ≤ wtF f := by unfold wtF; split <;> omega
theorem pot_ans {i : Nat} {N : PN} {f : F9} : wtL (ansN i N f) + 1 ≤ wtF f := by
  unfold ansN
  split
  · rename_i hc
    have hk := hc.2
    have h7 : ∀ s r k a p, (hearL s r k a p).k ≠ 0 → (k = 1 ∧ (hearL s r k a p).k = 2) ∨ (k = 3 ∧ (hearL s r k a p).k = 4) ∨ (k = 5 ∧ (hearL s r k a p).k = 6) := by
      intro s r k a p
      unfold hearL
      repeat' split
      all_goals simp
      all_goals assumption
    have := h7 _ _ _ _ _ hk
    have hw : wtF f = 2 := by
      unfold wtF
      rw [if_pos]
      omega
    have hz : ∀ a b c : Int, ∀ y : Bool, ∀ p q r : Int, ((gHN N f).k = 2 ∨ (gHN N f).k = 4 ∨ (gHN N f).k = 6) → wtL [⟨a, b, c, (gHN N f).k, f.a, y, p, q, r⟩] = 1 := by
      intro a b c y p q r h
      show wtF ⟨a, b, c, (gHN N f).k, f.a, y, p, q, r⟩ + 0 = 1
      unfold wtF
      rw [if_neg]
      show ¬ (((gHN N f).k : Int) = 1 ∨ ((gHN N f).k : Int) = 3 ∨ ((gHN N f).k : Int) = 5)
      omega
    rw [hz _ _ _ _ _ _ _ (by rcases this with x | x | x; exact .inl x.2; exact .inr (.inl x.2); exact .inr (.inr x.2)), hw]
    exact Nat.le_refl _
  · have := wtF_pos f
    show 0 + 1 ≤ _
    omega
theorem pot_hear (N : PN) (f : F9) (n : Nat) : potN n (hearN N f) ≤ potN n N := by
  unfold potN
  refine sumN_le fun d _ => ?_
  unfold hearN
  split
  · exact Nat.zero_le _
  · exact Nat.le_refl _
theorem pot_deliver {k : Nat} {f : F9} (hX : XI zs V m) (hk : V.fly[k]? = some f) : pot zs (deliverX zs V k f) + 1 ≤ pot zs V := by
  have hf : f ∈ V.fly := List.mem_iff_getElem?.2 ⟨k, hk⟩
  have hF := hX.fr f hf
  have ht : f.t.toNat < zs.length := by have := hF.t0; have := hF.t1; omega
  have hd6 : 0 ≤ f.d ∧ f.d ≤ 5 := hF.ok.2.2.1
  have hw := wtL_erase V.fly k f hk
  have hp := wtF_pos f
  unfold deliverX
  split
  · unfold arriveX arriveO
    split
    · cases hx : ((takeX V k).nd f.t.toNat).ld f.d.toNat with
      | none =>
        rw [(leadX_none hx).1, (leadX_none hx).2, sendX_nil]
        show wtL (V.fly.eraseIdx k) + sumN (fun i => potN zs.length (V.nd i)) zs.length + 1 ≤ wtL V.fly + sumN (fun i => potN zs.length (V.nd i)) zs.length
        omega
      | some x =>
        rw [(leadX_some hx).1, (leadX_some hx).2]
        have hl := pot_lead (zs := zs) (i := f.t.toNat) (d := (f.d.toNat : Int)) (att := x.1) (P := x.2) (f := f) zs.length rfl
        show wtL (V.fly.eraseIdx k ++ outL f.t.toNat f.d.toNat x.1 zs.length (phear zs f.t.toNat f.d.toNat x.1 x.2 f).2) + sumN (fun i => potN zs.length ((setNd (takeX V k) f.t.toNat (setLd ((takeX V k).nd f.t.toNat) f.d.toNat (x.1, (phear zs f.t.toNat f.d.toNat x.1 x.2 f).1))).nd i)) zs.length + 1 ≤ wtL V.fly + sumN (fun i => potN zs.length (V.nd i)) zs.length
        rw [wtL_append]
        generalize (phear zs f.t.toNat f.d.toNat x.1 x.2 f) = R at *
        have hs := sumN_one (g := fun i => potN zs.length ((setNd (takeX V k) f.t.toNat (setLd ((takeX V k).nd f.t.toNat) f.d.toNat (x.1, R.1))).nd i)) (h := fun i => potN zs.length (V.nd i)) (j := f.t.toNat) (a := wtL (outL f.t.toNat f.d.toNat x.1 zs.length R.2)) (b := 0) ht
          (fun i _ hne => by show potN _ _ ≤ potN _ _; rw [nd_ne _ _ _ hne]; exact Nat.le_refl _) (by
            show potN zs.length ((setNd (takeX V k) f.t.toNat (setLd ((takeX V k).nd f.t.toNat) f.d.toNat (x.1, R.1))).nd f.t.toNat) + _ ≤ potN zs.length (V.nd f.t.toNat) + 0
            rw [nd_at]
            unfold potN
            refine sumN_one (j := f.d.toNat) (by omega) (fun e _ hne => by show potL _ _ ≤ potL _ _; rw [ld_ne _ _ _ hne]; exact Nat.le_refl _) ?_
            show potL zs.length ((setLd ((takeX V k).nd f.t.toNat) f.d.toNat (x.1, R.1)).ld f.d.toNat) + _ ≤ potL zs.length ((V.nd f.t.toNat).ld f.d.toNat) + 0
            rw [ld_at, show (V.nd f.t.toNat).ld f.d.toNat = some x from hx]
            exact hl)
        omega
    · have ha := pot_ans (i := f.t.toNat) (N := (takeX V k).nd f.t.toNat) (f := f)
      show wtL (V.fly.eraseIdx k ++ ansN f.t.toNat ((takeX V k).nd f.t.toNat) f) + sumN (fun i => potN zs.length ((setNd (takeX V k) f.t.toNat (hearN ((takeX V k).nd f.t.toNat) f)).nd i)) zs.length + 1 ≤ wtL V.fly + sumN (fun i => potN zs.length (V.nd i)) zs.length
      rw [wtL_append]
      have hs := sumN_le (g := fun i => potN zs.length ((setNd (takeX V k) f.t.toNat (hearN ((takeX V k).nd f.t.toNat) f)).nd i)) (h := fun i => potN zs.length (V.nd i)) (k := zs.length) (fun i _ => by
        show potN _ _ ≤ potN _ _
        by_cases e : i = f.t.toNat
        · subst e; rw [nd_at]; exact pot_hear _ _ _
        · rw [nd_ne _ _ _ e]; exact Nat.le_refl _)
      omega
  · show wtL (V.fly.eraseIdx k) + sumN (fun i => potN zs.length (V.nd i)) zs.length + 1 ≤ wtL V.fly + sumN (fun i => potN zs.length (V.nd i)) zs.length
    omega
end
end Go.Proofs.YtadhpkopkkjmfaaGreatDoor
