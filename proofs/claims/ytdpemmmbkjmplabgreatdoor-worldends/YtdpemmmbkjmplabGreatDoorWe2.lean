/-
  PLAIN: where a quorum is together: what a tick of one of its sites makes.
  PLAIN: where a quorum is together: the ticks of a round, to its deliveries.
  PLAIN: how great attempts are, and whose: behind any step.
  PLAIN: rounds: the sites of a set tick, in order; then all that is on its way is delivered, the first one first.
  PLAIN: where a quorum is together: behind two rounds each deal that one of it knows is decided at all of it.
  PLAIN: a set of sites is cut off from the others, and is up anew; how many frames are on their way; sites that are no quorum, along rounds.
  PLAIN: rounds, one after another; what two of them make where a quorum is together, what any make where none is.
-/
import Derived.Test.YtdpemmmbkjmplabGreatDoorWe1
namespace Go.Proofs.YtdpemmmbkjmplabGreatDoor
open Go.RowKit

section
variable {zs : List Int} {set : Int} {d q m : Nat} {A : Int} {V V' : PX} {f : F9} {rest : List F9}
theorem hears_deal {s e : Nat} {f : F9} : ∀ (L : List F9) (P : PL) (a : Int), f ∈ (hearsL zs s e a P L).2 → f.f = (s : Int) ∧ f.d = (e : Int) ∧ f.a = a ∧ (f.k = 5 ∨ f.k = 7)
  | [], _, _, h => by cases h
  | g :: r, P, a, h => by
    unfold hearsL at h
    rcases List.mem_append.1 h with x | x
    · cases hp : (phear zs s e a P g).2 with
      | none => rw [hp] at x; cases x
      | some z =>
        rw [hp] at x
        have h1 := (phear_out hp).1
        have h2 := toL_mem x
        exact ⟨h2.2.2.2.2.1, h2.2.2.2.2.2, h2.2.1, by have := h2.1; omega⟩
    · exact hears_deal r _ a x
/-- A try of a site with power on and no cut. -/
theorem try_out {s e : Nat} {a : Int} (hX : XI zs V m) (hm : m < 1000000) (hs : s < zs.length) (he : e < 6) (hl : (V.nd s).l = -1) (ha : 0 ≤ a ∧ a ≤ 1048576) :
    (tryX zs V s e a).fly = V.fly ++ (electL s e a zs.length ++ (hearsL zs s e a P0 (ansN s (V.nd s) (electF s e a))).2) ∧ (tryX zs V s e a).br = V.br ∧ (∀ i, i ≠ s → (tryX zs V s e a).nd i = V.nd i) ∧ ((tryX zs V s e a).nd s).l = -1 ∧
    (∀ c, c ≠ e → stN ((tryX zs V s e a).nd s) c = stN (V.nd s) c ∧ ((tryX zs V s e a).nd s).ld c = (V.nd s).ld c) ∧
    stN ((tryX zs V s e a).nd s) e = (gHN (V.nd s) (electF s e a)).st ∧ ((tryX zs V s e a).nd s).ld e = some (a, (hearsL zs s e a P0 (ansN s (V.nd s) (electF s e a))).1) ∧ (oHN (V.nd s) (electF s e a)).c = 0 := by
  have n7 := (errW_zero hX.he).2.1
  have hF := electF_fi (a := a) hs n7 he ha
  have hu : (V.nd s).l ≠ -2 := by rw [hl]; decide
  have hh := hearN_hf (hX.nd s hs) hu hF (by omega : m < 4000000000)
  obtain ⟨hc, hlh, hldh⟩ := hear_free (hX.nd s hs) hl hF hm
  have hup : upN (hearN (V.nd s) (electF s e a)) = true := by unfold upN; rw [hlh]; decide
  have hst : ∀ c, c ≠ e → stN (hearN (V.nd s) (electF s e a)) c = stN (V.nd s) c := fun c hne => by
    have := hearX_ne (V := V) (i := s) hh (d := c) (by show c ≠ ((e : Int).toNat); rw [Int.toNat_natCast]; exact hne) s
    have h2 : (hearX V s (electF s e a)).nd s = hearN (V.nd s) (electF s e a) := nd_at V s _
    rw [h2] at this
    exact this
  have hst2 : stN (hearN (V.nd s) (electF s e a)) e = (gHN (V.nd s) (electF s e a)).st := by
    have := congrFun (hearX_st (V := V) (i := s) hh hc) s
    rw [upd_at] at this
    have h2 : (hearX V s (electF s e a)).nd s = hearN (V.nd s) (electF s e a) := nd_at V s _
    have h3 : (electF s e a).d.toNat = e := Int.toNat_natCast e
    unfold stD at this
    rw [h2, h3] at this
    exact this
  unfold tryX
  rw [if_neg (by omega), if_neg (by rw [hup]; decide)]
  generalize (hearsL zs s e a P0 (ansN s (V.nd s) (electF s e a))) = R at *
  have hnd : (sendX (setNd (hearX V s (electF s e a)) s (setLd (hearN (V.nd s) (electF s e a)) e (a, R.1))) (electL s e a zs.length ++ R.2)).nd s = setLd (hearN (V.nd s) (electF s e a)) e (a, R.1) := nd_at _ s _
  refine ⟨rfl, rfl, fun i hi => ?_, ?_, fun c hne => ?_, ?_, ?_, hc⟩
  · show (setNd (hearX V s (electF s e a)) s _).nd i = _
    rw [nd_ne _ _ _ hi]
    exact nd_ne V s _ hi
  · rw [hnd]; exact hlh
  · rw [hnd]
    refine ⟨hst c hne, ?_⟩
    rw [ld_ne _ _ _ hne, hldh]
  · rw [hnd]; exact hst2
  · rw [hnd]; exact ld_at _ _ _
/-- Along the ticks, ahead of all deliveries: t sites have ticked. -/
structure TkI (zs : List Int) (set : Int) (d q : Nat) (A : Int) (V : PX) (t : Nat) : Prop where
  up : ∀ i, i < zs.length → bit set i = true → (V.nd i).l = -1
  br : ∀ a b, a < zs.length → b < zs.length → a ≠ b → (brX V a b = true ↔ ¬ (bit set a = true ∧ bit set b = true))
  old : ∀ i, i < zs.length → bit set i = true → t ≤ i → (V.nd i).ld d = none ∧ ((stN (V.nd i) d).pr : Int) < A ∧ finB (stN (V.nd i) d).ph = false ∧
    (stN (V.nd i) d ≠ St.zero → attemptX zs.length i (stN (V.nd i) d).pr ≤ A ∧ (attemptX zs.length i (stN (V.nd i) d).pr = A → i = q)) ∧ (i = q → stN (V.nd i) d ≠ St.zero ∧ attemptX zs.length i (stN (V.nd i) d).pr = A)
  new : ∀ i, i < zs.length → bit set i = true → i < t → ((stN (V.nd i) d).pr : Int) ≤ A ∧ (((stN (V.nd i) d).pr : Int) = A → i = q)
  ld : ∀ i x, i < zs.length → bit set i = true → (V.nd i).ld d = some x → x.1 ≤ A ∧ (x.1 = A → i = q)
  fr : ∀ f, f ∈ V.fly → f.d = (d : Int) → bit set f.f.toNat = true → (f.k = 3 ∨ f.k = 5) → f.a ≤ A ∧ (f.a = A → f.f = (q : Int) ∧ q < t)
  an : ∀ f, f ∈ V.fly → f.d = (d : Int) → f.t = (q : Int) → (f.k = 4 ∨ f.k = 6) → f.a < A
  e1 : V.fly.Pairwise fun f g => ∀ i, ¬ (isEl d q A i f ∧ isEl d q A i g)
  main : q < t → AskE zs set d q A V ∨ PreE zs set d q A V ∨ DecE d q V
/-- Behind them all. -/
theorem TkI.end (h : TkI zs set d q A V zs.length) (hq : q < zs.length) : EnI zs set d q A V :=
  ⟨h.up, h.br, fun i hi hb => (h.new i hi hb hi).1, fun f hf hd hb hk => ⟨(h.fr f hf hd hb hk).1, fun e => ((h.fr f hf hd hb hk).2 e).1⟩, h.e1,
    fun f hf hd ht _ hk ha _ => absurd (h.an f hf hd ht (.inr hk)) (by omega), h.ld, .inr (h.main hq)⟩
/-- A site that is not of the set does not tick. -/
theorem TkI.skip {s : Nat} (h : TkI zs set d q A V s) (hbq : bit set q = true) (hb : bit set s = false) : TkI zs set d q A V (s + 1) := by
  have hne : ∀ i, bit set i = true → i ≠ s := fun i hi e => by rw [e, hb] at hi; cases hi
  refine ⟨h.up, h.br, fun i hi hbi ht => h.old i hi hbi (by omega), fun i hi hbi ht => h.new i hi hbi (by have := hne i hbi; omega), h.ld, fun f hf hd hbf hk => ⟨(h.fr f hf hd hbf hk).1, fun e => ⟨((h.fr f hf hd hbf hk).2 e).1, by have := ((h.fr f hf hd hbf hk).2 e).2; omega⟩⟩, h.an, h.e1, fun hq => h.main (by have := hne q hbq; omega)⟩
/-- Nothing of the deal turns. -/
theorem TkI.other {t : Nat} {L : List F9} (h : TkI zs set d q A V t) (hfl : V'.fly = V.fly ++ L) (hL : ∀ g, g ∈ L → g.d ≠ (d : Int)) (hbr : V'.br = V.br)
    (hnd : ∀ i, i < zs.length → bit set i = true → (V'.nd i).l = -1 ∧ stN (V'.nd i) d = stN (V.nd i) d ∧ (V'.nd i).ld d = (V.nd i).ld d) (hq : q < zs.length) (hbq : bit set q = true) : TkI zs set d q A V' t := by
  have hold : ∀ g, g ∈ V'.fly → g.d = (d : Int) → g ∈ V.fly := fun g hg hd => by
    rw [hfl] at hg
    rcases List.mem_append.1 hg with x | x
    · exact x
    · exact absurd hd (hL g x)
  have hin : ∀ g, g ∈ V.fly → g ∈ V'.fly := fun g hg => by rw [hfl]; exact List.mem_append.2 (.inl hg)
  refine ⟨fun i hi hb => (hnd i hi hb).1, fun a b ha hb hab => ?_, fun i hi hb ht => ?_, fun i hi hb ht => ?_, fun i x hi hb hx => ?_, fun f hf hd => h.fr f (hold f hf hd) hd, fun f hf hd => h.an f (hold f hf hd) hd, ?_, fun hqt => ?_⟩
  · have := h.br a b ha hb hab
    unfold brX at this ⊢
    rw [hbr]; exact this
  · rw [(hnd i hi hb).2.1, (hnd i hi hb).2.2]; exact h.old i hi hb ht
  · rw [(hnd i hi hb).2.1]; exact h.new i hi hb ht
  · rw [(hnd i hi hb).2.2] at hx; exact h.ld i x hi hb hx
  · rw [hfl]
    exact pair_app h.e1 fun g hg i hE => hL g hg hE.2.2.1
  · rcases h.main hqt with ⟨⟨P, x1, x2, x3, x4⟩, x5, x6, x7⟩ | ⟨P, x1, x2, x3, x4, x5⟩ | ⟨g, x1, x2⟩
    · refine .inl ⟨⟨P, by rw [(hnd q hq hbq).2.2]; exact x1, x2, x3, fun i hi hb => ?_⟩, fun f i hf hi hb hE => ?_, fun f hf hd => x6 f (hold f hf hd) hd, fun f hf hd => x7 f (hold f hf hd) hd⟩
      · rcases x4 i hi hb with y | ⟨g, y1, y2⟩ | ⟨g, y1, y2⟩
        · exact .inl y
        · exact .inr (.inl ⟨g, hin g y1, y2⟩)
        · exact .inr (.inr ⟨g, hin g y1, y2⟩)
      · rw [(hnd i hi hb).2.1]; exact x5 f i (hold f hf hE.2.2.1) hi hb hE
    · refine .inr (.inl ⟨P, by rw [(hnd q hq hbq).2.2]; exact x1, x2, x3, x4, fun i hi hb => ?_⟩)
      rcases x5 i hi hb with y | ⟨g, y1, y2⟩ | ⟨g, y1, y2⟩
      · exact .inl y
      · exact .inr (.inl ⟨g, hin g y1, y2⟩)
      · exact .inr (.inr ⟨g, hin g y1, y2⟩)
    · exact .inr (.inr ⟨g, hin g x1, x2⟩)
/-- A tick's other deal. -/
theorem TkI.else {s e t : Nat} (h : TkI zs set d q A V t) (hX : XI zs V m) (hm : m < 1000000) (hs : s < zs.length) (hb : bit set s = true) (he : e < 6) (hne : e ≠ d) (hq : q < zs.length) (hbq : bit set q = true) : TkI zs set d q A (tickD zs V s e) t := by
  have hbd := aboveN_bd (hX.nd s hs) he
  have n7 := (errW_zero hX.he).2.1
  have hat := attemptX_bd zs.length s (aboveN (V.nd s) e) (by omega)
  unfold tickD
  split
  · exact h
  · split
    · refine h.other rfl (fun g hg => ?_) rfl (fun i hi hb => ⟨h.up i hi hb, rfl, rfl⟩) hq hbq
      rw [(toL_mem hg).2.2.2.2.2]; omega
    · generalize attemptX zs.length s (aboveN (V.nd s) e) = a at *
      by_cases hf : 1048576 < a
      · unfold tryX
        rw [if_pos hf]
        exact h
      · obtain ⟨k1, k2, k3, k4, k5, -⟩ := try_out (a := a) hX hm hs he (h.up s hs hb) (by omega)
        refine h.other k1 (fun g hg => ?_) k2 (fun i hi hbi => ?_) hq hbq
        · rcases List.mem_append.1 hg with y | y
          · unfold electL at y
            rw [(toL_mem (List.mem_of_mem_eraseIdx y)).2.2.2.2.2]; omega
          · rw [(hears_deal _ _ _ y).2.1]; omega
        · by_cases c : i = s
          · subst c
            exact ⟨k4, k5 d (fun z => hne z.symm)⟩
          · rw [k3 i c]
            exact ⟨h.up i hi hbi, rfl, rfl⟩
end
end Go.Proofs.YtdpemmmbkjmplabGreatDoor
namespace Go.Proofs.YtdpemmmbkjmplabGreatDoor
open Go.RowKit

theorem toL_at (id : Nat) (deal kind att ph : Int) (i : Nat) : ∀ n, i < n → (toL id deal kind att ph n)[i]? = some ⟨id, i, deal, kind, att, false, ph, 0, 0⟩
  | 0, h => absurd h (Nat.not_lt_zero _)
  | n + 1, h => by
    rw [toL]
    rcases Nat.lt_succ_iff_lt_or_eq.1 h with x | rfl
    · rw [List.getElem?_append_left (by rw [toL_length]; exact x)]
      exact toL_at id deal kind att ph i n x
    · rw [List.getElem?_append_right (by rw [toL_length]; exact Nat.le_refl _), toL_length, Nat.sub_self]
      rfl
theorem toL_to {id : Nat} {deal kind att ph : Int} {f : F9} : ∀ {n : Nat}, f ∈ toL id deal kind att ph n → f.t < n
  | 0, h => by cases h
  | n + 1, h => by
    rw [toL] at h
    rcases List.mem_append.1 h with x | x
    · have := toL_to x; omega
    · rw [List.mem_singleton] at x; rw [x]; show (n : Int) < _; omega
theorem toL_apart (id : Nat) (deal kind att ph : Int) : ∀ n, (toL id deal kind att ph n).Pairwise fun f g => f.t ≠ g.t
  | 0 => List.Pairwise.nil
  | n + 1 => by
    rw [toL, List.pairwise_append]
    refine ⟨toL_apart id deal kind att ph n, List.pairwise_singleton _ _, fun a ha b hb => ?_⟩
    rw [List.mem_singleton] at hb
    have := toL_to ha
    rw [hb]
    show a.t ≠ (n : Int)
    omega
theorem electL_has {s i e n : Nat} {a : Int} (hi : i < n) (hne : i ≠ s) : (⟨s, i, e, 3, a, false, 0, 0, 0⟩ : F9) ∈ electL s e a n :=
  List.mem_eraseIdx_iff_getElem?.2 ⟨i, hne, toL_at _ _ _ _ _ i n hi⟩
theorem electL_not {s e n : Nat} {a : Int} {f : F9} (hf : f ∈ electL s e a n) : f.t ≠ (s : Int) := by
  obtain ⟨i, hne, hi⟩ := List.mem_eraseIdx_iff_getElem?.1 hf
  have hlt : i < n := by
    have := List.getElem?_eq_some_iff.1 hi
    obtain ⟨h, -⟩ := this
    rw [toL_length] at h
    exact h
  rw [toL_at _ _ _ _ _ i n hlt] at hi
  cases hi
  show (i : Int) ≠ s
  omega
/-- What its site answers to an Elect above its promise. -/
theorem elect_yes {N : PN} {s e : Nat} {a : Int} (hc : (oHN N (electF s e a)).c = 0) (ha : ((stN N e).pr : Int) < a) :
    (gHN N (electF s e a)).st = ⟨(stN N e).ph, a.toNat, (stN N e).at_⟩ ∧ ansN s N (electF s e a) = [⟨s, s, e, 4, a, true, (stN N e).ph, a.toNat, (stN N e).at_⟩] := by
  have hg : gHN N (electF s e a) = ⟨⟨(stN N e).ph, a.toNat, (stN N e).at_⟩, 4, true⟩ := by
    unfold gHN hearL
    rw [if_neg (by show ¬ ((3 : Int).toNat = 1); decide), if_pos (by show (3 : Int).toNat = 3; decide)]
    have h3 : (electF s e a).d.toNat = e := Int.toNat_natCast e
    rw [h3, if_pos (by show (stN N e).pr < a.toNat; omega)]
    rfl
  refine ⟨by rw [hg], ?_⟩
  unfold ansN
  rw [hg, if_pos ⟨hc, (by decide : (4 : Nat) ≠ 0)⟩]
  rfl
/-- What its lead makes of that. -/
theorem lead_first {zs : List Int} {s e : Nat} {a p r b : Int} (he : errW zs = 0) (hs : s < zs.length) (ha : 0 < a) :
    ((phear zs s e a P0 ⟨s, s, e, 4, a, true, p, r, b⟩).2 = none ∧ (phear zs s e a P0 ⟨s, s, e, 4, a, true, p, r, b⟩).1.stt = 0 ∧ enoughB zs (phear zs s e a P0 ⟨s, s, e, 4, a, true, p, r, b⟩).1.ans = false ∧ bit (phear zs s e a P0 ⟨s, s, e, 4, a, true, p, r, b⟩).1.ans s = true) ∨
    (∃ v, (phear zs s e a P0 ⟨s, s, e, 4, a, true, p, r, b⟩).2 = some (5, v) ∧ (phear zs s e a P0 ⟨s, s, e, 4, a, true, p, r, b⟩).1.stt = 1 ∧ (phear zs s e a P0 ⟨s, s, e, 4, a, true, p, r, b⟩).1.prep = v ∧ (phear zs s e a P0 ⟨s, s, e, 4, a, true, p, r, b⟩).1.ans = 0 ∧ (v = 4 ∨ v = 5)) ∨
    ∃ v, (phear zs s e a P0 ⟨s, s, e, 4, a, true, p, r, b⟩).2 = some (7, v) ∧ (v = 2 ∨ v = 3) := by
  have hn := (errW_zero he).2.1
  have hp : phear zs s e a P0 ⟨s, s, e, 4, a, true, p, r, b⟩ = tellP zs (seeP (noteP P0 ⟨s, s, e, 4, a, true, p, r, b⟩) r) s ⟨p, r, b⟩ := by
    unfold phear
    rw [if_pos]
    · unfold takenP
      rw [if_neg (by show ¬ ((4 : Int) = 2); decide), if_neg (by show ¬ (true = false); decide), if_pos rfl]
      show tellP zs _ ((s : Int).toNat) _ = _
      rw [Int.toNat_natCast]
    · unfold takesB waitsB
      show (decide ((s : Int) = s ∧ (e : Int) = e ∧ a = a) && _ && decide (0 ≤ (s : Int) ∧ (s : Int) < zs.length) && !bit 0 ((s : Int).toNat)) = true
      rw [bit_zero, decide_eq_true (show (s : Int) = s ∧ (e : Int) = e ∧ a = a from ⟨rfl, rfl, rfl⟩), decide_eq_true (show 0 ≤ (s : Int) ∧ (s : Int) < zs.length by omega), decide_eq_true ha]
      rfl
  rw [hp]
  obtain ⟨q1, q2, -, -⟩ := seeP_of (noteP P0 ⟨s, s, e, 4, a, true, p, r, b⟩) r
  generalize seeP (noteP P0 ⟨s, s, e, 4, a, true, p, r, b⟩) r = Q at *
  have hQa : Q.ans = ansS 0 s := by rw [q2]; show ansS 0 ((s : Int).toNat) = _; rw [Int.toNat_natCast]
  have hQs : Q.stt = 0 := q1
  unfold tellP
  cases hen : enoughB zs Q.ans with
  | false =>
    rw [if_pos rfl]
    refine .inl ⟨rfl, hQs, hen, ?_⟩
    show bit Q.ans s = true
    rw [hQa, bit_set hn (Int.le_refl _) (Int.pow_pos (by decide)) hs, decide_eq_true rfl, Bool.or_true]
  | true =>
    rw [if_neg (by decide)]
    generalize hC : chooseL (toldS Q.told s ⟨p, r, b⟩) = c
    obtain ⟨cp, cf⟩ := c
    cases cf with
    | true =>
      rw [if_pos rfl]
      exact .inr (.inr ⟨cp, rfl, (choose_fin hC).1⟩)
    | false =>
      rw [if_neg (by simp)]
      exact .inr (.inl ⟨cp, rfl, rfl, rfl, rfl, (choose_pre hC).1⟩)
section
variable {zs : List Int} {set : Int} {d q m : Nat} {A : Int} {V V' : PX} {f : F9} {rest : List F9}
/-- The deal's own tick. -/
theorem TkI.own {s : Nat} (h : TkI zs set d q A V s) (hX : XI zs V m) (hm : m < 1000000) (hs : s < zs.length) (hb : bit set s = true) (hd : d < 6) (hq : q < zs.length) (hbq : bit set q = true) (hA : 0 < A ∧ A ≤ 1048576) : TkI zs set d q A (tickD zs V s d) (s + 1) := by
  have n7 := (errW_zero hX.he).2.1
  obtain ⟨o1, o2, o3, o4, o5⟩ := h.old s hs hb (Nat.le_refl _)
  by_cases hz : stN (V.nd s) d = St.zero
  · have ht : tickD zs V s d = V := by unfold tickD; rw [if_pos hz]
    have hne : s ≠ q := fun e => (o5 e).1 hz
    rw [ht]
    refine ⟨h.up, h.br, fun i hi hbi ht => h.old i hi hbi (by omega), fun i hi hbi ht => ?_, h.ld, fun f hf hfd hbf hk => ⟨(h.fr f hf hfd hbf hk).1, fun e => ⟨((h.fr f hf hfd hbf hk).2 e).1, by have := ((h.fr f hf hfd hbf hk).2 e).2; omega⟩⟩, h.an, h.e1, fun hqt => h.main (by omega)⟩
    by_cases c : i = s
    · subst c; exact ⟨by omega, fun e => by omega⟩
    · exact h.new i hi hbi (by omega)
  · have hab : aboveN (V.nd s) d = ((stN (V.nd s) d).pr : Int) := by unfold aboveN; rw [o1]
    have ht : tickD zs V s d = tryX zs V s d (attemptX zs.length s ((stN (V.nd s) d).pr : Int)) := by
      unfold tickD
      rw [if_neg hz, if_neg (by rw [o3]; decide), hab]
    have hat := attemptX_bd zs.length s ((stN (V.nd s) d).pr : Int) (by omega)
    obtain ⟨o41, o42⟩ := o4 hz
    have o52 : s = q → attemptX zs.length s ((stN (V.nd s) d).pr : Int) = A := fun e => (o5 e).2
    rw [ht]
    clear ht o4 o5 hab
    generalize attemptX zs.length s ((stN (V.nd s) d).pr : Int) = a at *
    obtain ⟨k1, k2, k3, k4, -, k6, k7, k8⟩ := try_out (a := a) hX hm hs hd (h.up s hs hb) (by omega)
    obtain ⟨y1, y2⟩ := elect_yes (N := V.nd s) (s := s) (e := d) (a := a) k8 (by omega)
    rw [y2] at k1 k7
    rw [y1] at k6
    have hlf := lead_first (zs := zs) (s := s) (e := d) (a := a) (p := (stN (V.nd s) d).ph) (r := a.toNat) (b := (stN (V.nd s) d).at_) hX.he hs (by omega)
    have hk : ∀ g, g ∈ electL s d a zs.length ++ (hearsL zs s d a P0 [⟨s, s, d, 4, a, true, (stN (V.nd s) d).ph, a.toNat, (stN (V.nd s) d).at_⟩]).2 → g.f = (s : Int) ∧ g.d = (d : Int) ∧ g.a = a ∧ (g.k = 3 ∨ g.k = 5 ∨ g.k = 7) := fun g hg => by
      rcases List.mem_append.1 hg with y | y
      · unfold electL at y
        have hm2 := toL_mem (List.mem_of_mem_eraseIdx y)
        exact ⟨hm2.2.2.2.2.1, hm2.2.2.2.2.2, hm2.2.1, .inl hm2.1⟩
      · have := hears_deal _ _ _ y
        exact ⟨this.1, this.2.1, this.2.2.1, by omega⟩
    have hh1 : (hearsL zs s d a P0 [⟨s, s, d, 4, a, true, (stN (V.nd s) d).ph, a.toNat, (stN (V.nd s) d).at_⟩]) = ((phear zs s d a P0 ⟨s, s, d, 4, a, true, (stN (V.nd s) d).ph, a.toNat, (stN (V.nd s) d).at_⟩).1, outL s d a zs.length (phear zs s d a P0 ⟨s, s, d, 4, a, true, (stN (V.nd s) d).ph, a.toNat, (stN (V.nd s) d).at_⟩).2 ++ []) := rfl
    have hp5 : ∀ g, g ∈ (hearsL zs s d a P0 [⟨s, s, d, 4, a, true, (stN (V.nd s) d).ph, a.toNat, (stN (V.nd s) d).at_⟩]).2 → g ∈ outL s d a zs.length (phear zs s d a P0 ⟨s, s, d, 4, a, true, (stN (V.nd s) d).ph, a.toNat, (stN (V.nd s) d).at_⟩).2 := fun g hg => by
      rw [hh1, List.append_nil] at hg; exact hg
    have hp6 : ∀ g, g ∈ outL s d a zs.length (phear zs s d a P0 ⟨s, s, d, 4, a, true, (stN (V.nd s) d).ph, a.toNat, (stN (V.nd s) d).at_⟩).2 → g ∈ (hearsL zs s d a P0 [⟨s, s, d, 4, a, true, (stN (V.nd s) d).ph, a.toNat, (stN (V.nd s) d).at_⟩]).2 := fun g hg => by
      rw [hh1, List.append_nil]; exact hg
    have hp7 : (hearsL zs s d a P0 [⟨s, s, d, 4, a, true, (stN (V.nd s) d).ph, a.toNat, (stN (V.nd s) d).at_⟩]).1 = (phear zs s d a P0 ⟨s, s, d, 4, a, true, (stN (V.nd s) d).ph, a.toNat, (stN (V.nd s) d).at_⟩).1 := rfl
    rw [hp7] at k7
    clear hp7 hh1 y1 y2
    have hnk : ∀ g, g ∈ (hearsL zs s d a P0 [⟨s, s, d, 4, a, true, (stN (V.nd s) d).ph, a.toNat, (stN (V.nd s) d).at_⟩]).2 → g.k = 5 ∨ g.k = 7 := fun g hg => (hears_deal _ _ _ hg).2.2.2
    generalize (hearsL zs s d a P0 [⟨s, s, d, 4, a, true, (stN (V.nd s) d).ph, a.toNat, (stN (V.nd s) d).at_⟩]).2 = O at *
    generalize (phear zs s d a P0 ⟨s, s, d, 4, a, true, (stN (V.nd s) d).ph, a.toNat, (stN (V.nd s) d).at_⟩) = R at *
    generalize tryX zs V s d a = W at *
    have hmf : ∀ g, g ∈ W.fly → g ∈ V.fly ∨ g ∈ electL s d a zs.length ++ O := fun g hg => by rw [k1] at hg; exact List.mem_append.1 hg
    have hin : ∀ g, g ∈ V.fly → g ∈ W.fly := fun g hg => by rw [k1]; exact List.mem_append.2 (.inl hg)
    have hinE : ∀ g, g ∈ electL s d a zs.length → g ∈ W.fly := fun g hg => by rw [k1]; exact List.mem_append.2 (.inr (List.mem_append.2 (.inl hg)))
    have hinO : ∀ g, g ∈ O → g ∈ W.fly := fun g hg => by rw [k1]; exact List.mem_append.2 (.inr (List.mem_append.2 (.inr hg)))
    have hsE : ∀ i g, isEl d q A i g → g ∈ electL s d a zs.length ++ O → a = A ∧ s = q ∧ g ∈ electL s d a zs.length := fun i g hE hg => by
      obtain ⟨g1, g2, g3, g4⟩ := hk g hg
      have e1 := hE.1
      have e2 := hE.2.2.2.2
      refine ⟨by omega, by omega, ?_⟩
      rcases List.mem_append.1 hg with y | y
      · exact y
      · have := hnk g y
        have := hE.2.2.2.1
        omega
    have hst : ∀ i, i ≠ s → stN (W.nd i) d = stN (V.nd i) d := fun i hi => by rw [k3 i hi]
    have hspr : ((stN (W.nd s) d).pr : Int) = a := by
      rw [k6]
      show ((a.toNat : Nat) : Int) = a
      omega
    refine ⟨fun i hi hbi => ?_, fun x y hx hy hxy => ?_, fun i hi hbi hti => ?_, fun i hi hbi hti => ?_, fun i x hi hbi hx => ?_, fun g hg hgd hgb hgk => ?_, fun g hg hgd hgt hgk => ?_, ?_, fun hqt => ?_⟩
    · by_cases c : i = s
      · rw [c]; exact k4
      · rw [k3 i c]; exact h.up i hi hbi
    · have := h.br x y hx hy hxy
      unfold brX at this ⊢
      rw [k2]; exact this
    · rw [k3 i (by omega)]
      exact h.old i hi hbi (by omega)
    · by_cases c : i = s
      · rw [c, hspr]; exact ⟨o41, o42⟩
      · rw [hst i c]; exact h.new i hi hbi (by omega)
    · by_cases c : i = s
      · rw [c] at hx ⊢
        rw [k7] at hx
        cases hx
        exact ⟨o41, o42⟩
      · rw [k3 i c] at hx
        exact h.ld i x hi hbi hx
    · rcases hmf g hg with y | y
      · have := h.fr g y hgd hgb hgk
        exact ⟨this.1, fun e => ⟨(this.2 e).1, by have := (this.2 e).2; omega⟩⟩
      · obtain ⟨g1, g2, g3, g4⟩ := hk g y
        exact ⟨by omega, fun e => by have := o42 (by omega); omega⟩
    · rcases hmf g hg with y | y
      · exact h.an g y hgd hgt hgk
      · have := (hk g y).2.2.2
        omega
    · rw [k1, List.pairwise_append]
      refine ⟨h.e1, ?_, fun x hx y hy i hi => ?_⟩
      · rw [List.pairwise_append]
        refine ⟨?_, ?_, fun x hx y hy i hi => ?_⟩
        · refine ((toL_apart s d 3 a 0 zs.length).sublist (List.eraseIdx_sublist _ _)).imp fun hxy i hi => ?_
          have e1 := hi.1.2.1
          have e2 := hi.2.2.1
          omega
        · refine List.Pairwise.imp_of_mem (R := fun _ _ => True) (fun {x y} _ hy _ i hi => ?_) (List.pairwise_of_forall (fun _ _ => trivial))
          have := hnk y hy
          have := hi.2.2.2.2.1
          omega
        · have := hnk y hy
          have := hi.2.2.2.2.1
          omega
      · obtain ⟨e1, e2, -⟩ := hsE i y hi.2 hy
        have := (h.fr x hx hi.1.2.2.1 (by rw [hi.1.1, Int.toNat_natCast]; exact hbq) (.inl hi.1.2.2.2.1)).2 hi.1.2.2.2.2
        omega
    · by_cases c : q = s
      · subst c
        have haA := o52 rfl
        subst haA
        have hold5 : ∀ g, g ∈ V.fly → g.d = (d : Int) → bit set g.f.toNat = true → (g.k = 3 ∨ g.k = 5) → g.a ≠ a := fun g hg hgd hgb hgk e => by
          have := (h.fr g hg hgd hgb hgk).2 e
          omega
        rcases hlf with ⟨r1, r2, r3, r4⟩ | ⟨v, r1, r2, r3, r4, r5⟩ | ⟨v, r1, r2⟩
        · left
          rw [r1] at hp5
          refine ⟨⟨R.1, k7, r2, r3, fun i hi hbi => ?_⟩, fun g i hg hi hbi hE => ?_, fun g hg hgd hgb hgk => ?_, fun g hg hgd hgt hgb hgk hga => ?_⟩
          · by_cases ci : i = q
            · subst ci; exact .inl r4
            · exact .inr (.inl ⟨_, hinE _ (electL_has hi ci), rfl, rfl, rfl, rfl, rfl⟩)
          · rcases hmf g hg with y | y
            · exact absurd hE.2.2.2.2 (hold5 g y hE.2.2.1 (by rw [hE.1, Int.toNat_natCast]; exact hbq) (.inl hE.2.2.2.1))
            · obtain ⟨-, -, y3⟩ := hsE i g hE y
              have hiq : i ≠ q := fun e => electL_not y3 (by rw [hE.2.1, e])
              rw [hst i hiq]
              by_cases c2 : i < q
              · have := h.new i hi hbi c2
                rcases Int.lt_or_eq_of_le this.1 with z | z
                · exact z
                · exact absurd (this.2 z) hiq
              · exact (h.old i hi hbi (by omega)).2.1
          · rcases hmf g hg with y | y
            · exact hold5 g y hgd hgb (.inr hgk)
            · exfalso
              rcases List.mem_append.1 y with z | z
              · unfold electL at z
                have := (toL_mem (List.mem_of_mem_eraseIdx z)).1
                omega
              · cases hp5 g z
          · rcases hmf g hg with y | y
            · have := h.an g y hgd hgt (.inl hgk)
              omega
            · have := (hk g y).2.2.2
              omega
        · right; left
          rw [r1] at hp6
          refine ⟨R.1, k7, r2, by rw [r3]; exact r5, by rw [r4]; exact enough_none hX.he, fun i hi _ => .inr (.inl ⟨_, hinO _ (hp6 _ (toL_has hi)), rfl, rfl, rfl, rfl, rfl, r3.symm⟩)⟩
        · right; right
          rw [r1] at hp6
          exact ⟨_, hinO _ (hp6 _ (toL_has hq)), rfl, rfl, rfl, rfl, r2⟩
      · have hlt : q < s := by omega
        have haA : a < A := by
          rcases Int.lt_or_eq_of_le o41 with z | z
          · exact z
          · exact absurd (o42 z).symm c
        rcases h.main hlt with ⟨⟨P, x1, x2, x3, x4⟩, x5, x6, x7⟩ | ⟨P, x1, x2, x3, x4, x5⟩ | ⟨g, x1, x2⟩
        · refine .inl ⟨⟨P, by rw [k3 q c]; exact x1, x2, x3, fun i hi hbi => ?_⟩, fun g i hg hi hbi hE => ?_, fun g hg hgd hgb hgk => ?_, fun g hg hgd hgt hgb hgk => ?_⟩
          · rcases x4 i hi hbi with y | ⟨g, y1, y2⟩ | ⟨g, y1, y2⟩
            · exact .inl y
            · exact .inr (.inl ⟨g, hin g y1, y2⟩)
            · exact .inr (.inr ⟨g, hin g y1, y2⟩)
          · rcases hmf g hg with y | y
            · by_cases ci : i = s
              · rw [ci, hspr]; exact haA
              · rw [hst i ci]; exact x5 g i y hi hbi hE
            · have := (hsE i g hE y).1
              omega
          · rcases hmf g hg with y | y
            · exact x6 g y hgd hgb hgk
            · have := (hk g y).2.2.1
              omega
          · rcases hmf g hg with y | y
            · exact x7 g y hgd hgt hgb hgk
            · have := (hk g y).2.2.2
              omega
        · refine .inr (.inl ⟨P, by rw [k3 q c]; exact x1, x2, x3, x4, fun i hi hbi => ?_⟩)
          rcases x5 i hi hbi with y | ⟨g, y1, y2⟩ | ⟨g, y1, y2⟩
          · exact .inl y
          · exact .inr (.inl ⟨g, hin g y1, y2⟩)
          · exact .inr (.inr ⟨g, hin g y1, y2⟩)
        · exact .inr (.inr ⟨g, hin g x1, x2⟩)
/-- All deals of a site's tick. -/
theorem TkI.tick {s : Nat} (hs : s < zs.length) (hb : bit set s = true) (hd : d < 6) (hq : q < zs.length) (hbq : bit set q = true) (hA : 0 < A ∧ A ≤ 1048576) : ∀ (k e : Nat) (V : PX) (m : Nat), e + k = 6 → TkI zs set d q A V (if e ≤ d then s else s + 1) → XI zs V m → m + 7 * k < 1000000 → TkI zs set d q A (tickX zs s k e V) (s + 1)
  | 0, e, _, _, hk, h, _, _ => by rw [if_neg (by omega)] at h; exact h
  | k + 1, e, V, m, hk, h, hX, hm => by
    have hl := h.up s hs hb
    have hX1 := hX.ticks hs (d := e) (by omega) (by rw [hl]; decide) (by omega)
    have h1 : TkI zs set d q A (tickD zs V s e) (if e + 1 ≤ d then s else s + 1) := by
      by_cases c : e = d
      · subst c
        rw [if_pos (Nat.le_refl _)] at h
        rw [if_neg (by omega)]
        exact h.own hX (by omega) hs hb hd hq hbq hA
      · have h2 := h.else hX (by omega) hs hb (e := e) (by omega) c hq hbq
        by_cases c2 : e ≤ d
        · rw [if_pos c2] at h2; rw [if_pos (by omega)]; exact h2
        · rw [if_neg c2] at h2; rw [if_neg (by omega)]; exact h2
    unfold tickX
    rw [if_pos (by unfold upN; rw [h1.up s hs hb]; decide)]
    exact TkI.tick hs hb hd hq hbq hA k (e + 1) _ (m + 7) (by omega) h1 hX1 (by omega)
end
end Go.Proofs.YtdpemmmbkjmplabGreatDoor
namespace Go.Proofs.YtdpemmmbkjmplabGreatDoor
open Go.RowKit

/-- Promises are at most T; a lead's attempt, an Elect's and a PreCommit's is promised by its sender, an answer's by whom it goes to. -/
structure FB (zs : List Int) (V : PX) (T : Nat) : Prop where
  st : ∀ i d, i < zs.length → d < 6 → (stN (V.nd i) d).pr ≤ T
  ld : ∀ i d x, i < zs.length → d < 6 → (V.nd i).ld d = some x → x.1 ≤ ((stN (V.nd i) d).pr : Int) ∧ x.2.seen ≤ (T : Int)
  fr : ∀ f, f ∈ V.fly → f.pr ≤ (T : Int) ∧ ((f.k = 3 ∨ f.k = 5) → f.a ≤ ((stN (V.nd f.f.toNat) f.d.toNat).pr : Int)) ∧ ((f.k = 4 ∨ f.k = 6) → f.a ≤ ((stN (V.nd f.t.toNat) f.d.toNat).pr : Int))
def Gp (zs : List Int) (V V' : PX) : Prop := ∀ i d, i < zs.length → d < 6 → (stN (V.nd i) d).pr ≤ (stN (V'.nd i) d).pr
section
variable {zs : List Int} {V V' : PX} {m T T' : Nat}
theorem FB.mono (h : FB zs V T) (ht : T ≤ T') : FB zs V T' :=
  ⟨fun i d hi hd => Nat.le_trans (h.st i d hi hd) ht, fun i d x hi hd hx => ⟨(h.ld i d x hi hd hx).1, by have := (h.ld i d x hi hd hx).2; omega⟩, fun f hf => ⟨by have := (h.fr f hf).1; omega, (h.fr f hf).2⟩⟩
theorem FB.quiet (h : FB zs V T) (hs : ∀ i d, stN (V'.nd i) d = stN (V.nd i) d) (hl : ∀ i d x, (V'.nd i).ld d = some x → (V.nd i).ld d = some x) (hf : ∀ f, f ∈ V'.fly → f ∈ V.fly) : FB zs V' T :=
  ⟨fun i d hi hd => by rw [hs]; exact h.st i d hi hd, fun i d x hi hd hx => by rw [hs]; exact h.ld i d x hi hd (hl i d x hx), fun f hx => by rw [hs, hs]; exact h.fr f (hf f hx)⟩
theorem FB.send {L : List F9} (h : FB zs V T) (hL : ∀ f, f ∈ L → f.pr ≤ (T : Int) ∧ ((f.k = 3 ∨ f.k = 5) → f.a ≤ ((stN (V.nd f.f.toNat) f.d.toNat).pr : Int)) ∧ ((f.k = 4 ∨ f.k = 6) → f.a ≤ ((stN (V.nd f.t.toNat) f.d.toNat).pr : Int))) : FB zs (sendX V L) T :=
  ⟨h.st, h.ld, fun f hf => by
    rcases List.mem_append.1 hf with x | x
    · exact h.fr f x
    · exact hL f x⟩
theorem FB.setLead {i d : Nat} {x : Int × PL} (h : FB zs V T) (hx : x.1 ≤ ((stN (V.nd i) d).pr : Int) ∧ x.2.seen ≤ (T : Int)) : FB zs (setNd V i (setLd (V.nd i) d x)) T :=
  ⟨fun k e hk he => by rw [setLd_st V i d x k e]; exact h.st k e hk he, fun k e y hk he hy => by
    rw [setLd_st V i d x k e]
    by_cases c : k = i
    · subst c
      rw [nd_at] at hy
      by_cases c2 : e = d
      · subst c2; rw [ld_at] at hy; cases hy; exact hx
      · rw [ld_ne _ _ _ c2] at hy; exact h.ld k e y hk he hy
    · rw [nd_ne _ _ _ c] at hy; exact h.ld k e y hk he hy, fun f hf => by rw [setLd_st V i d x _ _, setLd_st V i d x _ _]; exact h.fr f hf⟩
theorem toL_pr {id : Nat} {deal kind att ph : Int} {n : Nat} {g : F9} (hg : g ∈ toL id deal kind att ph n) : g.pr = 0 := by
  obtain ⟨j, hj⟩ := List.mem_iff_getElem?.1 hg
  have hjl : j < n := by
    obtain ⟨q, -⟩ := List.getElem?_eq_some_iff.1 hj
    rw [toL_length] at q; exact q
  rw [toL_at _ _ _ _ _ j _ hjl] at hj
  cases hj; rfl
theorem phear_top {s : Nat} {d a : Int} {P : PL} {f : F9} (h1 : P.seen ≤ (T : Int)) (h2 : f.pr ≤ (T : Int)) : (phear zs s d a P f).1.seen ≤ (T : Int) := by
  have hn : (noteP P f).seen = P.seen := rfl
  have hs : (seeP (noteP P f) f.pr).seen ≤ (T : Int) := by
    unfold seeP
    split
    · exact h2
    · rw [hn]; exact h1
  unfold phear takenP
  generalize seeP (noteP P f) f.pr = Q at *
  have hN : (noteP P f).seen ≤ (T : Int) := h1
  generalize noteP P f = M at *
  repeat' split
  · unfold voteP decP preP
    repeat' split
    · exact hN
    · exact hN
    · exact hN
  · exact hs
  · unfold tellP decP preP
    repeat' split
    · exact hs
    · exact hs
    · exact hs
  · unfold ackP decP
    split
    · exact hs
    · exact hs
  · exact h1
theorem hears_seen {s : Nat} {d : Nat} {a : Int} : ∀ (L : List F9) (P : PL), P.seen ≤ (T : Int) → (∀ f, f ∈ L → f.pr ≤ (T : Int)) → (hearsL zs s d a P L).1.seen ≤ (T : Int)
  | [], _, h, _ => h
  | f :: r, P, h, hL => by
    unfold hearsL
    exact hears_seen r _ (phear_top h (hL f List.mem_cons_self)) fun g hg => hL g (List.mem_cons_of_mem _ hg)
theorem g_pr (N : PN) (f : F9) : (stN N f.d.toNat).pr ≤ (gHN N f).st.pr ∧ ((gHN N f).st.pr = (stN N f.d.toNat).pr ∨ ((f.k = 3 ∨ f.k = 5) ∧ (gHN N f).st.pr = f.a.toNat)) := by
  have := hear_pr (stN N f.d.toNat) (N.R f.d.toNat) f.k.toNat f.a.toNat f.ph.toNat
  unfold gHN
  rcases this with e | ⟨e1, e2, e3⟩
  · rw [e]; exact ⟨Nat.le_refl _, .inl rfl⟩
  · rw [e3]; exact ⟨e2, .inr ⟨by omega, rfl⟩⟩
theorem hear_st {i d : Nat} {f : F9} {j : Nat} (hX : XI zs V m) (hu : (V.nd i).l ≠ -2) (hF : FI zs.length f) (hm : m < 4000000000) (hi : i < zs.length) :
    stN ((hearX V i f).nd j) d = stN (V.nd j) d ∨ (j = i ∧ d = f.d.toNat ∧ stN ((hearX V i f).nd j) d = (gHN (V.nd i) f).st) := by
  have hh := hearN_hf (hX.nd i hi) hu hF hm
  rcases hh.c with hc | hc
  · by_cases c : d = f.d.toNat
    · have h2 := congrFun (hearX_st (V := V) (i := i) hh hc) j
      unfold stD upd at h2
      rw [c, h2]
      split
      · rename_i e
        exact .inr ⟨e, rfl, rfl⟩
      · exact .inl rfl
    · exact .inl (hearX_ne (V := V) (i := i) hh c j)
  · exact .inl (hearX_st0 (V := V) (i := i) hh hc j d)
/-- A site hears. -/
theorem FB.hear {i : Nat} {f : F9} (h : FB zs V T) (hX : XI zs V m) (hu : (V.nd i).l ≠ -2) (hF : FI zs.length f) (hm : m < 4000000000) (hi : i < zs.length) (hfa : (f.k = 3 ∨ f.k = 5) → f.a ≤ (T : Int)) :
    FB zs (hearX V i f) T ∧ Gp zs V (hearX V i f) ∧ ∀ a, a ∈ ansN i (V.nd i) f → a.pr ≤ (T : Int) ∧ a.t = f.f ∧ a.d = f.d ∧ a.a = f.a ∧ ¬ (a.k = 3 ∨ a.k = 5) ∧ ((a.k = 4 ∨ a.k = 6) → f.k = 3 ∨ f.k = 5) := by
  have hh := hearN_hf (hX.nd i hi) hu hF hm
  have hd6 : 0 ≤ f.d ∧ f.d ≤ 5 := hF.ok.2.2.1
  have ha0 : 0 ≤ f.a := hF.ok.2.2.2.2.1.1
  obtain ⟨g1, g2⟩ := g_pr (V.nd i) f
  have hgT : (gHN (V.nd i) f).st.pr ≤ T := by
    rcases g2 with e | ⟨e1, e2⟩
    · rw [e]; exact h.st i _ hi (by omega)
    · have := hfa e1; omega
  have hG : Gp zs V (hearX V i f) := fun j d hj hd => by
    rcases hear_st (j := j) (d := d) hX hu hF hm hi with e | ⟨e1, e2, e3⟩
    · rw [e]; exact Nat.le_refl _
    · rw [e3, e1, e2]; exact g1
  refine ⟨⟨fun j d hj hd => ?_, fun j d x hj hd hx => ?_, fun g hg => ?_⟩, hG, fun a ha => ?_⟩
  · rcases hear_st (j := j) (d := d) hX hu hF hm hi with e | ⟨e1, e2, e3⟩
    · rw [e]; exact h.st j d hj hd
    · rw [e3]; exact hgT
  · have := h.ld j d x hj hd (hearX_ld (V := V) (i := i) hh j d x hx)
    have h2 := hG j d hj hd
    exact ⟨by omega, this.2⟩
  · have hgm : g ∈ V.fly := hg
    have hgF := hX.fr g hgm
    have f0 := hgF.f0; have f1 := hgF.f1; have t0 := hgF.t0; have t1 := hgF.t1
    have gd6 : 0 ≤ g.d ∧ g.d ≤ 5 := hgF.ok.2.2.1
    have := h.fr g hgm
    have h2 := hG g.f.toNat g.d.toNat (by omega) (by omega)
    have h3 := hG g.t.toNat g.d.toNat (by omega) (by omega)
    exact ⟨this.1, fun e => by have := this.2.1 e; omega, fun e => by have := this.2.2 e; omega⟩
  · unfold ansN at ha
    split at ha
    · rw [List.mem_singleton] at ha
      subst ha
      have hks := hear_ks (stN (V.nd i) f.d.toNat) ((V.nd i).R f.d.toNat) f.k.toNat f.a.toNat f.ph.toNat
      have hk1 : (gHN (V.nd i) f).k = 0 ∨ (gHN (V.nd i) f).k = 2 ∨ (gHN (V.nd i) f).k = 4 ∨ (gHN (V.nd i) f).k = 6 := hks
      have hk4 : (gHN (V.nd i) f).k = 4 → f.k.toNat = 3 := fun e => (hear_k4 _ _ _ _ _ e).1
      have hk6 : (gHN (V.nd i) f).k = 6 → f.k.toNat = 5 := by
        intro e
        unfold gHN at e
        revert e
        unfold hearL
        repeat' split
        all_goals simp
        all_goals assumption
      have hz : ∀ (x y : Int) (b : Bool) (p r q : Int) , (⟨x, y, f.d, ((gHN (V.nd i) f).k : Int), f.a, b, p, r, q⟩ : F9).k = ((gHN (V.nd i) f).k : Int) := fun _ _ _ _ _ _ => rfl
      rw [hz]
      exact ⟨by show (((gHN (V.nd i) f).st.pr : Nat) : Int) ≤ _; omega, rfl, rfl, rfl, by omega, fun e => by omega⟩
    · cases ha
/-- A lead hears. -/
theorem FB.lead {i d : Nat} {f : F9} {x : Int × PL} (h : FB zs V T) (hi : i < zs.length) (hd : d < 6) (hx : (V.nd i).ld d = some x) (hp : f.pr ≤ (T : Int)) :
    FB zs (sendX (setNd V i (setLd (V.nd i) d (x.1, (phear zs i d x.1 x.2 f).1))) (outL i d x.1 zs.length (phear zs i d x.1 x.2 f).2)) T := by
  have hl := h.ld i d x hi hd hx
  refine (h.setLead (i := i) (d := d) (x := (x.1, (phear zs i d x.1 x.2 f).1)) ⟨hl.1, phear_top hl.2 hp⟩).send fun g hg => ?_
  cases hy : (phear zs i d x.1 x.2 f).2 with
  | none => rw [hy] at hg; cases hg
  | some y =>
    rw [hy] at hg
    have hz := toL_mem hg
    have hk := (phear_out hy).1
    have hpr : g.pr = 0 := toL_pr hg
    refine ⟨by rw [hpr]; omega, fun _ => ?_, fun e => by have := hz.1; omega⟩
    rw [setLd_st V i d _ _ _, hz.2.1, hz.2.2.2.2.1, hz.2.2.2.2.2, Int.toNat_natCast, Int.toNat_natCast]
    exact hl.1
/-- A delivery. -/
theorem FB.deliver {k : Nat} {f : F9} (h : FB zs V T) (hX : XI zs V m) (hm : m < 4000000000) (hf : f ∈ V.fly) : FB zs (deliverX zs V k f) T := by
  have hF := hX.fr f hf
  have h1 : FB zs (takeX V k) T := h.quiet (fun _ _ => rfl) (fun _ _ _ x => x) (fun _ x => List.mem_of_mem_eraseIdx x)
  have hX1 : XI zs (takeX V k) m := hX.take
  have f0 := hF.f0; have f1 := hF.f1; have t0 := hF.t0; have t1 := hF.t1
  have hd6 : 0 ≤ f.d ∧ f.d ≤ 5 := hF.ok.2.2.1
  have hfr := h.fr f hf
  unfold deliverX
  split
  · rename_i hr
    have hu : ((takeX V k).nd f.t.toNat).l ≠ -2 := by
      show (V.nd f.t.toNat).l ≠ -2
      unfold reachB at hr
      rw [Bool.and_eq_true] at hr
      have := hr.1
      unfold upN at this
      simpa using this
    unfold arriveX arriveO
    split
    · cases hx : ((takeX V k).nd f.t.toNat).ld f.d.toNat with
      | none =>
        rw [(leadX_none hx).1, (leadX_none hx).2, sendX_nil]
        exact h1
      | some x =>
        rw [(leadX_some hx).1, (leadX_some hx).2]
        exact h1.lead (by omega) (by omega) hx hfr.1
    · have hst := h.st f.f.toNat f.d.toNat (by omega) (by omega)
      obtain ⟨k1, k2, k3⟩ := h1.hear hX1 hu hF hm (by omega) fun e => by have := hfr.2.1 e; omega
      refine k1.send fun g hg => ?_
      obtain ⟨q1, q2, q3, q4, q5, q6⟩ := k3 g hg
      refine ⟨q1, fun e => absurd e q5, fun e => ?_⟩
      have h5 := hfr.2.1 (q6 e)
      have h6 := k2 f.f.toNat f.d.toNat (by omega) (by omega)
      have h7 : (stN ((takeX V k).nd f.f.toNat) f.d.toNat).pr = (stN (V.nd f.f.toNat) f.d.toNat).pr := rfl
      rw [q2, q3, q4]
      omega
  · exact h1
/-- A try. -/
theorem FB.try {s d : Nat} (h : FB zs V T) (hX : XI zs V m) (hs : s < zs.length) (hd : d < 6) (hu : (V.nd s).l ≠ -2) (hm : m < 1000000) : FB zs (tryX zs V s d (attemptX zs.length s (aboveN (V.nd s) d))) (T + 7) := by
  have n7 := (errW_zero hX.he).2.1
  have hbd := aboveN_bd (hX.nd s hs) hd
  have hat := attemptX_bd zs.length s (aboveN (V.nd s) d) (by omega)
  have hT := h.st s d hs hd
  have hab : aboveN (V.nd s) d ≤ (T : Int) ∧ ((stN (V.nd s) d).pr : Int) ≤ aboveN (V.nd s) d := by
    unfold aboveN
    split
    · exact ⟨by omega, Int.le_refl _⟩
    · rename_i x hx
      have := h.ld s d x hs hd hx
      omega
  generalize attemptX zs.length s (aboveN (V.nd s) d) = a at hat
  have hF := fun h1 : a ≤ 1048576 => electF_fi (a := a) hs n7 hd (by omega)
  have hT7 := h.mono (T' := T + 7) (by omega)
  unfold tryX
  split
  · exact hT7
  · rename_i ha
    have hF := hF (by omega)
    obtain ⟨k1, k2, k3⟩ := hT7.hear (f := electF s d a) hX hu hF (by omega) hs fun _ => by show a ≤ _; omega
    have hh := hearN_hf (hX.nd s hs) hu hF (by omega : m < 4000000000)
    split
    · exact k1
    · rename_i hup
      have hc : (oHN (V.nd s) (electF s d a)).c = 0 := by
        have h2 := hh.up
        have h3 : upN (hearN (V.nd s) (electF s d a)) = true := by simpa using hup
        rw [h3] at h2
        exact of_decide_eq_true h2.symm
      have hey := elect_yes (N := V.nd s) (s := s) (e := d) (a := a) hc (by omega)
      have hN : (hearX V s (electF s d a)).nd s = hearN (V.nd s) (electF s d a) := nd_at V s _
      have hpr : (stN ((hearX V s (electF s d a)).nd s) d).pr = a.toNat := by
        have h3 : (electF s d a).d.toNat = d := Int.toNat_natCast d
        have h4 := hh.yes hc
        rw [h3] at h4
        rw [hN, h4, hey.1]
      have hl := k1.setLead (i := s) (d := d) (x := (a, (hearsL zs s d a P0 (ansN s (V.nd s) (electF s d a))).1)) ⟨by rw [hpr]; show a ≤ _; omega, hears_seen _ _ (by show (0 : Int) ≤ _; omega) fun g hg => (k3 g hg).1⟩
      rw [hN] at hl
      refine hl.send fun g hg => ?_
      have hst : (stN ((setNd (hearX V s (electF s d a)) s (setLd (hearN (V.nd s) (electF s d a)) d (a, (hearsL zs s d a P0 (ansN s (V.nd s) (electF s d a))).1))).nd s) d).pr = a.toNat := by
        rw [nd_at]
        rw [hN] at hpr
        exact hpr
      have hk : g.f = (s : Int) ∧ g.d = (d : Int) ∧ g.a = a ∧ (g.k = 3 ∨ g.k = 5 ∨ g.k = 7) ∧ g.pr = 0 := by
        have hzero : ∀ (k p : Int), g ∈ toL s d k a p zs.length → g.pr = 0 := fun k p hx => toL_pr hx
        rcases List.mem_append.1 hg with y | y
        · unfold electL at y
          have hy := List.mem_of_mem_eraseIdx y
          have hm2 := toL_mem hy
          exact ⟨hm2.2.2.2.2.1, hm2.2.2.2.2.2, hm2.2.1, .inl hm2.1, hzero _ _ hy⟩
        · have hq := hears_deal _ _ _ y
          refine ⟨hq.1, hq.2.1, hq.2.2.1, by omega, ?_⟩
          rw [hey.2] at y
          have y2 : g ∈ outL s d a zs.length (phear zs s d a P0 ⟨s, s, d, 4, a, true, (stN (V.nd s) d).ph, a.toNat, (stN (V.nd s) d).at_⟩).2 ++ [] := y
          rw [List.append_nil] at y2
          cases hz : (phear zs s d a P0 ⟨s, s, d, 4, a, true, (stN (V.nd s) d).ph, a.toNat, (stN (V.nd s) d).at_⟩).2 with
          | none => rw [hz] at y2; cases y2
          | some z => rw [hz] at y2; exact hzero _ _ y2
      obtain ⟨g1, g2, g3, g4, g5⟩ := hk
      refine ⟨by rw [g5]; omega, fun _ => ?_, fun e => by omega⟩
      rw [g1, g2, g3, Int.toNat_natCast, Int.toNat_natCast, hst]
      omega
theorem FB.ticks {s d : Nat} (h : FB zs V T) (hX : XI zs V m) (hs : s < zs.length) (hd : d < 6) (hu : (V.nd s).l ≠ -2) (hm : m < 1000000) : FB zs (tickD zs V s d) (T + 7) := by
  unfold tickD
  split
  · exact h.mono (by omega)
  · split
    · refine (h.mono (T' := T + 7) (by omega)).send fun g hg => ?_
      have hz := toL_mem hg
      have hpr : g.pr = 0 := toL_pr hg
      exact ⟨by rw [hpr]; omega, fun e => by have := hz.1; omega, fun e => by have := hz.1; omega⟩
    · exact h.try hX hs hd hu hm
theorem FB.tick {s : Nat} (hs : s < zs.length) : ∀ (k d : Nat) (V : PX) (m T : Nat), d + k ≤ 6 → FB zs V T → XI zs V m → (V.nd s).l ≠ -2 → m + 7 * k < 1000000 → FB zs (tickX zs s k d V) (T + 7 * k)
  | 0, _, _, _, _, _, h, _, _, _ => h
  | k + 1, d, V, m, T, hk, h, hX, hu, hm => by
    have h1 := h.ticks hX hs (d := d) (by omega) hu (by omega)
    have hX1 := hX.ticks hs (d := d) (by omega) hu (by omega)
    unfold tickX
    split
    · rename_i hup
      exact (FB.tick hs k (d + 1) _ (m + 7) (T + 7) (by omega) h1 hX1 (by unfold upN at hup; simpa using hup) (by omega)).mono (by omega)
    · exact h1.mono (by omega)
/-- Any step of a law. -/
theorem Stp.fb (h : Stp zs V V') (hB : FB zs V T) (hX : XI zs V m) (hm : m < 900000) : FB zs V' (T + 42) := by
  have hB2 := hB.mono (T' := T + 42) (by omega)
  rcases h with rfl | ⟨s, d, hs, hd, hc, rfl⟩ | ⟨s, d, hs, hu, rfl⟩ | ⟨s, hs, hu, rfl⟩ | ⟨s, hs, hu, rfl⟩ | ⟨s, hs, hu, rfl⟩ | ⟨k, rfl⟩ | ⟨k, f, hf, rfl⟩ | ⟨a, b, x, rfl⟩ | ⟨s, n, hs, rfl⟩ | ⟨k, f, hk, rfl⟩
  · exact hB2
  · refine (hB2.setLead (i := s) (d := d) (x := (0, P0)) ⟨by show (0 : Int) ≤ _; omega, by show (0 : Int) ≤ _; omega⟩).send fun g hg => ?_
    have hz := toL_mem hg
    have hpr : g.pr = 0 := toL_pr hg
    exact ⟨by rw [hpr]; omega, fun e => by have := hz.1; omega, fun e => by have := hz.1; omega⟩
  · exact hB2.quiet (nd_keep fun _ => rfl) (ld_keep (V := V) (s := s) (N := { V.nd s with R := updR (V.nd s).R d }) (fun _ _ y => y)) (fun _ y => y)
  · exact FB.tick hs 6 0 V m T (by decide) hB hX (by unfold upN at hu; simpa using hu) (by omega)
  · exact hB2.quiet (nd_keep fun _ => rfl) (ld_keep (fun _ _ y => by cases y)) (fun _ y => y)
  · exact hB2.quiet (nd_keep fun _ => rfl) (ld_keep (V := V) (s := s) (N := { V.nd s with l := -1, over := false, R := fun _ => false }) (fun _ _ y => y)) (fun _ y => y)
  · exact hB2.quiet (fun _ _ => rfl) (fun _ _ _ y => y) (fun _ y => List.mem_of_mem_eraseIdx y)
  · refine hB2.quiet (fun _ _ => rfl) (fun _ _ _ y => y) (fun g hg => ?_)
    have hg2 : g ∈ V.fly.take k ++ f :: V.fly.drop k := hg
    rcases List.mem_append.1 hg2 with y | y
    · exact List.mem_of_mem_take y
    · rcases List.mem_cons.1 y with rfl | y
      · exact hf
      · exact List.mem_of_mem_drop y
  · exact hB2.quiet (fun _ _ => rfl) (fun _ _ _ y => y) (fun _ y => y)
  · exact hB2.quiet (nd_keep fun _ => rfl) (ld_keep (V := V) (s := s) (N := { V.nd s with l := cL (V.nd s).l n }) (fun _ _ y => y)) (fun _ y => y)
  · exact hB2.deliver hX (by omega) (List.mem_iff_getElem?.2 ⟨k, hk⟩)
end
end Go.Proofs.YtdpemmmbkjmplabGreatDoor
namespace Go.Proofs.YtdpemmmbkjmplabGreatDoor
open Go.RowKit

/-- The first k sites, those of the set that are up, tick. -/
def ticksX (zs : List Int) (set : Int) : Nat → PX → PX
  | 0, V => V
  | k + 1, V => if bit set k = true ∧ upN ((ticksX zs set k V).nd k) = true then tickX zs k 6 0 (ticksX zs set k V) else ticksX zs set k V
/-- At most k deliveries. -/
def delX (zs : List Int) : Nat → PX → PX
  | 0, V => V
  | k + 1, V => match V.fly with
    | [] => V
    | f :: _ => delX zs k (deliverX zs V 0 f)
def flyX (zs : List Int) (V : PX) : PX := delX zs (pot zs V) V
def roundX (zs : List Int) (set : Int) (V : PX) : PX := flyX zs (ticksX zs set zs.length V)
section
variable {zs : List Int} {set : Int} {V V' : PX} {m M : Nat}
theorem del_nil {k : Nat} (h : V.fly = []) : delX zs k V = V := by
  cases k with
  | zero => rfl
  | succ k => unfold delX; rw [h]
theorem del_cons {k : Nat} {f : F9} {rest : List F9} (h : V.fly = f :: rest) : delX zs (k + 1) V = delX zs k (deliverX zs V 0 f) := by
  show (match V.fly with | [] => V | f :: _ => delX zs k (deliverX zs V 0 f)) = _
  rw [h]
theorem pot_zero (h : pot zs V = 0) : V.fly = [] := by
  unfold pot at h
  cases hf : V.fly with
  | nil => rfl
  | cons f r =>
    rw [hf] at h
    have := wtF_pos f
    have h2 : wtL (f :: r) = wtF f + wtL r := by simp [wtL]
    omega
theorem XI.deliver {k : Nat} {f : F9} (hX : XI zs V m) (hm : m < 4000000000) (hf : f ∈ V.fly) : XI zs (deliverX zs V k f) (m + 2) := by
  have hF := hX.fr f hf
  have hX1 : XI zs (takeX V k) m := hX.take
  have t0 := hF.t0; have t1 := hF.t1
  have hd6 : 0 ≤ f.d ∧ f.d ≤ 5 := hF.ok.2.2.1
  unfold deliverX
  split
  · rename_i hr
    have hu : ((takeX V k).nd f.t.toNat).l ≠ -2 := by
      show (V.nd f.t.toNat).l ≠ -2
      unfold reachB at hr
      rw [Bool.and_eq_true] at hr
      have := hr.1
      unfold upN at this
      simpa using this
    unfold arriveX arriveO
    split
    · exact (hX1.lead hF (by omega) (by omega)).mono (by omega)
    · rename_i ha
      have h2 := hX1.hear hu hF hm (by omega)
      have hle : (ansN f.t.toNat ((takeX V k).nd f.t.toNat) f).length ≤ 1000 := by
        unfold ansN
        split
        · show 1 ≤ 1000; decide
        · show 0 ≤ 1000; decide
      exact h2.send (ansN_fi (hX1.nd _ (by omega)) hu hF hm (by omega)) hle
  · exact hX1.mono (by omega)
/-- What each delivery of the first one keeps stands at the end; and nothing is on its way. -/
theorem del_inv {I : PX → Prop} (hI : ∀ V f rest m, XI zs V m → m < M → I V → V.fly = f :: rest → I (deliverX zs V 0 f)) (hM : M ≤ 4000000000) : ∀ (k : Nat) (V : PX) (m : Nat), XI zs V m → m + 2 * k ≤ M → pot zs V ≤ k → I V → I (delX zs k V) ∧ XI zs (delX zs k V) (m + 2 * k) ∧ (delX zs k V).fly = []
  | 0, V, m, hX, hm, hp, h => ⟨h, hX, pot_zero (zs := zs) (V := V) (Nat.le_zero.1 hp)⟩
  | k + 1, V, m, hX, hm, hp, h => by
    cases hf : V.fly with
    | nil => rw [del_nil hf]; exact ⟨h, hX.mono (by omega), hf⟩
    | cons f r =>
      rw [del_cons hf]
      have hk : V.fly[0]? = some f := by rw [hf]; rfl
      have hp2 := pot_deliver hX hk
      have hX2 := hX.deliver (k := 0) (f := f) (by omega) (by rw [hf]; exact List.mem_cons_self)
      have := del_inv hI hM k (deliverX zs V 0 f) (m + 2) hX2 (by omega) (by omega) (hI V f r m hX (by omega) h hf)
      exact ⟨this.1, this.2.1.mono (by omega), this.2.2⟩
/-- One of them, and the rest. -/
theorem del_more : ∀ (k : Nat) (V : PX) (m : Nat), XI zs V m → m + 2 * k < 4000000000 → pot zs V ≤ k → delX zs k V = flyX zs V
  | 0, V, m, hX, hm, hp => by
    have : pot zs V = 0 := by omega
    unfold flyX
    rw [this]
  | k + 1, V, m, hX, hm, hp => by
    cases hf : V.fly with
    | nil =>
      unfold flyX
      rw [del_nil hf, del_nil hf]
    | cons f r =>
      have hk : V.fly[0]? = some f := by rw [hf]; rfl
      have hp2 := pot_deliver hX hk
      have hX2 := hX.deliver (k := 0) (f := f) (by omega) (by rw [hf]; exact List.mem_cons_self)
      rw [del_cons hf, del_more k _ (m + 2) hX2 (by omega) (by omega)]
      obtain ⟨j, hj⟩ : ∃ j, pot zs V = j + 1 := ⟨pot zs V - 1, by omega⟩
      unfold flyX
      rw [hj, del_cons hf]
      exact (del_more j _ (m + 2) hX2 (by omega) (by omega)).symm
theorem fly_step {f : F9} {rest : List F9} (hX : XI zs V m) (hm : m + 2 * pot zs V < 4000000000) (hf : V.fly = f :: rest) : flyX zs (deliverX zs V 0 f) = flyX zs V := by
  have hk : V.fly[0]? = some f := by rw [hf]; rfl
  have hp2 := pot_deliver hX hk
  have hX2 := hX.deliver (k := 0) (f := f) (by omega) (by rw [hf]; exact List.mem_cons_self)
  obtain ⟨j, hj⟩ : ∃ j, pot zs V = j + 1 := ⟨pot zs V - 1, by omega⟩
  rw [← del_more j (deliverX zs V 0 f) (m + 2) hX2 (by omega) (by omega), ← del_cons hf, ← hj]
  rfl
theorem XI.tick {s : Nat} (hs : s < zs.length) : ∀ (k d : Nat) (V : PX) (m : Nat), d + k ≤ 6 → XI zs V m → (V.nd s).l ≠ -2 → m + 7 * k < 1000000 → XI zs (tickX zs s k d V) (m + 7 * k)
  | 0, _, _, _, _, hX, _, _ => hX
  | k + 1, d, V, m, hk, hX, hu, hm => by
    have hX1 := hX.ticks hs (d := d) (by omega) hu (by omega)
    unfold tickX
    split
    · rename_i hup
      exact (XI.tick hs k (d + 1) _ (m + 7) (by omega) hX1 (by unfold upN at hup; simpa using hup) (by omega)).mono (by omega)
    · exact hX1.mono (by omega)
/-- What each deal's tick of a site of the set keeps stands behind them all. -/
theorem ticks_inv {I : PX → Prop} (hI : ∀ V s e m, s < zs.length → bit set s = true → e < 6 → (V.nd s).l ≠ -2 → XI zs V m → m < 1000000 → I V → I (tickD zs V s e)) {s : Nat} (hs : s < zs.length) (hb : bit set s = true) : ∀ (k e : Nat) (V : PX) (m : Nat), e + k ≤ 6 → XI zs V m → (V.nd s).l ≠ -2 → m + 7 * k < 1000000 → I V → I (tickX zs s k e V)
  | 0, _, _, _, _, _, _, _, h => h
  | k + 1, e, V, m, hk, hX, hu, hm, h => by
    have hX1 := hX.ticks hs (d := e) (by omega) hu (by omega)
    have h1 := hI V s e m hs hb (by omega) hu hX (by omega) h
    unfold tickX
    split
    · rename_i hup
      exact ticks_inv hI hs hb k (e + 1) _ (m + 7) (by omega) hX1 (by unfold upN at hup; simpa using hup) (by omega) h1
    · exact h1
theorem all_inv {I : PX → Prop} (hI : ∀ V s e m, s < zs.length → bit set s = true → e < 6 → (V.nd s).l ≠ -2 → XI zs V m → m < 1000000 → I V → I (tickD zs V s e)) (hX : XI zs V m) (h : I V) : ∀ k, k ≤ zs.length → m + 42 * k < 1000000 → I (ticksX zs set k V) ∧ XI zs (ticksX zs set k V) (m + 42 * k)
  | 0, _, _ => ⟨h, hX⟩
  | k + 1, hk, hm => by
    have ih := all_inv hI hX h k (by omega) (by omega)
    unfold ticksX
    split
    · rename_i hc
      have hu : ((ticksX zs set k V).nd k).l ≠ -2 := by have := hc.2; unfold upN at this; simpa using this
      exact ⟨ticks_inv hI (by omega) hc.1 6 0 _ (m + 42 * k) (by decide) ih.2 hu (by omega) ih.1, (XI.tick (by omega) 6 0 _ (m + 42 * k) (by decide) ih.2 hu (by omega)).mono (by omega)⟩
    · exact ⟨ih.1, ih.2.mono (by omega)⟩
theorem pot_all : ∀ k, pot zs (ticksX zs set k V) ≤ pot zs V + k * (30 * zs.length)
  | 0 => by show pot zs V ≤ _; omega
  | k + 1 => by
    have ih := pot_all k
    have e : (k + 1) * (30 * zs.length) = k * (30 * zs.length) + 30 * zs.length := Nat.succ_mul _ _
    unfold ticksX
    split
    · have := pot_tick (zs := zs) k 6 0 (ticksX zs set k V)
      omega
    · omega
/-- The sites of a set are up, with no cut; links are whole within it alone. -/
structure UpI (zs : List Int) (set : Int) (V : PX) : Prop where
  up : ∀ i, i < zs.length → bit set i = true → (V.nd i).l = -1
  br : ∀ a b, a < zs.length → b < zs.length → a ≠ b → (brX V a b = true ↔ ¬ (bit set a = true ∧ bit set b = true))
theorem UpI.keep (h : UpI zs set V) (hu : ∀ i, i < zs.length → bit set i = true → (V'.nd i).l = -1) (hb : V'.br = V.br) : UpI zs set V' :=
  ⟨hu, fun x y hx hy hxy => by
    have := h.br x y hx hy hxy
    unfold brX at this ⊢
    rw [hb]; exact this⟩
theorem UpI.ticks {s e : Nat} (h : UpI zs set V) (hX : XI zs V m) (hm : m < 1000000) (hs : s < zs.length) (hb : bit set s = true) (he : e < 6) : UpI zs set (tickD zs V s e) := by
  have n7 := (errW_zero hX.he).2.1
  have hbd := aboveN_bd (hX.nd s hs) he
  have hat := attemptX_bd zs.length s (aboveN (V.nd s) e) (by omega)
  unfold tickD
  split
  · exact h
  · split
    · exact h.keep h.up rfl
    · generalize attemptX zs.length s (aboveN (V.nd s) e) = a at *
      by_cases hf : 1048576 < a
      · unfold tryX
        rw [if_pos hf]
        exact h
      · obtain ⟨k1, k2, k3, k4, -⟩ := try_out (a := a) hX hm hs he (h.up s hs hb) (by omega)
        refine h.keep (fun i hi hbi => ?_) k2
        by_cases c : i = s
        · rw [c]; exact k4
        · rw [k3 i c]; exact h.up i hi hbi
theorem UpI.deliver {f : F9} {k : Nat} (h : UpI zs set V) (hX : XI zs V m) (hm : m < 1000000) (hf : f ∈ V.fly) : UpI zs set (deliverX zs V k f) := by
  have hF := hX.fr f hf
  have t0 := hF.t0; have t1 := hF.t1
  have hX1 : XI zs (takeX V k) m := hX.take
  unfold deliverX
  split
  · refine h.keep (fun i hi hb => ?_) ?_
    · show ((arriveX zs (takeX V k) f).nd i).l = -1
      unfold arriveX leadX
      split
      · split
        · exact h.up i hi hb
        · by_cases c : i = f.t.toNat
          · subst c; rw [nd_at]; exact h.up _ hi hb
          · rw [nd_ne _ _ _ c]; exact h.up i hi hb
      · show ((setNd (takeX V k) f.t.toNat (hearN ((takeX V k).nd f.t.toNat) f)).nd i).l = -1
        by_cases c : i = f.t.toNat
        · subst c; rw [nd_at]; exact (hear_free (hX1.nd _ hi) (h.up _ hi hb) hF hm).2.1
        · rw [nd_ne _ _ _ c]; exact h.up i hi hb
    · show (arriveX zs (takeX V k) f).br = V.br
      unfold arriveX leadX
      split
      · split <;> rfl
      · rfl
  · exact h.keep h.up rfl
end
end Go.Proofs.YtdpemmmbkjmplabGreatDoor
namespace Go.Proofs.YtdpemmmbkjmplabGreatDoor
open Go.RowKit

theorem top_of (p : Nat → Prop) (g : Nat → Int) : ∀ n, (∃ i, i < n ∧ p i) → ∃ q, q < n ∧ p q ∧ ∀ i, i < n → p i → g i ≤ g q
  | 0, ⟨i, hi, _⟩ => absurd hi (Nat.not_lt_zero _)
  | n + 1, ⟨i, hi, hp⟩ => by
    by_cases c : ∃ j, j < n ∧ p j
    · obtain ⟨q, q1, q2, q3⟩ := top_of p g n c
      by_cases c2 : p n ∧ g q < g n
      · refine ⟨n, by omega, c2.1, fun j hj hpj => ?_⟩
        by_cases e : j = n
        · rw [e]; exact Int.le_refl _
        · have := q3 j (by omega) hpj; have := c2.2; omega
      · refine ⟨q, by omega, q2, fun j hj hpj => ?_⟩
        by_cases e : j = n
        · subst e
          by_cases c3 : g q < g j
          · exact absurd ⟨hpj, c3⟩ c2
          · omega
        · exact q3 j (by omega) hpj
    · have hin : i = n := by
        by_cases e : i = n
        · exact e
        · exact absurd ⟨i, by omega, hp⟩ c
      subst hin
      refine ⟨i, by omega, hp, fun j hj hpj => ?_⟩
      by_cases e : j = i
      · rw [e]; exact Int.le_refl _
      · exact absurd ⟨j, by omega, hpj⟩ c
section
variable {zs : List Int} {set : Int} {d q m T : Nat} {A : Int} {V V' : PX} {f : F9} {rest : List F9}
/-- Ahead of a round: the greatest of the attempts that will be made. -/
theorem TkI.start (hX : XI zs V m) (hB : FB zs V T) (hT : T + 7 ≤ 1048576) (hU : UpI zs set V) (hd : d < 6) (hno : ∀ i, i < zs.length → bit set i = true → (V.nd i).ld d = none)
    (hk : ∃ i, i < zs.length ∧ bit set i = true ∧ stN (V.nd i) d ≠ St.zero) (hz : ¬ Fz zs set d V) : ∃ q A, q < zs.length ∧ bit set q = true ∧ (0 < A ∧ A ≤ 1048576) ∧ TkI zs set d q A V 0 := by
  have n7 := (errW_zero hX.he).2.1
  obtain ⟨q, q1, ⟨q2, q3⟩, q4⟩ := top_of (fun i => bit set i = true ∧ stN (V.nd i) d ≠ St.zero) (fun i => attemptX zs.length i ((stN (V.nd i) d).pr : Int)) zs.length hk
  have hbd : ∀ i, ((stN (V.nd i) d).pr : Int) + 1 ≤ attemptX zs.length i ((stN (V.nd i) d).pr : Int) ∧ attemptX zs.length i ((stN (V.nd i) d).pr : Int) ≤ ((stN (V.nd i) d).pr : Int) + zs.length := fun i => attemptX_bd zs.length i _ (by omega)
  have hTq := hB.st q d q1 hd
  have hq := hbd q
  have hmod := fun i (hi : i < zs.length) => attempt_mod (n := zs.length) (s := i) ⟨by omega, n7⟩ hi (a := ((stN (V.nd i) d).pr : Int)) (by omega)
  have hlt : ∀ i, i < zs.length → bit set i = true → ((stN (V.nd i) d).pr : Int) < attemptX zs.length q ((stN (V.nd q) d).pr : Int) := fun i hi hb => by
    by_cases c : stN (V.nd i) d = St.zero
    · rw [c]
      show ((0 : Nat) : Int) < _
      omega
    · have h1 : attemptX zs.length i ((stN (V.nd i) d).pr : Int) ≤ attemptX zs.length q ((stN (V.nd q) d).pr : Int) := q4 i hi ⟨hb, c⟩
      have := hbd i
      omega
  have hfr : ∀ f, f ∈ V.fly → f.d = (d : Int) → bit set f.f.toNat = true → (f.k = 3 ∨ f.k = 5) → f.a < attemptX zs.length q ((stN (V.nd q) d).pr : Int) := fun f hf hfd hb hk => by
    have hF := hX.fr f hf
    have f0 := hF.f0; have f1 := hF.f1
    have h1 := (hB.fr f hf).2.1 hk
    rw [hfd, Int.toNat_natCast] at h1
    have h2 := hlt f.f.toNat (by omega) hb
    omega
  refine ⟨q, attemptX zs.length q ((stN (V.nd q) d).pr : Int), q1, q2, by omega, hU.up, hU.br, fun i hi hb _ => ⟨hno i hi hb, hlt i hi hb, ?_, fun hne => ⟨q4 i hi ⟨hb, hne⟩, fun e => ?_⟩, fun e => (by subst e; exact ⟨q3, rfl⟩)⟩, fun i _ _ h => absurd h (Nat.not_lt_zero _), fun i x hi hb hx => (by rw [hno i hi hb] at hx; cases hx), fun f hf hfd hb hk => ?_, fun f hf hfd ht hk => ?_, ?_, fun h => absurd h (Nat.not_lt_zero _)⟩
  · cases c : finB (stN (V.nd i) d).ph with
    | false => rfl
    | true => exact absurd ⟨i, hi, hb, c⟩ hz
  · have h1 := hmod i hi
    have h2 := hmod q q1
    rw [e, h2] at h1
    exact h1.symm
  · have := hfr f hf hfd hb hk
    exact ⟨by omega, fun e => by omega⟩
  · have h1 := (hB.fr f hf).2.2 hk
    rw [hfd, ht, Int.toNat_natCast, Int.toNat_natCast] at h1
    have := hlt q q1 q2
    omega
  · refine List.Pairwise.imp_of_mem (R := fun _ _ => True) (fun {a b} ha _ _ i hi => ?_) (List.pairwise_of_forall (fun _ _ => trivial))
    have := hfr a ha hi.1.2.2.1 (by rw [hi.1.1, Int.toNat_natCast]; exact q2) (.inl hi.1.2.2.2.1)
    have := hi.1.2.2.2.2
    omega
/-- Behind the ticks of the first k sites. -/
theorem TkI.all (hX : XI zs V m) (hd : d < 6) (hq : q < zs.length) (hbq : bit set q = true) (hA : 0 < A ∧ A ≤ 1048576) (h : TkI zs set d q A V 0) : ∀ k, k ≤ zs.length → m + 42 * k < 1000000 → TkI zs set d q A (ticksX zs set k V) k ∧ XI zs (ticksX zs set k V) (m + 42 * k)
  | 0, _, _ => ⟨h, hX⟩
  | k + 1, hk, hm => by
    have ih := TkI.all hX hd hq hbq hA h k (by omega) (by omega)
    unfold ticksX
    split
    · rename_i hc
      have hu : ((ticksX zs set k V).nd k).l ≠ -2 := by rw [ih.1.up k (by omega) hc.1]; decide
      exact ⟨TkI.tick (by omega) hc.1 hd hq hbq hA 6 0 _ (m + 42 * k) (by decide) (by rw [if_pos (Nat.zero_le _)]; exact ih.1) ih.2 (by omega), (XI.tick (by omega) 6 0 _ (m + 42 * k) (by decide) ih.2 hu (by omega)).mono (by omega)⟩
    · rename_i hc
      refine ⟨ih.1.skip hbq ?_, ih.2.mono (by omega)⟩
      cases hb : bit set k with
      | false => rfl
      | true =>
        refine absurd ⟨hb, ?_⟩ hc
        unfold upN
        rw [ih.1.up k (by omega) hb]
        decide
theorem fin_mo (h : Mo zs V V') {i : Nat} (hi : i < zs.length) (hd : d < 6) (hf : finB (stN (V.nd i) d).ph = true) : finB (stN (V'.nd i) d).ph = true := by
  have := h i d hi hd
  have h2 := of_decide_eq_true hf
  refine decide_eq_true ?_
  unfold mayN at this
  omega
/-- A round keeps what always stands, and who is final. -/
theorem round_keeps (hX : XI zs V m) (hA : AX zs V) (hd : d < 6) {r : Nat} (hr : r < zs.length) (hf : finB (stN (V.nd r) d).ph = true) (hm : m + 42 * zs.length + 2 * pot zs (ticksX zs set zs.length V) < 1000000) : finB (stN ((roundX zs set V).nd r) d).ph = true := by
  obtain ⟨h1, hX1⟩ := all_inv (set := set) (I := fun U => AX zs U ∧ finB (stN (U.nd r) d).ph = true) (fun U s e m hs hb he hu hX hm h => by
    have := h.1.ticks hX hs he hu hm
    exact ⟨this.1, fin_mo this.2 hr hd h.2⟩) hX ⟨hA, hf⟩ zs.length (Nat.le_refl _) (by omega)
  have := del_inv (zs := zs) (M := 1000000) (I := fun U => AX zs U ∧ finB (stN (U.nd r) d).ph = true) (fun U f rest m hX hm h hfl => by
    have := h.1.deliver (k := 0) hX (by omega : m < 4000000000) (f := f) (by rw [hfl]; exact List.mem_cons_self)
    exact ⟨this.1, fin_mo this.2 hr hd h.2⟩) (by decide) (pot zs (ticksX zs set zs.length V)) _ _ hX1 (by omega) (Nat.le_refl _) h1
  exact this.1.2
theorem round_stands (hX : XI zs V m) (hA : AX zs V) (hU : UpI zs set V) (hm : m + 42 * zs.length + 2 * pot zs (ticksX zs set zs.length V) < 1000000) :
    AX zs (roundX zs set V) ∧ UpI zs set (roundX zs set V) ∧ XI zs (roundX zs set V) (m + 42 * zs.length + 2 * pot zs (ticksX zs set zs.length V)) ∧ (roundX zs set V).fly = [] := by
  obtain ⟨h1, hX1⟩ := all_inv (set := set) (I := fun U => AX zs U ∧ UpI zs set U) (fun U s e m hs hb he hu hX hm h => ⟨(h.1.ticks hX hs he hu hm).1, h.2.ticks hX hm hs hb he⟩) hX ⟨hA, hU⟩ zs.length (Nat.le_refl _) (by omega)
  have := del_inv (zs := zs) (M := 1000000) (I := fun U => AX zs U ∧ UpI zs set U) (fun U f rest m hX hm h hfl => ⟨(h.1.deliver (k := 0) hX (by omega : m < 4000000000) (f := f) (by rw [hfl]; exact List.mem_cons_self)).1, h.2.deliver hX hm (by rw [hfl]; exact List.mem_cons_self)⟩) (by decide) (pot zs (ticksX zs set zs.length V)) _ _ hX1 (by omega) (Nat.le_refl _) h1
  exact ⟨this.1.1, this.1.2, this.2.1, this.2.2⟩
/-- The first round: one of the set is final. -/
theorem round_one (hX : XI zs V m) (hAx : AX zs V) (hB : FB zs V T) (hT : T + 7 ≤ 1048576) (hU : UpI zs set V) (hd : d < 6) (hno : ∀ i, i < zs.length → bit set i = true → (V.nd i).ld d = none)
    (hk : ∃ i, i < zs.length ∧ bit set i = true ∧ stN (V.nd i) d ≠ St.zero) (hen : enoughB zs set = true) (hm : m + 42 * zs.length + 2 * pot zs (ticksX zs set zs.length V) < 1000000) : Fz zs set d (roundX zs set V) := by
  by_cases hz : Fz zs set d V
  · obtain ⟨r, h1, h2, h3⟩ := hz
    exact ⟨r, h1, h2, round_keeps hX hAx hd h1 h3 hm⟩
  · obtain ⟨q, A, q1, q2, hA, ht⟩ := TkI.start hX hB hT hU hd hno hk hz
    obtain ⟨h1, hX1⟩ := TkI.all hX hd q1 q2 hA ht zs.length (Nat.le_refl _) (by omega)
    have := del_inv (zs := zs) (M := 1000000) (I := fun U => EnI zs set d q A U) (fun U f rest m hX hm h hfl => h.deliver hX hm q1 q2 hA.1 hfl) (by decide) (pot zs (ticksX zs set zs.length V)) _ _ hX1 (by omega) (Nat.le_refl _) (h1.end q1)
    exact this.1.done hX.he hen this.2.2
/-- One of the set has told all of it. -/
def SentE (zs : List Int) (set : Int) (d r : Nat) (V : PX) : Prop := ∀ i, i < zs.length → bit set i = true → finB (stN (V.nd i) d).ph = true ∨ ∃ f, f ∈ V.fly ∧ f.f = (r : Int) ∧ f.t = (i : Int) ∧ f.d = (d : Int) ∧ f.k = 7 ∧ (f.ph = 2 ∨ f.ph = 3)
theorem ticks_grow (s e : Nat) : ∀ g, g ∈ V.fly → g ∈ (tickD zs V s e).fly := fun g hg => by
  unfold tickD
  split
  · exact hg
  · split
    · exact List.mem_append.2 (.inl hg)
    · unfold tryX
      split
      · exact hg
      · split
        · exact hg
        · exact List.mem_append.2 (.inl hg)
theorem SentE.ticks {s e r : Nat} (h : SentE zs set d r V) (hA : AX zs V) (hX : XI zs V m) (hd : d < 6) (hs : s < zs.length) (he : e < 6) (hu : (V.nd s).l ≠ -2) (hm : m < 1000000) : SentE zs set d r (tickD zs V s e) := fun i hi hb => by
  rcases h i hi hb with x | ⟨f, x1, x2⟩
  · exact .inl (fin_mo (hA.ticks hX hs he hu hm).2 hi hd x)
  · exact .inr ⟨f, ticks_grow s e f x1, x2⟩
/-- A final site's tick. -/
theorem tick_sent {r : Nat} (hr : r < zs.length) (hbr : bit set r = true) (hd : d < 6) : ∀ (k e : Nat) (V : PX) (m : Nat), e + k = 6 → e ≤ d → AX zs V → UpI zs set V → finB (stN (V.nd r) d).ph = true → XI zs V m → m + 7 * k < 1000000 → SentE zs set d r (tickX zs r k e V)
  | 0, e, _, _, hk, he, _, _, _, _, _ => by omega
  | k + 1, e, V, m, hk, he, hA, hU, hf, hX, hm => by
    have hl := hU.up r hr hbr
    have hu : (V.nd r).l ≠ -2 := by rw [hl]; decide
    have hX1 := hX.ticks hr (d := e) (by omega) hu (by omega)
    have hA1 := hA.ticks hX hr (d := e) (by omega) hu (by omega)
    have hU1 := hU.ticks (e := e) hX (by omega) hr hbr (by omega)
    have hl1 := hU1.up r hr hbr
    unfold tickX
    rw [if_pos (by unfold upN; rw [hl1]; decide)]
    by_cases c : e = d
    · subst c
      have h1 : SentE zs set e r (tickD zs V r e) := fun i hi hb => by
        refine .inr ⟨⟨r, i, e, 7, (stN (V.nd r) e).pr, false, (stN (V.nd r) e).ph, 0, 0⟩, ?_, rfl, rfl, rfl, rfl, ?_⟩
        · unfold tickD
          rw [if_neg (fun z => by rw [z] at hf; cases hf), if_pos hf]
          exact List.mem_append.2 (.inr (toL_has hi))
        · have := of_decide_eq_true hf
          show ((stN (V.nd r) e).ph : Int) = 2 ∨ ((stN (V.nd r) e).ph : Int) = 3
          omega
      exact (ticks_inv (set := set) (I := fun U => AX zs U ∧ SentE zs set e r U) (fun U s c m hs hb hc hu hX hm h => ⟨(h.1.ticks hX hs hc hu hm).1, h.2.ticks h.1 hX hd hs hc hu hm⟩) hr hbr k (e + 1) _ (m + 7) (by omega) hX1 (by rw [hl1]; decide) (by omega) ⟨hA1.1, h1⟩).2
    · exact tick_sent hr hbr hd k (e + 1) _ (m + 7) (by omega) (by omega) hA1.1 hU1 (fin_mo hA1.2 hr hd hf) hX1 (by omega)
theorem all_sent {r : Nat} (hr : r < zs.length) (hbr : bit set r = true) (hd : d < 6) (hA : AX zs V) (hU : UpI zs set V) (hf : finB (stN (V.nd r) d).ph = true) (hX : XI zs V m) : ∀ k, k ≤ zs.length → m + 42 * k < 1000000 → (r < k → SentE zs set d r (ticksX zs set k V))
  | 0, _, _ => fun h => absurd h (Nat.not_lt_zero _)
  | k + 1, hk, hm => fun hrk => by
    obtain ⟨⟨i1, i2, i3⟩, hXk⟩ := all_inv (set := set) (I := fun U => AX zs U ∧ UpI zs set U ∧ finB (stN (U.nd r) d).ph = true) (fun U s e m hs hb he hu hX hm h => ⟨(h.1.ticks hX hs he hu hm).1, h.2.1.ticks hX hm hs hb he, fin_mo (h.1.ticks hX hs he hu hm).2 hr hd h.2.2⟩) hX ⟨hA, hU, hf⟩ k (by omega) (by omega)
    unfold ticksX
    by_cases c : r = k
    · subst c
      rw [if_pos ⟨hbr, by unfold upN; rw [i2.up r hr hbr]; decide⟩]
      exact tick_sent hr hbr hd 6 0 _ (m + 42 * r) (by decide) (Nat.zero_le _) i1 i2 i3 hXk (by omega)
    · have ih := all_sent hr hbr hd hA hU hf hX k (by omega) (by omega) (by omega)
      split
      · rename_i hc
        exact (ticks_inv (set := set) (I := fun U => AX zs U ∧ SentE zs set d r U) (fun U s c m hs hb hc hu hX hm h => ⟨(h.1.ticks hX hs hc hu hm).1, h.2.ticks h.1 hX hd hs hc hu hm⟩) (by omega) hc.1 6 0 _ (m + 42 * k) (by decide) hXk (by rw [i2.up k (by omega) hc.1]; decide) (by omega) ⟨i1, ih⟩).2
      · exact ih
theorem UpI.reach (h : UpI zs set V) (hF : FI zs.length f) (hf : bit set f.f.toNat = true) (ht : bit set f.t.toNat = true) : reachB V f = true := by
  have f0 := hF.f0; have f1 := hF.f1; have t0 := hF.t0; have t1 := hF.t1
  unfold reachB upN
  rw [h.up _ (by omega) ht]
  by_cases e : f.f = f.t
  · rw [e]; simp
  · have hne : f.f.toNat ≠ f.t.toNat := by omega
    have := h.br f.f.toNat f.t.toNat (by omega) (by omega) hne
    cases hb : brX V f.f.toNat f.t.toNat with
    | true => exact absurd ⟨hf, ht⟩ (this.1 hb)
    | false => simp
theorem deliver_grow (hfl : V.fly = f :: rest) : ∀ g, g ∈ rest → g ∈ (deliverX zs V 0 f).fly := fun g hg => by
  have hr := (fly_out hfl).2.2
  have hg2 : g ∈ (takeX V 0).fly := by rw [hr]; exact hg
  unfold deliverX
  split
  · refine List.mem_append.2 (.inl ?_)
    unfold arriveX leadX
    split
    · split <;> exact hg2
    · exact hg2
  · exact hg2
theorem SentE.deliver {r : Nat} (h : SentE zs set d r V) (hA : AX zs V) (hU : UpI zs set V) (hX : XI zs V m) (hd : d < 6) (hbr : bit set r = true) (hm : m < 1000000) (hfl : V.fly = f :: rest) : SentE zs set d r (deliverX zs V 0 f) := fun i hi hb => by
  have hmem : f ∈ V.fly := by rw [hfl]; exact List.mem_cons_self
  rcases h i hi hb with x | ⟨g, x1, x2, x3, x4, x5, x6⟩
  · exact .inl (fin_mo (hA.deliver (k := 0) hX (by omega) hmem).2 hi hd x)
  · by_cases c : g = f
    · subst c
      left
      have hF := hX.fr g hmem
      have hr := hU.reach hF (by rw [x2, Int.toNat_natCast]; exact hbr) (by rw [x3, Int.toNat_natCast]; exact hb)
      have hti : g.t.toNat = i := by omega
      have hdi : g.d.toNat = d := by omega
      unfold deliverX
      rw [if_pos hr]
      unfold arriveX arriveO
      rw [if_neg (by rw [x5]; decide), if_neg (by rw [x5]; decide), hti]
      have hX1 : XI zs (takeX V 0) m := hX.take
      have hl1 : ((takeX V 0).nd i).l = -1 := hU.up i hi hb
      have hu : ((takeX V 0).nd i).l ≠ -2 := by rw [hl1]; decide
      have hh := hearN_hf (hX1.nd i hi) hu hF (by omega : m < 4000000000)
      obtain ⟨hc, -, -⟩ := hear_free (hX1.nd i hi) hl1 hF hm
      have hst : stN ((hearX (takeX V 0) i g).nd i) d = (gHN ((takeX V 0).nd i) g).st := by
        have h2 := congrFun (hearX_st (V := takeX V 0) (i := i) hh hc) i
        rw [hdi, upd_at] at h2
        exact h2
      show finB (stN ((hearX (takeX V 0) i g).nd i) d).ph = true
      rw [hst]
      have hg : gHN ((takeX V 0).nd i) g = hearL (stN (V.nd i) d) ((V.nd i).R d) g.k.toNat g.a.toNat g.ph.toNat := by unfold gHN; rw [hdi]; rfl
      rw [hg, x5]
      have hfp : finB g.ph.toNat = true := decide_eq_true (by omega)
      unfold hearL
      rw [if_neg (by decide), if_neg (by decide), if_neg (by decide), if_pos (by decide)]
      split
      · exact hfp
      · rename_i hn
        cases hq : finB (stN (V.nd i) d).ph with
        | true => rfl
        | false => exact absurd ⟨hfp, hq⟩ hn
    · exact .inr ⟨g, deliver_grow hfl g ((fly_out hfl).2.1 g x1 c), x2, x3, x4, x5, x6⟩
/-- The second round: all of it are. -/
theorem round_two (hX : XI zs V m) (hAx : AX zs V) (hU : UpI zs set V) (hd : d < 6) (hz : Fz zs set d V) (hm : m + 42 * zs.length + 2 * pot zs (ticksX zs set zs.length V) < 1000000) : ∀ i, i < zs.length → bit set i = true → finB (stN ((roundX zs set V).nd i) d).ph = true := by
  obtain ⟨r, hr, hbr, hf⟩ := hz
  obtain ⟨⟨i1, i2⟩, hX1⟩ := all_inv (set := set) (I := fun U => AX zs U ∧ UpI zs set U) (fun U s e m hs hb he hu hX hm h => ⟨(h.1.ticks hX hs he hu hm).1, h.2.ticks hX hm hs hb he⟩) hX ⟨hAx, hU⟩ zs.length (Nat.le_refl _) (by omega)
  have hs := all_sent hr hbr hd hAx hU hf hX zs.length (Nat.le_refl _) (by omega) hr
  have := del_inv (zs := zs) (M := 1000000) (I := fun U => AX zs U ∧ UpI zs set U ∧ SentE zs set d r U) (fun U f rest m hX hm h hfl => ⟨(h.1.deliver (k := 0) hX (by omega : m < 4000000000) (f := f) (by rw [hfl]; exact List.mem_cons_self)).1, h.2.1.deliver hX hm (by rw [hfl]; exact List.mem_cons_self), h.2.2.deliver h.1 h.2.1 hX hd hbr hm hfl⟩) (by decide) (pot zs (ticksX zs set zs.length V)) _ _ hX1 (by omega) (Nat.le_refl _) ⟨i1, i2, hs⟩
  intro i hi hb
  rcases this.1.2.2 i hi hb with x | ⟨f, x1, -⟩
  · exact x
  · rw [this.2.2] at x1
    cases x1
end
end Go.Proofs.YtdpemmmbkjmplabGreatDoor
namespace Go.Proofs.YtdpemmmbkjmplabGreatDoor
open Go.RowKit

section
variable {zs : List Int} {set : Int} {d m a b : Nat} {V V0 V' : PX}
/-- The links of the first a sites, and of the next one the first b, are as the set says; who of it is among the first a is up anew. -/
structure Bare (zs : List Int) (set : Int) (V0 V : PX) (a b : Nat) : Prop where
  st : ∀ i d, stN (V.nd i) d = stN (V0.nd i) d
  ld : ∀ i d x, (V.nd i).ld d = some x → (V0.nd i).ld d = some x
  fly : V.fly = V0.fly
  evs : V.evs = V0.evs
  br : ∀ x y, (x < a ∧ y < zs.length) ∨ (x = a ∧ y < b) → brX V x y = !(bit set x && bit set y)
  up : ∀ i, i < a → bit set i = true → (V.nd i).l = -1 ∧ ∀ d, (V.nd i).ld d = none
theorem Bare.start (V : PX) : Bare zs set V V 0 0 :=
  ⟨fun _ _ => rfl, fun _ _ _ h => h, rfl, rfl, fun x y h => by omega, fun i h => absurd h (Nat.not_lt_zero _)⟩
theorem link_br (V : PX) (a b x y : Nat) (w : Bool) : brX (linkX V a b w) x y = if min x y = min a b ∧ max x y = max a b then !w else brX V x y := rfl
theorem Bare.link (h : Bare zs set V0 V a b) : Bare zs set V0 (linkX V a b (bit set a && bit set b)) a (b + 1) := by
  refine ⟨h.st, h.ld, h.fly, h.evs, fun x y hxy => ?_, h.up⟩
  rw [link_br]
  split
  · rename_i e
    have : (x = a ∧ y = b) ∨ (x = b ∧ y = a) := by omega
    rcases this with ⟨rfl, rfl⟩ | ⟨rfl, rfl⟩
    · rfl
    · rw [Bool.and_comm]
  · rename_i e
    refine h.br x y ?_
    rcases hxy with z | ⟨z1, z2⟩
    · exact .inl z
    · by_cases c : y = b
      · rw [z1, c] at e; exact absurd ⟨rfl, rfl⟩ e
      · exact .inr ⟨z1, by omega⟩
theorem Bare.row (h : Bare zs set V0 V a zs.length) (hb : bit set a = false) : Bare zs set V0 V (a + 1) 0 :=
  ⟨h.st, h.ld, h.fly, h.evs, fun x y hxy => h.br x y (by omega), fun i hi hbi => h.up i (by
    by_cases c : i = a
    · rw [c, hb] at hbi; cases hbi
    · omega) hbi⟩
theorem Bare.down (h : Bare zs set V0 V a b) : Bare zs set V0 (downX V a) a b ∧ ∀ d, ((downX V a).nd a).ld d = none := by
  refine ⟨⟨fun i d => ?_, fun i d x hx => ?_, h.fly, h.evs, h.br, fun i hi hb => ?_⟩, fun d => by unfold downX; rw [nd_at]; rfl⟩
  · have := nd_keep (V := V) (s := a) (N := fallN (V.nd a)) (fun _ => rfl) i d
    show stN ((setNd V a _).nd i) d = _
    rw [this]; exact h.st i d
  · have hx2 : ((setNd V a (fallN (V.nd a))).nd i).ld d = some x := hx
    by_cases c : i = a
    · subst c; rw [nd_at] at hx2; cases hx2
    · rw [nd_ne _ _ _ c] at hx2; exact h.ld i d x hx2
  · show ((setNd V a (fallN (V.nd a))).nd i).l = -1 ∧ ∀ d, ((setNd V a (fallN (V.nd a))).nd i).ld d = none
    rw [nd_ne _ _ _ (show i ≠ a by omega)]
    exact h.up i hi hb
theorem Bare.wake (h : Bare zs set V0 V a zs.length) (hl : ∀ d, (V.nd a).ld d = none) : Bare zs set V0 (upX V a) (a + 1) 0 := by
  refine ⟨fun i d => ?_, fun i d x hx => ?_, h.fly, h.evs, fun x y hxy => h.br x y (by omega), fun i hi hb => ?_⟩
  · have := nd_keep (V := V) (s := a) (N := { V.nd a with l := -1, over := false, R := fun _ => false }) (fun _ => rfl) i d
    show stN ((setNd V a _).nd i) d = _
    rw [this]; exact h.st i d
  · have hx2 := ld_keep (V := V) (s := a) (N := { V.nd a with l := -1, over := false, R := fun _ => false }) (fun _ _ y => y) i d x hx
    exact h.ld i d x hx2
  · show ((setNd V a _).nd i).l = -1 ∧ ∀ d, ((setNd V a _).nd i).ld d = none
    by_cases c : i = a
    · subst c; rw [nd_at]; exact ⟨rfl, hl⟩
    · rw [nd_ne _ _ _ c]; exact h.up i (by omega) hb
theorem Bare.end (h : Bare zs set V0 V zs.length 0) : UpI zs set V ∧ (∀ i d, i < zs.length → bit set i = true → (V.nd i).ld d = none) := by
  refine ⟨⟨fun i hi hb => (h.up i hi hb).1, fun x y hx hy _ => ?_⟩, fun i d hi hb => (h.up i hi hb).2 d⟩
  rw [h.br x y (.inl ⟨hx, hy⟩)]
  cases bit set x <;> cases bit set y <;> simp
theorem Bare.ax (h : Bare zs set V0 V a b) (hA : AX zs V0) : AX zs V := hA.quiet h.st (fun i d x _ => h.ld i d x) (fun f hf => by rw [← h.fly]; exact hf) h.evs
theorem Bare.fb {T : Nat} (h : Bare zs set V0 V a b) (hB : FB zs V0 T) : FB zs V T := hB.quiet h.st h.ld (fun f hf => by rw [← h.fly]; exact hf)
theorem Bare.pot (h : Bare zs set V0 V a b) : pot zs V ≤ pot zs V0 := by
  unfold Go.Proofs.YtdpemmmbkjmplabGreatDoor.pot
  rw [h.fly]
  refine Nat.add_le_add_left (sumN_le fun i _ => ?_) _
  unfold potN
  refine sumN_le fun e _ => ?_
  cases hx : (V.nd i).ld e with
  | none => exact Nat.zero_le _
  | some x => rw [h.ld i e x hx]; exact Nat.le_refl _
/-- Nothing is on its way to sites that are no quorum and are cut off: they wait. -/
theorem WaI.start (hU : UpI zs set V) (hl : ∀ i, i < zs.length → bit set i = true → (V.nd i).ld d = none) (hf : V.fly = []) (hn : ∀ i, i < zs.length → bit set i = true → finB (stN (V.nd i) d).ph = false) : WaI zs set d V ∧ WaX zs set V := by
  refine ⟨⟨hn, fun f h => (by rw [hf] at h; cases h), fun i x hi hb hx => (by rw [hl i hi hb] at hx; cases hx)⟩, ⟨fun f h => (by rw [hf] at h; cases h), fun x y hx hy hxy hne => (hU.br x y hx hy hxy).2 hne⟩⟩
theorem WaI.round (h : WaI zs set d V) (hW : WaX zs set V) (hX : XI zs V m) (hen : enoughB zs set = false) (hm : m + 42 * zs.length + 2 * Go.Proofs.YtdpemmmbkjmplabGreatDoor.pot zs (ticksX zs set zs.length V) < 1000000) :
    WaI zs set d (roundX zs set V) ∧ WaX zs set (roundX zs set V) := by
  obtain ⟨h1, hX1⟩ := all_inv (set := set) (I := fun U => WaI zs set d U ∧ WaX zs set U) (fun U s e m hs hb he hu hX hm h => ⟨h.1.ticks hX hen hs hb he hu hm, h.2.ticks hb⟩) hX ⟨h, hW⟩ zs.length (Nat.le_refl _) (by omega)
  have := del_inv (zs := zs) (M := 1000000) (I := fun U => WaI zs set d U ∧ WaX zs set U) (fun U f rest m hX hm h hfl => ⟨h.1.deliver h.2 hX hen (by omega) (by rw [hfl]; exact List.mem_cons_self), h.2.deliver hX (by rw [hfl]; exact List.mem_cons_self)⟩) (by decide) (Go.Proofs.YtdpemmmbkjmplabGreatDoor.pot zs (ticksX zs set zs.length V)) _ _ hX1 (by omega) (Nat.le_refl _) h1
  exact this.1
/-- How many frames a step puts on their way. -/
theorem hears_len (s e : Nat) (c : Int) (f : F9) (P : PL) : (hearsL zs s e c P [f]).2.length ≤ zs.length := by
  show (outL s e c zs.length (phear zs s e c P f).2 ++ []).length ≤ _
  rw [List.append_nil]
  exact outL_le _ _ _ _ _
theorem try_len (s e : Nat) (c : Int) : (tryX zs V s e c).fly.length ≤ V.fly.length + 2 * zs.length := by
  unfold tryX
  split
  · omega
  · split
    · show V.fly.length ≤ _
      omega
    · show (V.fly ++ (electL s e c zs.length ++ (hearsL zs s e c P0 (ansN s (V.nd s) (electF s e c))).2)).length ≤ _
      rw [List.length_append, List.length_append]
      have h1 : (electL s e c zs.length).length ≤ zs.length := by
        have h2 := (List.eraseIdx_sublist (toL s e 3 c 0 zs.length) s).length_le
        rw [toL_length] at h2
        exact h2
      have h2 : (hearsL zs s e c P0 (ansN s (V.nd s) (electF s e c))).2.length ≤ zs.length := by
        unfold ansN
        split
        · exact hears_len _ _ _ _ _
        · exact Nat.zero_le _
      omega
theorem tick_len (s : Nat) : ∀ (k e : Nat) (V : PX), (tickX zs s k e V).fly.length ≤ V.fly.length + k * (2 * zs.length)
  | 0, _, V => by show V.fly.length ≤ _; omega
  | k + 1, e, V => by
    have h1 : (tickD zs V s e).fly.length ≤ V.fly.length + 2 * zs.length := by
      unfold tickD
      split
      · omega
      · split
        · show (V.fly ++ _).length ≤ _
          rw [List.length_append, toL_length]; omega
        · exact try_len s e _
    have e2 : (k + 1) * (2 * zs.length) = k * (2 * zs.length) + 2 * zs.length := Nat.succ_mul _ _
    unfold tickX
    split
    · have h2 := tick_len s k (e + 1) (tickD zs V s e)
      omega
    · omega
theorem Stp.len (h : Stp zs V V') (hX : XI zs V m) : V'.fly.length ≤ V.fly.length + 84 := by
  have n7 := (errW_zero hX.he).2.1
  rcases h with rfl | ⟨s, d, hs, hd, hc, rfl⟩ | ⟨s, d, hs, hu, rfl⟩ | ⟨s, hs, hu, rfl⟩ | ⟨s, hs, hu, rfl⟩ | ⟨s, hs, hu, rfl⟩ | ⟨k, rfl⟩ | ⟨k, f, hf, rfl⟩ | ⟨a, b, x, rfl⟩ | ⟨s, n, hs, rfl⟩ | ⟨k, f, hk, rfl⟩
  · omega
  · show (V.fly ++ toL s d 1 0 0 zs.length).length ≤ _
    rw [List.length_append, toL_length]; omega
  · show V.fly.length ≤ _; omega
  · have := tick_len (zs := zs) s 6 0 V; omega
  · show V.fly.length ≤ _; omega
  · show V.fly.length ≤ _; omega
  · show (V.fly.eraseIdx k).length ≤ _
    have := (List.eraseIdx_sublist V.fly k).length_le; omega
  · show (V.fly.take k ++ f :: V.fly.drop k).length ≤ _
    have h1 : V.fly.length = (V.fly.take k).length + (V.fly.drop k).length := by rw [← List.length_append, List.take_append_drop]
    rw [List.length_append, List.length_cons]; omega
  · show V.fly.length ≤ _; omega
  · show V.fly.length ≤ _; omega
  · have h1 := (List.eraseIdx_sublist V.fly k).length_le
    unfold deliverX
    split
    · have h2 : (arriveX zs (takeX V k) f).fly = V.fly.eraseIdx k := by
        unfold arriveX leadX
        split
        · split <;> rfl
        · rfl
      show ((arriveX zs (takeX V k) f).fly ++ arriveO zs (takeX V k) f).length ≤ _
      rw [List.length_append, h2]
      have h3 : (arriveO zs (takeX V k) f).length ≤ 7 := by
        unfold arriveO leadO
        split
        · split
          · exact Nat.zero_le _
          · exact Nat.le_trans (outL_le _ _ _ _ _) n7
        · unfold ansN
          split
          · show 1 ≤ 7; decide
          · exact Nat.zero_le _
      omega
    · show (V.fly.eraseIdx k).length ≤ _
      omega
end
end Go.Proofs.YtdpemmmbkjmplabGreatDoor
namespace Go.Proofs.YtdpemmmbkjmplabGreatDoor
open Go.RowKit

def roundsX (zs : List Int) (set : Int) : Nat → PX → PX
  | 0, V => V
  | k + 1, V => roundsX zs set k (roundX zs set V)
section
variable {zs : List Int} {set : Int} {d m T : Nat} {V : PX}
theorem pot_round (hX : XI zs V m) (hm : m + 42 * zs.length + 2 * pot zs (ticksX zs set zs.length V) < 1000000) : pot zs (roundX zs set V) ≤ pot zs V + 1470 := by
  have n7 := (errW_zero hX.he).2.1
  obtain ⟨-, hX1⟩ := all_inv (set := set) (I := fun _ => True) (fun _ _ _ _ _ _ _ _ _ _ _ => trivial) hX trivial zs.length (Nat.le_refl _) (by omega)
  have h1 := del_inv (zs := zs) (M := 1000000) (I := fun U => pot zs U ≤ pot zs (ticksX zs set zs.length V)) (fun U f rest m hX hm h hfl => by
    have := pot_deliver hX (k := 0) (f := f) (by rw [hfl]; rfl)
    omega) (by decide) (pot zs (ticksX zs set zs.length V)) _ _ hX1 (by omega) (Nat.le_refl _) (Nat.le_refl _)
  have h2 := pot_all (zs := zs) (set := set) (V := V) zs.length
  have h3 : zs.length * (30 * zs.length) ≤ 1470 := Nat.le_trans (Nat.mul_le_mul n7 (Nat.mul_le_mul_left 30 n7)) (by decide)
  have h4 : pot zs (roundX zs set V) ≤ pot zs (ticksX zs set zs.length V) := h1.1
  omega
theorem pot_ticks_le (hX : XI zs V m) : pot zs (ticksX zs set zs.length V) ≤ pot zs V + 1470 := by
  have n7 := (errW_zero hX.he).2.1
  have h2 := pot_all (zs := zs) (set := set) (V := V) zs.length
  have h3 : zs.length * (30 * zs.length) ≤ 1470 := Nat.le_trans (Nat.mul_le_mul n7 (Nat.mul_le_mul_left 30 n7)) (by decide)
  omega
/-- Where a quorum is together. -/
theorem ends_all (hX : XI zs V m) (hA : AX zs V) (hB : FB zs V T) (hT : T + 7 ≤ 1048576) (hU : UpI zs set V) (hno : ∀ i d, i < zs.length → bit set i = true → (V.nd i).ld d = none) (hen : enoughB zs set = true) (hm : m + 4 * pot zs V + 12348 < 1000000) :
    AX zs (roundsX zs set 2 V) ∧ (roundsX zs set 2 V).fly = [] ∧ ∀ d, d < 6 → (∃ i, i < zs.length ∧ bit set i = true ∧ stN (V.nd i) d ≠ St.zero) → ∀ i, i < zs.length → bit set i = true → finB (stN ((roundsX zs set 2 V).nd i) d).ph = true := by
  have n7 := (errW_zero hX.he).2.1
  have p1 := pot_ticks_le (set := set) hX
  obtain ⟨a1, u1, x1, -⟩ := round_stands hX hA hU (by omega)
  have q1 := pot_round (set := set) hX (by omega)
  have p2 := pot_ticks_le (set := set) x1
  obtain ⟨a2, -, -, f2⟩ := round_stands x1 a1 u1 (by omega)
  exact ⟨a2, f2, fun d hd hk => round_two x1 a1 u1 hd (round_one hX hA hB hT hU hd (fun i hi hb => hno i d hi hb) hk hen (by omega)) (by omega)⟩
theorem waits_all (hen : enoughB zs set = false) : ∀ (k : Nat) (V : PX) (m : Nat), XI zs V m → WaI zs set d V → WaX zs set V → m + k * (294 + 2 * (pot zs V + 1470 * k)) < 1000000 → WaI zs set d (roundsX zs set k V)
  | 0, _, _, _, h, _, _ => h
  | k + 1, V, m, hX, h, hW, hm => by
    have n7 := (errW_zero hX.he).2.1
    have p1 := pot_ticks_le (set := set) hX
    have e1 : (k + 1) * (294 + 2 * (pot zs V + 1470 * (k + 1))) = k * (294 + 2 * (pot zs V + 1470 * (k + 1))) + (294 + 2 * (pot zs V + 1470 * (k + 1))) := Nat.succ_mul _ _
    have hm1 : m + 42 * zs.length + 2 * pot zs (ticksX zs set zs.length V) < 1000000 := by omega
    obtain ⟨h1, w1⟩ := h.round hW hX hen hm1
    have q1 := pot_round (set := set) hX hm1
    obtain ⟨-, hX1⟩ := all_inv (set := set) (I := fun _ => True) (fun _ _ _ _ _ _ _ _ _ _ _ => trivial) hX trivial zs.length (Nat.le_refl _) (by omega)
    have x1 := (del_inv (zs := zs) (M := 1000000) (I := fun _ => True) (fun _ _ _ _ _ _ _ _ => trivial) (by decide) (pot zs (ticksX zs set zs.length V)) _ _ hX1 (by omega) (Nat.le_refl _) trivial).2.1
    have hle : k * (294 + 2 * (pot zs (roundX zs set V) + 1470 * k)) ≤ k * (294 + 2 * (pot zs V + 1470 * (k + 1))) := Nat.mul_le_mul_left k (by omega)
    exact waits_all hen k (roundX zs set V) _ x1 h1 w1 (by omega)
end
end Go.Proofs.YtdpemmmbkjmplabGreatDoor
