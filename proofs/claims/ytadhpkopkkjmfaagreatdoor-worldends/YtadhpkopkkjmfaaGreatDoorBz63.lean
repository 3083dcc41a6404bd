/-
  On the way to WEndsProof, WWaitsProof: YV YW YX YZ.
-/
import Derived.Test.YtadhpkopkkjmfaaGreatDoorBz53
import Derived.Test.YtadhpkopkkjmfaaGreatDoorBz58
set_option maxHeartbeats 8000000
set_option maxRecDepth 100000
namespace Go.Proofs.YtadhpkopkkjmfaaGreatDoor
open Go.RowKit
section
variable {zs : List Int} {set : Int} {d q m : Nat} {A : Int} {V V' : PX} {f : F9} {rest : List F9}
theorem fly_out (hfl : V.fly = f :: rest) : (∀ g, g ∈ rest → g ∈ V.fly) ∧ (∀ g, g ∈ V.fly → g ≠ f → g ∈ rest) ∧ (takeX V 0).fly = rest :=
  ⟨fun g hg => by rw [hfl]; exact List.mem_cons_of_mem _ hg, fun g hg hne => by
    rw [hfl] at hg
    rcases List.mem_cons.1 hg with e | e
    · exact absurd e hne
    · exact e, by show V.fly.eraseIdx 0 = rest; rw [hfl]; rfl⟩
theorem EnI.lost (h : EnI zs set d q A V) (hq : q < zs.length) (hbq : bit set q = true) (hfl : V.fly = f :: rest)
    (hno : witE d q A f → ((V.nd q).ld d ≠ none ∨ f.k = 7) → ∀ i, i < zs.length → bit set i = true → f.t = (i : Int) → bit set f.f.toNat = true → False) : EnI zs set d q A (takeX V 0) := by
  obtain ⟨hin, hout, hr⟩ := fly_out hfl
  refine h.other hq hbq (fun g hg => .inl (hin g (by rw [← hr]; exact hg))) (by rw [hr]; exact (pair_tail hfl h.e1).2) (fun g i hg hw hz hi hb ht hbf => ?_) (fun i _ _ => ⟨rfl, rfl⟩) rfl (fun i x _ _ hx => ⟨x, hx, rfl⟩) rfl
  rw [hr]
  refine hout g hg fun e => ?_
  subst e
  exact hno hw hz i hi hb ht hbf
theorem EnI.leadO {i e : Nat} {x : Int × PL} (h : EnI zs set d q A V) (hq : q < zs.length) (hbq : bit set q = true) (hfl : V.fly = f :: rest) (hi : i < zs.length) (hk : f.k = 2 ∨ f.k = 4 ∨ f.k = 6) (ht : f.t = (i : Int)) (hd : f.d = (e : Int)) (hx : (V.nd i).ld e = some x) (hne : e ≠ d ∨ bit set i = false ∨ i ≠ q) :
    EnI zs set d q A (sendX (setNd (takeX V 0) i (setLd ((takeX V 0).nd i) e (x.1, (phear zs i e x.1 x.2 f).1))) (outL i e x.1 zs.length (phear zs i e x.1 x.2 f).2)) := by
  obtain ⟨hin, hout, hr⟩ := fly_out hfl
  have hkinds : ∀ g, g ∈ outL i e x.1 zs.length (phear zs i e x.1 x.2 f).2 → (g.k = 5 ∨ g.k = 7) ∧ g.a = x.1 ∧ g.f = (i : Int) ∧ g.d = (e : Int) := by
    intro g hg
    cases hp : (phear zs i e x.1 x.2 f).2 with
    | none => rw [hp] at hg; cases hg
    | some z =>
      rw [hp] at hg
      have h1 := (phear_out hp).1
      have h2 := toL_mem hg
      exact ⟨by have := h2.1; omega, h2.2.1, h2.2.2.2.2.1, h2.2.2.2.2.2⟩
  have hcalm : ∀ g, g ∈ outL i e x.1 zs.length (phear zs i e x.1 x.2 f).2 → calmE set d A g := by
    intro g hg
    obtain ⟨k1, k2, k3, k4⟩ := hkinds g hg
    by_cases c : e = d
    · cases hb : bit set i with
      | false => exact .inr (.inl (by rw [k3, Int.toNat_natCast]; exact hb))
      | true =>
        have hiq : i ≠ q := by
          rcases hne with y | y | y
          · exact absurd c y
          · rw [hb] at y; cases y
          · exact y
        subst c
        have hl := h.ld i x hi hb hx
        rcases k1 with y | y
        · refine .inr (.inr (.inr (.inr (.inr ⟨y, ?_⟩))))
          rw [k2]
          rcases Int.lt_or_eq_of_le hl.1 with z | z
          · exact z
          · exact absurd (hl.2 z) hiq
        · exact .inr (.inr (.inr (.inr (.inl y))))
    · exact .inl (by rw [k4]; omega)
  generalize outL i e x.1 zs.length (phear zs i e x.1 x.2 f).2 = L at *
  generalize (phear zs i e x.1 x.2 f).1 = R at *
  have hnd : ∀ j, ((setNd (takeX V 0) i (setLd ((takeX V 0).nd i) e (x.1, R))).nd j).l = (V.nd j).l ∧ ∀ c y, ((setNd (takeX V 0) i (setLd ((takeX V 0).nd i) e (x.1, R))).nd j).ld c = some y → ∃ z, (V.nd j).ld c = some z ∧ z.1 = y.1 := fun j => by
    by_cases c : j = i
    · subst c
      rw [nd_at]
      refine ⟨rfl, fun c y hy => ?_⟩
      by_cases c2 : c = e
      · subst c2
        rw [ld_at] at hy
        cases hy
        exact ⟨x, hx, rfl⟩
      · rw [ld_ne _ _ _ c2] at hy
        exact ⟨y, hy, rfl⟩
    · rw [nd_ne _ _ _ c]
      exact ⟨rfl, fun c y hy => ⟨y, hy, rfl⟩⟩
  refine h.other hq hbq (fun g hg => ?_) ?_ (fun g j hg hw hz hj hb htj hbf => ?_) (fun j _ _ => ⟨(hnd j).1, setLd_st (takeX V 0) i e _ j d⟩) ?_ (fun j y _ _ hy => (hnd j).2 d y hy) rfl
  · have hg2 : g ∈ (takeX V 0).fly ++ L := hg
    rw [hr] at hg2
    rcases List.mem_append.1 hg2 with y | y
    · exact .inl (hin g y)
    · exact .inr (hcalm g y)
  · show ((takeX V 0).fly ++ L).Pairwise _
    rw [hr]
    exact pair_app (pair_tail hfl h.e1).2 fun g hg j hE => by have := (hkinds g hg).1; have := hE.2.2.2.1; omega
  · show g ∈ (takeX V 0).fly ++ L
    rw [hr]
    refine List.mem_append.2 (.inl (hout g hg fun c => ?_))
    subst c
    have hij : i = j := by omega
    subst hij
    obtain ⟨w1, w2⟩ := hw
    rcases hne with y | y | y
    · omega
    · rw [hb] at y; cases y
    · rcases w2 with w | w | w
      · omega
      · omega
      · omega
  · show ((setNd (takeX V 0) i (setLd ((takeX V 0).nd i) e (x.1, R))).nd q).ld d = _
    by_cases c : q = i
    · subst c
      rw [nd_at]
      have : d ≠ e := by
        rcases hne with y | y | y
        · exact fun z => y z.symm
        · rw [hbq] at y; cases y
        · exact absurd rfl y
      rw [ld_ne _ _ _ this]; rfl
    · rw [nd_ne _ _ _ c]; rfl
theorem EnI.siteO {i e : Nat} (h : EnI zs set d q A V) (hX : XI zs V m) (hm : m < 1000000) (hq : q < zs.length) (hbq : bit set q = true) (hfl : V.fly = f :: rest) (hi : i < zs.length) (ht : f.t = (i : Int)) (hd : f.d = (e : Int)) (hne : e ≠ d ∨ bit set i = false) :
    EnI zs set d q A (sendX (hearX (takeX V 0) i f) (ansN i ((takeX V 0).nd i) f)) := by
  obtain ⟨hin, hout, hr⟩ := fly_out hfl
  have hF := hX.fr f (by rw [hfl]; exact List.mem_cons_self)
  have hX1 : XI zs (takeX V 0) m := hX.take
  have hans : ∀ g, g ∈ ansN i ((takeX V 0).nd i) f → g.f = (i : Int) ∧ g.d = (e : Int) ∧ ¬ g.k = 3 := fun g hg => by
    have h7 : ∀ s r k a p, (hearL s r k a p).k ≠ 3 := fun s r k a p => by have := hear_ks s r k a p; omega
    unfold ansN at hg
    split at hg
    · rw [List.mem_singleton] at hg
      rw [hg]
      refine ⟨rfl, hd, fun y => ?_⟩
      have y2 : ((gHN ((takeX V 0).nd i) f).k : Int) = 3 := y
      unfold gHN at y2
      exact h7 _ _ _ _ _ (Int.ofNat.inj y2)
    · cases hg
  have hnd : ∀ j, j < zs.length → bit set j = true → ((hearX (takeX V 0) i f).nd j).l = (V.nd j).l ∧ stN ((hearX (takeX V 0) i f).nd j) d = stN (V.nd j) d ∧ ((hearX (takeX V 0) i f).nd j).ld = (V.nd j).ld := fun j hj hb => by
    by_cases c : j = i
    · subst c
      have hed : e ≠ d := by
        rcases hne with y | y
        · exact y
        · rw [hb] at y; cases y
      have hl1 : ((takeX V 0).nd j).l = -1 := h.up j hj hb
      have hu : ((takeX V 0).nd j).l ≠ -2 := by rw [hl1]; decide
      have hh := hearN_hf (hX1.nd j hj) hu hF (by omega)
      obtain ⟨-, hlh, hldh⟩ := hear_free (hX1.nd j hj) hl1 hF hm
      refine ⟨?_, hearX_ne (V := takeX V 0) (i := j) hh (d := d) (by omega) j, ?_⟩
      · show ((setNd (takeX V 0) j (hearN ((takeX V 0).nd j) f)).nd j).l = _
        rw [nd_at, hlh]; exact (h.up j hj hb).symm
      · show ((setNd (takeX V 0) j (hearN ((takeX V 0).nd j) f)).nd j).ld = _
        rw [nd_at, hldh]; rfl
    · have : (hearX (takeX V 0) i f).nd j = V.nd j := by
        show (setNd (takeX V 0) i (hearN ((takeX V 0).nd i) f)).nd j = _
        rw [nd_ne _ _ _ c]; rfl
      rw [this]
      exact ⟨rfl, rfl, rfl⟩
  have hWf : (hearX (takeX V 0) i f).fly = rest := hr
  have hWb : (hearX (takeX V 0) i f).br = V.br := rfl
  generalize hearX (takeX V 0) i f = W at *
  generalize ansN i ((takeX V 0).nd i) f = L at *
  refine h.other hq hbq (fun g hg => ?_) ?_ (fun g j hg hw hz hj hb htj hbf => ?_) (fun j hj hb => ⟨(hnd j hj hb).1, (hnd j hj hb).2.1⟩) (congrFun (hnd q hq hbq).2.2 d) (fun j y hj hb hy => ⟨y, by rw [← (hnd j hj hb).2.2]; exact hy, rfl⟩) hWb
  · have hg2 : g ∈ W.fly ++ L := hg
    rw [hWf] at hg2
    rcases List.mem_append.1 hg2 with y | y
    · exact .inl (hin g y)
    · obtain ⟨k1, k2, -⟩ := hans g y
      rcases hne with z | z
      · exact .inr (.inl (by rw [k2]; omega))
      · exact .inr (.inr (.inl (by rw [k1, Int.toNat_natCast]; exact z)))
  · show (W.fly ++ L).Pairwise _
    rw [hWf]
    exact pair_app (pair_tail hfl h.e1).2 fun g hg j hE => (hans g hg).2.2 hE.2.2.2.1
  · show g ∈ W.fly ++ L
    rw [hWf]
    refine List.mem_append.2 (.inl (hout g hg fun c => ?_))
    subst c
    have hij : i = j := by omega
    subst hij
    rcases hne with y | y
    · have := hw.1; omega
    · rw [hb] at y; cases y
theorem EnI.deliver (h : EnI zs set d q A V) (hX : XI zs V m) (hm : m < 1000000) (hq : q < zs.length) (hbq : bit set q = true) (hA : 0 < A) (hfl : V.fly = f :: rest) : EnI zs set d q A (deliverX zs V 0 f) := by
  have hF := hX.fr f (by rw [hfl]; exact List.mem_cons_self)
  have t0 := hF.t0; have t1 := hF.t1
  have hd6 : 0 ≤ f.d ∧ f.d ≤ 5 := hF.ok.2.2.1
  have ht : f.t = (f.t.toNat : Int) := by omega
  have hd : f.d = (f.d.toNat : Int) := by omega
  unfold deliverX
  split
  · rename_i hr
    unfold arriveX arriveO
    split
    · rename_i ha
      have hk : f.k = 2 ∨ f.k = 4 ∨ f.k = 6 := of_decide_eq_true ha
      cases hx : ((takeX V 0).nd f.t.toNat).ld f.d.toNat with
      | none =>
        rw [(leadX_none hx).1, (leadX_none hx).2, sendX_nil]
        refine h.lost hq hbq hfl fun hw hz i hi hb hti _ => ?_
        obtain ⟨w1, w2⟩ := hw
        rcases hz with z | z
        · rcases w2 with w | w | w
          · refine z ?_
            have e1 : f.t.toNat = q := by omega
            have e2 : f.d.toNat = d := by omega
            rw [e1, e2] at hx
            exact hx
          · omega
          · omega
        · omega
      | some x =>
        rw [(leadX_some hx).1, (leadX_some hx).2]
        by_cases c : f.d.toNat = d ∧ bit set f.t.toNat = true ∧ f.t.toNat = q
        · obtain ⟨c1, c2, c3⟩ := c
          have hbf := h.from hF hr c2
          rw [c1, c3] at hx ⊢
          exact h.leadQ hX hq hbq hA hfl (by omega) (by omega) hbf hk hx
        · refine h.leadO hq hbq hfl (by omega) hk ht hd hx ?_
          by_cases c1 : f.d.toNat = d
          · cases c2 : bit set f.t.toNat with
            | false => exact .inr (.inl rfl)
            | true => exact .inr (.inr fun c3 => c ⟨c1, c2, c3⟩)
          · exact .inl c1
    · rename_i ha
      have ha2 : isAns f.k = false := by simpa using ha
      by_cases c : f.d.toNat = d ∧ bit set f.t.toNat = true
      · exact h.site hX hm hbq hfl (by omega) ht (by omega) c.2 (h.from hF hr c.2) ha2
      · refine h.siteO hX hm hq hbq hfl (by omega) ht hd ?_
        by_cases c1 : f.d.toNat = d
        · cases c2 : bit set f.t.toNat with
          | false => exact .inr rfl
          | true => exact absurd ⟨c1, c2⟩ c
        · exact .inl c1
  · rename_i hr
    refine h.lost hq hbq hfl fun _ _ i hi hb hti hbf => hr (h.reach hF hbf ?_)
    rw [hti, Int.toNat_natCast]; exact hb
end
section
variable {zs : List Int} {set : Int} {d q m : Nat} {A : Int} {V V' : PX} {f : F9} {rest : List F9}
theorem hears_deal {s e : Nat} {f : F9} : ∀ (L : List F9) (P : PL) (a : Int), f ∈ (hearsL zs s e a P L).2 → f.f = (s : Int) ∧ f.d = (e : Int) ∧ f.a = a ∧ (f.k = 5 ∨ f.k = 7)
  | [], _, _, h => by cases h
  | g :: r, P, a, h => by
    unfold hearsL at h
    rcases List.mem_append.1 h with x | x
    · cases hp : (phear zs s e a P g).2 with
      | none => rw [hp] at x; cases x
      | some z =>
        rw [hp] at x
        have h1 := (phear_out hp).1
        have h2 := toL_mem x
        exact ⟨h2.2.2.2.2.1, h2.2.2.2.2.2, h2.2.1, by have := h2.1; omega⟩
    · exact hears_deal r _ a x
theorem try_out {s e : Nat} {a : Int} (hX : XI zs V m) (hm : m < 1000000) (hs : s < zs.length) (he : e < 6) (hl : (V.nd s).l = -1) (ha : 0 ≤ a ∧ a ≤ 1048576) :
    (tryX zs V s e a).fly = V.fly ++ (electL s e a zs.length ++ (hearsL zs s e a P0 (ansN s (V.nd s) (electF s e a))).2) ∧ (tryX zs V s e a).br = V.br ∧ (∀ i, i ≠ s → (tryX zs V s e a).nd i = V.nd i) ∧ ((tryX zs V s e a).nd s).l = -1 ∧
    (∀ c, c ≠ e → stN ((tryX zs V s e a).nd s) c = stN (V.nd s) c ∧ ((tryX zs V s e a).nd s).ld c = (V.nd s).ld c) ∧
    stN ((tryX zs V s e a).nd s) e = (gHN (V.nd s) (electF s e a)).st ∧ ((tryX zs V s e a).nd s).ld e = some (a, (hearsL zs s e a P0 (ansN s (V.nd s) (electF s e a))).1) ∧ (oHN (V.nd s) (electF s e a)).c = 0 := by
  have n7 := (errW_zero hX.he).2.1
  have hF := electF_fi (a := a) hs n7 he ha
  have hu : (V.nd s).l ≠ -2 := by rw [hl]; decide
  have hh := hearN_hf (hX.nd s hs) hu hF (by omega : m < 4000000000)
  obtain ⟨hc, hlh, hldh⟩ := hear_free (hX.nd s hs) hl hF hm
  have hup : upN (hearN (V.nd s) (electF s e a)) = true := by unfold upN; rw [hlh]; decide
  have hst : ∀ c, c ≠ e → stN (hearN (V.nd s) (electF s e a)) c = stN (V.nd s) c := fun c hne => by
    have := hearX_ne (V := V) (i := s) hh (d := c) (by show c ≠ ((e : Int).toNat); rw [Int.toNat_natCast]; exact hne) s
    have h2 : (hearX V s (electF s e a)).nd s = hearN (V.nd s) (electF s e a) := nd_at V s _
    rw [h2] at this
    exact this
  have hst2 : stN (hearN (V.nd s) (electF s e a)) e = (gHN (V.nd s) (electF s e a)).st := by
    have := congrFun (hearX_st (V := V) (i := s) hh hc) s
    rw [upd_at] at this
    have h2 : (hearX V s (electF s e a)).nd s = hearN (V.nd s) (electF s e a) := nd_at V s _
    have h3 : (electF s e a).d.toNat = e := Int.toNat_natCast e
    unfold stD at this
    rw [h2, h3] at this
    exact this
  unfold tryX
  rw [if_neg (by omega), if_neg (by rw [hup]; decide)]
  generalize (hearsL zs s e a P0 (ansN s (V.nd s) (electF s e a))) = R at *
  have hnd : (sendX (setNd (hearX V s (electF s e a)) s (setLd (hearN (V.nd s) (electF s e a)) e (a, R.1))) (electL s e a zs.length ++ R.2)).nd s = setLd (hearN (V.nd s) (electF s e a)) e (a, R.1) := nd_at _ s _
  refine ⟨rfl, rfl, fun i hi => ?_, ?_, fun c hne => ?_, ?_, ?_, hc⟩
  · show (setNd (hearX V s (electF s e a)) s _).nd i = _
    rw [nd_ne _ _ _ hi]
    exact nd_ne V s _ hi
  · rw [hnd]; exact hlh
  · rw [hnd]
    refine ⟨hst c hne, ?_⟩
    rw [ld_ne _ _ _ hne, hldh]
  · rw [hnd]; exact hst2
  · rw [hnd]; exact ld_at _ _ _
structure TkI (zs : List Int) (set : Int) (d q : Nat) (A : Int) (V : PX) (t : Nat) : Prop where
  up : ∀ i, i < zs.length → bit set i = true → (V.nd i).l = -1
  br : ∀ a b, a < zs.length → b < zs.length → a ≠ b → (brX V a b = true ↔ ¬ (bit set a = true ∧ bit set b = true))
  old : ∀ i, i < zs.length → bit set i = true → t ≤ i → (V.nd i).ld d = none ∧ ((stN (V.nd i) d).pr : Int) < A ∧ finB (stN (V.nd i) d).ph = false ∧
    (stN (V.nd i) d ≠ St.zero → attemptX zs.length i (stN (V.nd i) d).pr ≤ A ∧ (attemptX zs.length i (stN (V.nd i) d).pr = A → i = q)) ∧ (i = q → stN (V.nd i) d ≠ St.zero ∧ attemptX zs.length i (stN (V.nd i) d).pr = A)
  new : ∀ i, i < zs.length → bit set i = true → i < t → ((stN (V.nd i) d).pr : Int) ≤ A ∧ (((stN (V.nd i) d).pr : Int) = A → i = q)
  ld : ∀ i x, i < zs.length → bit set i = true → (V.nd i).ld d = some x → x.1 ≤ A ∧ (x.1 = A → i = q)
  fr : ∀ f, f ∈ V.fly → f.d = (d : Int) → bit set f.f.toNat = true → (f.k = 3 ∨ f.k = 5) → f.a ≤ A ∧ (f.a = A → f.f = (q : Int) ∧ q < t)
  an : ∀ f, f ∈ V.fly → f.d = (d : Int) → f.t = (q : Int) → (f.k = 4 ∨ f.k = 6) → f.a < A
  e1 : V.fly.Pairwise fun f g => ∀ i, ¬ (isEl d q A i f ∧ isEl d q A i g)
  main : q < t → AskE zs set d q A V ∨ PreE zs set d q A V ∨ DecE d q V
theorem TkI.end (h : TkI zs set d q A V zs.length) (hq : q < zs.length) : EnI zs set d q A V :=
  ⟨h.up, h.br, fun i hi hb => (h.new i hi hb hi).1, fun f hf hd hb hk => ⟨(h.fr f hf hd hb hk).1, fun e => ((h.fr f hf hd hb hk).2 e).1⟩, h.e1,
    fun f hf hd ht _ hk ha _ => absurd (h.an f hf hd ht (.inr hk)) (by omega), h.ld, .inr (h.main hq)⟩
theorem TkI.skip {s : Nat} (h : TkI zs set d q A V s) (hbq : bit set q = true) (hb : bit set s = false) : TkI zs set d q A V (s + 1) := by
  have hne : ∀ i, bit set i = true → i ≠ s := fun i hi e => by rw [e, hb] at hi; cases hi
  refine ⟨h.up, h.br, fun i hi hbi ht => h.old i hi hbi (by omega), fun i hi hbi ht => h.new i hi hbi (by have := hne i hbi; omega), h.ld, fun f hf hd hbf hk => ⟨(h.fr f hf hd hbf hk).1, fun e => ⟨((h.fr f hf hd hbf hk).2 e).1, by have := ((h.fr f hf hd hbf hk).2 e).2; omega⟩⟩, h.an, h.e1, fun hq => h.main (by have := hne q hbq; omega)⟩
theorem TkI.other {t : Nat} {L : List F9} (h : TkI zs set d q A V t) (hfl : V'.fly = V.fly ++ L) (hL : ∀ g, g ∈ L → g.d ≠ (d : Int)) (hbr : V'.br = V.br)
    (hnd : ∀ i, i < zs.length → bit set i = true → (V'.nd i).l = -1 ∧ stN (V'.nd i) d = stN (V.nd i) d ∧ (V'.nd i).ld d = (V.nd i).ld d) (hq : q < zs.length) (hbq : bit set q = true) : TkI zs set d q A V' t := by
  have hold : ∀ g, g ∈ V'.fly → g.d = (d : Int) → g ∈ V.fly := fun g hg hd => by
    rw [hfl] at hg
    rcases List.mem_append.1 hg with x | x
    · exact x
    · exact absurd hd (hL g x)
  have hin : ∀ g, g ∈ V.fly → g ∈ V'.fly := fun g hg => by rw [hfl]; exact List.mem_append.2 (.inl hg)
  refine ⟨fun i hi hb => (hnd i hi hb).1, fun a b ha hb hab => ?_, fun i hi hb ht => ?_, fun i hi hb ht => ?_, fun i x hi hb hx => ?_, fun f hf hd => h.fr f (hold f hf hd) hd, fun f hf hd => h.an f (hold f hf hd) hd, ?_, fun hqt => ?_⟩
  · have := h.br a b ha hb hab
    unfold brX at this ⊢
    rw [hbr]; exact this
  · rw [(hnd i hi hb).2.1, (hnd i hi hb).2.2]; exact h.old i hi hb ht
  · rw [(hnd i hi hb).2.1]; exact h.new i hi hb ht
  · rw [(hnd i hi hb).2.2] at hx; exact h.ld i x hi hb hx
  · rw [hfl]
    exact pair_app h.e1 fun g hg i hE => hL g hg hE.2.2.1
  · rcases h.main hqt with ⟨⟨P, x1, x2, x3, x4⟩, x5, x6, x7⟩ | ⟨P, x1, x2, x3, x4, x5⟩ | ⟨g, x1, x2⟩
    · refine .inl ⟨⟨P, by rw [(hnd q hq hbq).2.2]; exact x1, x2, x3, fun i hi hb => ?_⟩, fun f i hf hi hb hE => ?_, fun f hf hd => x6 f (hold f hf hd) hd, fun f hf hd => x7 f (hold f hf hd) hd⟩
      · rcases x4 i hi hb with y | ⟨g, y1, y2⟩ | ⟨g, y1, y2⟩
        · exact .inl y
        · exact .inr (.inl ⟨g, hin g y1, y2⟩)
        · exact .inr (.inr ⟨g, hin g y1, y2⟩)
      · rw [(hnd i hi hb).2.1]; exact x5 f i (hold f hf hE.2.2.1) hi hb hE
    · refine .inr (.inl ⟨P, by rw [(hnd q hq hbq).2.2]; exact x1, x2, x3, x4, fun i hi hb => ?_⟩)
      rcases x5 i hi hb with y | ⟨g, y1, y2⟩ | ⟨g, y1, y2⟩
      · exact .inl y
      · exact .inr (.inl ⟨g, hin g y1, y2⟩)
      · exact .inr (.inr ⟨g, hin g y1, y2⟩)
    · exact .inr (.inr ⟨g, hin g x1, x2⟩)
theorem TkI.else {s e t : Nat} (h : TkI zs set d q A V t) (hX : XI zs V m) (hm : m < 1000000) (hs : s < zs.length) (hb : bit set s = true) (he : e < 6) (hne : e ≠ d) (hq : q < zs.length) (hbq : bit set q = true) : TkI zs set d q A (tickD zs V s e) t := by
  have hbd := aboveN_bd (hX.nd s hs) he
  have n7 := (errW_zero hX.he).2.1
  have hat := attemptX_bd zs.length s (aboveN (V.nd s) e) (by omega)
  unfold tickD
  split
  · exact h
  · split
    · refine h.other rfl (fun g hg => ?_) rfl (fun i hi hb => ⟨h.up i hi hb, rfl, rfl⟩) hq hbq
      rw [(toL_mem hg).2.2.2.2.2]; omega
    · generalize attemptX zs.length s (aboveN (V.nd s) e) = a at *
      by_cases hf : 1048576 < a
      · unfold tryX
        rw [if_pos hf]
        exact h
      · obtain ⟨k1, k2, k3, k4, k5, -⟩ := try_out (a := a) hX hm hs he (h.up s hs hb) (by omega)
        refine h.other k1 (fun g hg => ?_) k2 (fun i hi hbi => ?_) hq hbq
        · rcases List.mem_append.1 hg with y | y
          · unfold electL at y
            rw [(toL_mem (List.mem_of_mem_eraseIdx y)).2.2.2.2.2]; omega
          · rw [(hears_deal _ _ _ y).2.1]; omega
        · by_cases c : i = s
          · subst c
            exact ⟨k4, k5 d (fun z => hne z.symm)⟩
          · rw [k3 i c]
            exact ⟨h.up i hi hbi, rfl, rfl⟩
end
theorem toL_at (id : Nat) (deal kind att ph : Int) (i : Nat) : ∀ n, i < n → (toL id deal kind att ph n)[i]? = some ⟨id, i, deal, kind, att, false, ph, 0, 0⟩
  | 0, h => absurd h (Nat.not_lt_zero _)
  | n + 1, h => by
    rw [toL]
    rcases Nat.lt_succ_iff_lt_or_eq.1 h with x | rfl
    · rw [List.getElem?_append_left (by rw [toL_length]; exact x)]
      exact toL_at id deal kind att ph i n x
    · rw [List.getElem?_append_right (by rw [toL_length]; exact Nat.le_refl _), toL_length, Nat.sub_self]
      rfl
theorem toL_to {id : Nat} {deal kind att ph : Int} {f : F9} : ∀ {n : Nat}, f ∈ toL id deal kind att ph n → f.t < n
  | 0, h => by cases h
  | n + 1, h => by
    rw [toL] at h
    rcases List.mem_append.1 h with x | x
    · have := toL_to x; omega
    · rw [List.mem_singleton] at x; rw [x]; show (n : Int) < _; omega
theorem toL_apart (id : Nat) (deal kind att ph : Int) : ∀ n, (toL id deal kind att ph n).Pairwise fun f g => f.t ≠ g.t
  | 0 => List.Pairwise.nil
  | n + 1 => by
    rw [toL, List.pairwise_append]
    refine ⟨toL_apart id deal kind att ph n, List.pairwise_singleton _ _, fun a ha b hb => ?_⟩
    rw [List.mem_singleton] at hb
    have := toL_to ha
    rw [hb]
    show a.t ≠ (n : Int)
    omega
theorem electL_has {s i e n : Nat} {a : Int} (hi : i < n) (hne : i ≠ s) : (⟨s, i, e, 3, a, false, 0, 0, 0⟩ : F9) ∈ electL s e a n :=
  List.mem_eraseIdx_iff_getElem?.2 ⟨i, hne, toL_at _ _ _ _ _ i n hi⟩
theorem electL_not {s e n : Nat} {a : Int} {f : F9} (hf : f ∈ electL s e a n) : f.t ≠ (s : Int) := by
  obtain ⟨i, hne, hi⟩ := List.mem_eraseIdx_iff_getElem?.1 hf
  have hlt : i < n := by
    have := List.getElem?_eq_some_iff.1 hi
    obtain ⟨h, -⟩ := this
    rw [toL_length] at h
    exact h
  rw [toL_at _ _ _ _ _ i n hlt] at hi
  cases hi
  show (i : Int) ≠ s
  omega
theorem elect_yes {N : PN} {s e : Nat} {a : Int} (hc : (oHN N (electF s e a)).c = 0) (ha : ((stN N e).pr : Int) < a) :
    (gHN N (electF s e a)).st = ⟨(stN N e).ph, a.toNat, (stN N e).at_⟩ ∧ ansN s N (electF s e a) = [⟨s, s, e, 4, a, true, (stN N e).ph, a.toNat, (stN N e).at_⟩] := by
  have hg : gHN N (electF s e a) = ⟨⟨(stN N e).ph, a.toNat, (stN N e).at_⟩, 4, true⟩ := by
    unfold gHN hearL
    rw [if_neg (by show ¬ ((3 : Int).toNat = 1); decide), if_pos (by show (3 : Int).toNat = 3; decide)]
    have h3 : (electF s e a).d.toNat = e := Int.toNat_natCast e
    rw [h3, if_pos (by show (stN N e).pr < a.toNat; omega)]
    rfl
  refine ⟨by rw [hg], ?_⟩
  unfold ansN
  rw [hg, if_pos ⟨hc, (by decide : (4 : Nat) ≠ 0)⟩]
  rfl
theorem lead_first {zs : List Int} {s e : Nat} {a p r b : Int} (he : errW zs = 0) (hs : s < zs.length) (ha : 0 < a) :
    ((phear zs s e a P0 ⟨s, s, e, 4, a, true, p, r, b⟩).2 = none ∧ (phear zs s e a P0 ⟨s, s, e, 4, a, true, p, r, b⟩).1.stt = 0 ∧ enoughB zs (phear zs s e a P0 ⟨s, s, e, 4, a, true, p, r, b⟩).1.ans = false ∧ bit (phear zs s e a P0 ⟨s, s, e, 4, a, true, p, r, b⟩).1.ans s = true) ∨
    (∃ v, (phear zs s e a P0 ⟨s, s, e, 4, a, true, p, r, b⟩).2 = some (5, v) ∧ (phear zs s e a P0 ⟨s, s, e, 4, a, true, p, r, b⟩).1.stt = 1 ∧ (phear zs s e a P0 ⟨s, s, e, 4, a, true, p, r, b⟩).1.prep = v ∧ (phear zs s e a P0 ⟨s, s, e, 4, a, true, p, r, b⟩).1.ans = 0 ∧ (v = 4 ∨ v = 5)) ∨
    ∃ v, (phear zs s e a P0 ⟨s, s, e, 4, a, true, p, r, b⟩).2 = some (7, v) ∧ (v = 2 ∨ v = 3) := by
  have hn := (errW_zero he).2.1
  have hp : phear zs s e a P0 ⟨s, s, e, 4, a, true, p, r, b⟩ = tellP zs (seeP (noteP P0 ⟨s, s, e, 4, a, true, p, r, b⟩) r) s ⟨p, r, b⟩ := by
    unfold phear
    rw [if_pos]
    · unfold takenP
      rw [if_neg (by show ¬ ((4 : Int) = 2); decide), if_neg (by show ¬ (true = false); decide), if_pos rfl]
      show tellP zs _ ((s : Int).toNat) _ = _
      rw [Int.toNat_natCast]
    · unfold takesB waitsB
      show (decide ((s : Int) = s ∧ (e : Int) = e ∧ a = a) && _ && decide (0 ≤ (s : Int) ∧ (s : Int) < zs.length) && !bit 0 ((s : Int).toNat)) = true
      rw [bit_zero, decide_eq_true (show (s : Int) = s ∧ (e : Int) = e ∧ a = a from ⟨rfl, rfl, rfl⟩), decide_eq_true (show 0 ≤ (s : Int) ∧ (s : Int) < zs.length by omega), decide_eq_true ha]
      rfl
  rw [hp]
  obtain ⟨q1, q2, -, -⟩ := seeP_of (noteP P0 ⟨s, s, e, 4, a, true, p, r, b⟩) r
  generalize seeP (noteP P0 ⟨s, s, e, 4, a, true, p, r, b⟩) r = Q at *
  have hQa : Q.ans = ansS 0 s := by rw [q2]; show ansS 0 ((s : Int).toNat) = _; rw [Int.toNat_natCast]
  have hQs : Q.stt = 0 := q1
  unfold tellP
  cases hen : enoughB zs Q.ans with
  | false =>
    rw [if_pos rfl]
    refine .inl ⟨rfl, hQs, hen, ?_⟩
    show bit Q.ans s = true
    rw [hQa, bit_set hn (Int.le_refl _) (Int.pow_pos (by decide)) hs, decide_eq_true rfl, Bool.or_true]
  | true =>
    rw [if_neg (by decide)]
    generalize hC : chooseL (toldS Q.told s ⟨p, r, b⟩) = c
    obtain ⟨cp, cf⟩ := c
    cases cf with
    | true =>
      rw [if_pos rfl]
      exact .inr (.inr ⟨cp, rfl, (choose_fin hC).1⟩)
    | false =>
      rw [if_neg (by simp)]
      exact .inr (.inl ⟨cp, rfl, rfl, rfl, rfl, (choose_pre hC).1⟩)
section
variable {zs : List Int} {set : Int} {d q m : Nat} {A : Int} {V V' : PX} {f : F9} {rest : List F9}
theorem TkI.own {s : Nat} (h : TkI zs set d q A V s) (hX : XI zs V m) (hm : m < 1000000) (hs : s < zs.length) (hb : bit set s = true) (hd : d < 6) (hq : q < zs.length) (hbq : bit set q = true) (hA : 0 < A ∧ A ≤ 1048576) : TkI zs set d q A (tickD zs V s d) (s + 1) := by
  have n7 := (errW_zero hX.he).2.1
  obtain ⟨o1, o2, o3, o4, o5⟩ := h.old s hs hb (Nat.le_refl _)
  by_cases hz : stN (V.nd s) d = St.zero
  · have ht : tickD zs V s d = V := by unfold tickD; rw [if_pos hz]
    have hne : s ≠ q := fun e => (o5 e).1 hz
    rw [ht]
    refine ⟨h.up, h.br, fun i hi hbi ht => h.old i hi hbi (by omega), fun i hi hbi ht => ?_, h.ld, fun f hf hfd hbf hk => ⟨(h.fr f hf hfd hbf hk).1, fun e => ⟨((h.fr f hf hfd hbf hk).2 e).1, by have := ((h.fr f hf hfd hbf hk).2 e).2; omega⟩⟩, h.an, h.e1, fun hqt => h.main (by omega)⟩
    by_cases c : i = s
    · subst c; exact ⟨by omega, fun e => by omega⟩
    · exact h.new i hi hbi (by omega)
  · have hab : aboveN (V.nd s) d = ((stN (V.nd s) d).pr : Int) := by unfold aboveN; rw [o1]
    have ht : tickD zs V s d = tryX zs V s d (attemptX zs.length s ((stN (V.nd s) d).pr : Int)) := by
      unfold tickD
      rw [if_neg hz, if_neg (by rw [o3]; decide), hab]
    have hat := attemptX_bd zs.length s ((stN (V.nd s) d).pr : Int) (by omega)
    obtain ⟨o41, o42⟩ := o4 hz
    have o52 : s = q → attemptX zs.length s ((stN (V.nd s) d).pr : Int) = A := fun e => (o5 e).2
    rw [ht]
    clear ht o4 o5 hab
    generalize attemptX zs.length s ((stN (V.nd s) d).pr : Int) = a at *
    obtain ⟨k1, k2, k3, k4, -, k6, k7, k8⟩ := try_out (a := a) hX hm hs hd (h.up s hs hb) (by omega)
    obtain ⟨y1, y2⟩ := elect_yes (N := V.nd s) (s := s) (e := d) (a := a) k8 (by omega)
    rw [y2] at k1 k7
    rw [y1] at k6
    have hlf := lead_first (zs := zs) (s := s) (e := d) (a := a) (p := (stN (V.nd s) d).ph) (r := a.toNat) (b := (stN (V.nd s) d).at_) hX.he hs (by omega)
    have hk : ∀ g, g ∈ electL s d a zs.length ++ (hearsL zs s d a P0 [⟨s, s, d, 4, a, true, (stN (V.nd s) d).ph, a.toNat, (stN (V.nd s) d).at_⟩]).2 → g.f = (s : Int) ∧ g.d = (d : Int) ∧ g.a = a ∧ (g.k = 3 ∨ g.k = 5 ∨ g.k = 7) := fun g hg => by
      rcases List.mem_append.1 hg with y | y
      · unfold electL at y
        have hm2 := toL_mem (List.mem_of_mem_eraseIdx y)
        exact ⟨hm2.2.2.2.2.1, hm2.2.2.2.2.2, hm2.2.1, .inl hm2.1⟩
      · have := hears_deal _ _ _ y
        exact ⟨this.1, this.2.1, this.2.2.1, by omega⟩
    have hh1 : (hearsL zs s d a P0 [⟨s, s, d, 4, a, true, (stN (V.nd s) d).ph, a.toNat, (stN (V.nd s) d).at_⟩]) = ((phear zs s d a P0 ⟨s, s, d, 4, a, true, (stN (V.nd s) d).ph, a.toNat, (stN (V.nd s) d).at_⟩).1, outL s d a zs.length (phear zs s d a P0 ⟨s, s, d, 4, a, true, (stN (V.nd s) d).ph, a.toNat, (stN (V.nd s) d).at_⟩).2 ++ []) := rfl
    have hp5 : ∀ g, g ∈ (hearsL zs s d a P0 [⟨s, s, d, 4, a, true, (stN (V.nd s) d).ph, a.toNat, (stN (V.nd s) d).at_⟩]).2 → g ∈ outL s d a zs.length (phear zs s d a P0 ⟨s, s, d, 4, a, true, (stN (V.nd s) d).ph, a.toNat, (stN (V.nd s) d).at_⟩).2 := fun g hg => by
      rw [hh1, List.append_nil] at hg; exact hg
    have hp6 : ∀ g, g ∈ outL s d a zs.length (phear zs s d a P0 ⟨s, s, d, 4, a, true, (stN (V.nd s) d).ph, a.toNat, (stN (V.nd s) d).at_⟩).2 → g ∈ (hearsL zs s d a P0 [⟨s, s, d, 4, a, true, (stN (V.nd s) d).ph, a.toNat, (stN (V.nd s) d).at_⟩]).2 := fun g hg => by
      rw [hh1, List.append_nil]; exact hg
    have hp7 : (hearsL zs s d a P0 [⟨s, s, d, 4, a, true, (stN (V.nd s) d).ph, a.toNat, (stN (V.nd s) d).at_⟩]).1 = (phear zs s d a P0 ⟨s, s, d, 4, a, true, (stN (V.nd s) d).ph, a.toNat, (stN (V.nd s) d).at_⟩).1 := rfl
    rw [hp7] at k7
    clear hp7 hh1 y1 y2
    have hnk : ∀ g, g ∈ (hearsL zs s d a P0 [⟨s, s, d, 4, a, true, (stN (V.nd s) d).ph, a.toNat, (stN (V.nd s) d).at_⟩]).2 → g.k = 5 ∨ g.k = 7 := fun g hg => (hears_deal _ _ _ hg).2.2.2
    generalize (hearsL zs s d a P0 [⟨s, s, d, 4, a, true, (stN (V.nd s) d).ph, a.toNat, (stN (V.nd s) d).at_⟩]).2 = O at *
    generalize (phear zs s d a P0 ⟨s, s, d, 4, a, true, (stN (V.nd s) d).ph, a.toNat, (stN (V.nd s) d).at_⟩) = R at *
    generalize tryX zs V s d a = W at *
    have hmf : ∀ g, g ∈ W.fly → g ∈ V.fly ∨ g ∈ electL s d a zs.length ++ O := fun g hg => by rw [k1] at hg; exact List.mem_append.1 hg
    have hin : ∀ g, g ∈ V.fly → g ∈ W.fly := fun g hg => by rw [k1]; exact List.mem_append.2 (.inl hg)
    have hinE : ∀ g, g ∈ electL s d a zs.length → g ∈ W.fly := fun g hg => by rw [k1]; exact List.mem_append.2 (.inr (List.mem_append.2 (.inl hg)))
    have hinO : ∀ g, g ∈ O → g ∈ W.fly := fun g hg => by rw [k1]; exact List.mem_append.2 (.inr (List.mem_append.2 (.inr hg)))
    have hsE : ∀ i g, isEl d q A i g → g ∈ electL s d a zs.length ++ O → a = A ∧ s = q ∧ g ∈ electL s d a zs.length := fun i g hE hg => by
      obtain ⟨g1, g2, g3, g4⟩ := hk g hg
      have e1 := hE.1
      have e2 := hE.2.2.2.2
      refine ⟨by omega, by omega, ?_⟩
      rcases List.mem_append.1 hg with y | y
      · exact y
      · have := hnk g y
        have := hE.2.2.2.1
        omega
    have hst : ∀ i, i ≠ s → stN (W.nd i) d = stN (V.nd i) d := fun i hi => by rw [k3 i hi]
    have hspr : ((stN (W.nd s) d).pr : Int) = a := by
      rw [k6]
      show ((a.toNat : Nat) : Int) = a
      omega
    refine ⟨fun i hi hbi => ?_, fun x y hx hy hxy => ?_, fun i hi hbi hti => ?_, fun i hi hbi hti => ?_, fun i x hi hbi hx => ?_, fun g hg hgd hgb hgk => ?_, fun g hg hgd hgt hgk => ?_, ?_, fun hqt => ?_⟩
    · by_cases c : i = s
      · rw [c]; exact k4
      · rw [k3 i c]; exact h.up i hi hbi
    · have := h.br x y hx hy hxy
      unfold brX at this ⊢
      rw [k2]; exact this
    · rw [k3 i (by omega)]
      exact h.old i hi hbi (by omega)
    · by_cases c : i = s
      · rw [c, hspr]; exact ⟨o41, o42⟩
      · rw [hst i c]; exact h.new i hi hbi (by omega)
    · by_cases c : i = s
      · rw [c] at hx ⊢
        rw [k7] at hx
        cases hx
        exact ⟨o41, o42⟩
      · rw [k3 i c] at hx
        exact h.ld i x hi hbi hx
    · rcases hmf g hg with y | y
      · have := h.fr g y hgd hgb hgk
        exact ⟨this.1, fun e => ⟨(this.2 e).1, by have := (this.2 e).2; omega⟩⟩
      · obtain ⟨g1, g2, g3, g4⟩ := hk g y
        exact ⟨by omega, fun e => by have := o42 (by omega); omega⟩
    · rcases hmf g hg with y | y
      · exact h.an g y hgd hgt hgk
      · have := (hk g y).2.2.2
        omega
    · rw [k1, List.pairwise_append]
      refine ⟨h.e1, ?_, fun x hx y hy i hi => ?_⟩
      · rw [List.pairwise_append]
        refine ⟨?_, ?_, fun x hx y hy i hi => ?_⟩
        · refine ((toL_apart s d 3 a 0 zs.length).sublist (List.eraseIdx_sublist _ _)).imp fun hxy i hi => ?_
          have e1 := hi.1.2.1
          have e2 := hi.2.2.1
          omega
        · refine List.Pairwise.imp_of_mem (R := fun _ _ => True) (fun {x y} _ hy _ i hi => ?_) (List.pairwise_of_forall (fun _ _ => trivial))
          have := hnk y hy
          have := hi.2.2.2.2.1
          omega
        · have := hnk y hy
          have := hi.2.2.2.2.1
          omega
      · obtain ⟨e1, e2, -⟩ := hsE i y hi.2 hy
        have := (h.fr x hx hi.1.2.2.1 (by rw [hi.1.1, Int.toNat_natCast]; exact hbq) (.inl hi.1.2.2.2.1)).2 hi.1.2.2.2.2
        omega
    · by_cases c : q = s
      · subst c
        have haA := o52 rfl
        subst haA
        have hold5 : ∀ g, g ∈ V.fly → g.d = (d : Int) → bit set g.f.toNat = true → (g.k = 3 ∨ g.k = 5) → g.a ≠ a := fun g hg hgd hgb hgk e => by
          have := (h.fr g hg hgd hgb hgk).2 e
          omega
        rcases hlf with ⟨r1, r2, r3, r4⟩ | ⟨v, r1, r2, r3, r4, r5⟩ | ⟨v, r1, r2⟩
        · left
          rw [r1] at hp5
          refine ⟨⟨R.1, k7, r2, r3, fun i hi hbi => ?_⟩, fun g i hg hi hbi hE => ?_, fun g hg hgd hgb hgk => ?_, fun g hg hgd hgt hgb hgk hga => ?_⟩
          · by_cases ci : i = q
            · subst ci; exact .inl r4
            · exact .inr (.inl ⟨_, hinE _ (electL_has hi ci), rfl, rfl, rfl, rfl, rfl⟩)
          · rcases hmf g hg with y | y
            · exact absurd hE.2.2.2.2 (hold5 g y hE.2.2.1 (by rw [hE.1, Int.toNat_natCast]; exact hbq) (.inl hE.2.2.2.1))
            · obtain ⟨-, -, y3⟩ := hsE i g hE y
              have hiq : i ≠ q := fun e => electL_not y3 (by rw [hE.2.1, e])
              rw [hst i hiq]
              by_cases c2 : i < q
              · have := h.new i hi hbi c2
                rcases Int.lt_or_eq_of_le this.1 with z | z
                · exact z
                · exact absurd (this.2 z) hiq
              · exact (h.old i hi hbi (by omega)).2.1
          · rcases hmf g hg with y | y
            · exact hold5 g y hgd hgb (.inr hgk)
            · exfalso
              rcases List.mem_append.1 y with z | z
              · unfold electL at z
                have := (toL_mem (List.mem_of_mem_eraseIdx z)).1
                omega
              · cases hp5 g z
          · rcases hmf g hg with y | y
            · have := h.an g y hgd hgt (.inl hgk)
              omega
            · have := (hk g y).2.2.2
              omega
        · right; left
          rw [r1] at hp6
          refine ⟨R.1, k7, r2, by rw [r3]; exact r5, by rw [r4]; exact enough_none hX.he, fun i hi _ => .inr (.inl ⟨_, hinO _ (hp6 _ (toL_has hi)), rfl, rfl, rfl, rfl, rfl, r3.symm⟩)⟩
        · right; right
          rw [r1] at hp6
          exact ⟨_, hinO _ (hp6 _ (toL_has hq)), rfl, rfl, rfl, rfl, r2⟩
      · have hlt : q < s := by omega
        have haA : a < A := by
          rcases Int.lt_or_eq_of_le o41 with z | z
          · exact z
          · exact absurd (o42 z).symm c
        rcases h.main hlt with ⟨⟨P, x1, x2, x3, x4⟩, x5, x6, x7⟩ | ⟨P, x1, x2, x3, x4, x5⟩ | ⟨g, x1, x2⟩
        · refine .inl ⟨⟨P, by rw [k3 q c]; exact x1, x2, x3, fun i hi hbi => ?_⟩, fun g i hg hi hbi hE => ?_, fun g hg hgd hgb hgk => ?_, fun g hg hgd hgt hgb hgk => ?_⟩
          · rcases x4 i hi hbi with y | ⟨g, y1, y2⟩ | ⟨g, y1, y2⟩
            · exact .inl y
            · exact .inr (.inl ⟨g, hin g y1, y2⟩)
            · exact .inr (.inr ⟨g, hin g y1, y2⟩)
          · rcases hmf g hg with y | y
            · by_cases ci : i = s
              · rw [ci, hspr]; exact haA
              · rw [hst i ci]; exact x5 g i y hi hbi hE
            · have := (hsE i g hE y).1
              omega
          · rcases hmf g hg with y | y
            · exact x6 g y hgd hgb hgk
            · have := (hk g y).2.2.1
              omega
          · rcases hmf g hg with y | y
            · exact x7 g y hgd hgt hgb hgk
            · have := (hk g y).2.2.2
              omega
        · refine .inr (.inl ⟨P, by rw [k3 q c]; exact x1, x2, x3, x4, fun i hi hbi => ?_⟩)
          rcases x5 i hi hbi with y | ⟨g, y1, y2⟩ | ⟨g, y1, y2⟩
          · exact .inl y
          · exact .inr (.inl ⟨g, hin g y1, y2⟩)
          · exact .inr (.inr ⟨g, hin g y1, y2⟩)
        · exact .inr (.inr ⟨g, hin g x1, x2⟩)
theorem TkI.tick {s : Nat} (hs : s < zs.length) (hb : bit set s = true) (hd : d < 6) (hq : q < zs.length) (hbq : bit set q = true) (hA : 0 < A ∧ A ≤ 1048576) : ∀ (k e : Nat) (V : PX) (m : Nat), e + k = 6 → TkI zs set d q A V (if e ≤ d then s else s + 1) → XI zs V m → m + 7 * k < 1000000 → TkI zs set d q A (tickX zs s k e V) (s + 1)
  | 0, e, _, _, hk, h, _, _ => by rw [if_neg (by omega)] at h; exact h
  | k + 1, e, V, m, hk, h, hX, hm => by
    have hl := h.up s hs hb
    have hX1 := hX.ticks hs (d := e) (by omega) (by rw [hl]; decide) (by omega)
    have h1 : TkI zs set d q A (tickD zs V s e) (if e + 1 ≤ d then s else s + 1) := by
      by_cases c : e = d
      · subst c
        rw [if_pos (Nat.le_refl _)] at h
        rw [if_neg (by omega)]
        exact h.own hX (by omega) hs hb hd hq hbq hA
      · have h2 := h.else hX (by omega) hs hb (e := e) (by omega) c hq hbq
        by_cases c2 : e ≤ d
        · rw [if_pos c2] at h2; rw [if_pos (by omega)]; exact h2
        · rw [if_neg c2] at h2; rw [if_neg (by omega)]; exact h2
    unfold tickX
    rw [if_pos (by unfold upN; rw [h1.up s hs hb]; decide)]
    exact TkI.tick hs hb hd hq hbq hA k (e + 1) _ (m + 7) (by omega) h1 hX1 (by omega)
end
structure FB (zs : List Int) (V : PX) (T : Nat) : Prop where
  st : ∀ i d, i < zs.length → d < 6 → (stN (V.nd i) d).pr ≤ T
  ld : ∀ i d x, i < zs.length → d < 6 → (V.nd i).ld d = some x → x.1 ≤ ((stN (V.nd i) d).pr : Int) ∧ x.2.seen ≤ (T : Int)
  fr : ∀ f, f ∈ V.fly → f.pr ≤ (T : Int) ∧ ((f.k = 3 ∨ f.k = 5) → f.a ≤ ((stN (V.nd f.f.toNat) f.d.toNat).pr : Int)) ∧ ((f.k = 4 ∨ f.k = 6) → f.a ≤ ((stN (V.nd f.t.toNat) f.d.toNat).pr : Int))
def Gp (zs : List Int) (V V' : PX) : Prop := ∀ i d, i < zs.length → d < 6 → (stN (V.nd i) d).pr ≤ (stN (V'.nd i) d).pr
section
variable {zs : List Int} {V V' : PX} {m T T' : Nat}
theorem FB.mono (h : FB zs V T) (ht : T ≤ T') : FB zs V T' :=
  ⟨fun i d hi hd => Nat.le_trans (h.st i d hi hd) ht, fun i d x hi hd hx => ⟨(h.ld i d x hi hd hx).1, by have := (h.ld i d x hi hd hx).2; omega⟩, fun f hf => ⟨by have := (h.fr f hf).1; omega, (h.fr f hf).2⟩⟩
theorem FB.quiet (h : FB zs V T) (hs : ∀ i d, stN (V'.nd i) d = stN (V.nd i) d) (hl : ∀ i d x, (V'.nd i).ld d = some x → (V.nd i).ld d = some x) (hf : ∀ f, f ∈ V'.fly → f ∈ V.fly) : FB zs V' T :=
  ⟨fun i d hi hd => by rw [hs]; exact h.st i d hi hd, fun i d x hi hd hx => by rw [hs]; exact h.ld i d x hi hd (hl i d x hx), fun f hx => by rw [hs, hs]; exact h.fr f (hf f hx)⟩
theorem FB.send {L : List F9} (h : FB zs V T) (hL : ∀ f, f ∈ L → f.pr ≤ (T : Int) ∧ ((f.k = 3 ∨ f.k = 5) → f.a ≤ ((stN (V.nd f.f.toNat) f.d.toNat).pr : Int)) ∧ ((f.k = 4 ∨ f.k = 6) → f.a ≤ ((stN (V.nd f.t.toNat) f.d.toNat).pr : Int))) : FB zs (sendX V L) T :=
  ⟨h.st, h.ld, fun f hf => by
    rcases List.mem_append.1 hf with x | x
    · exact h.fr f x
    · exact hL f x⟩
theorem FB.setLead {i d : Nat} {x : Int × PL} (h : FB zs V T) (hx : x.1 ≤ ((stN (V.nd i) d).pr : Int) ∧ x.2.seen ≤ (T : Int)) : FB zs (setNd V i (setLd (V.nd i) d x)) T :=
  ⟨fun k e hk he => by rw [setLd_st V i d x k e]; exact h.st k e hk he, fun k e y hk he hy => by
    rw [setLd_st V i d x k e]
    by_cases c : k = i
    · subst c
      rw [nd_at] at hy
      by_cases c2 : e = d
      · subst c2; rw [ld_at] at hy; cases hy; exact hx
      · rw [ld_ne _ _ _ c2] at hy; exact h.ld k e y hk he hy
    · rw [nd_ne _ _ _ c] at hy; exact h.ld k e y hk he hy, fun f hf => by rw [setLd_st V i d x _ _, setLd_st V i d x _ _]; exact h.fr f hf⟩
theorem toL_pr {id : Nat} {deal kind att ph : Int} {n : Nat} {g : F9} (hg : g ∈ toL id deal kind att ph n) : g.pr = 0 := by
  obtain ⟨j, hj⟩ := List.mem_iff_getElem?.1 hg
  have hjl : j < n := by
    obtain ⟨q, -⟩ := List.getElem?_eq_some_iff.1 hj
    rw [toL_length] at q; exact q
  rw [toL_at _ _ _ _ _ j _ hjl] at hj
  cases hj; rfl
theorem phear_top {s : Nat} {d a : Int} {P : PL} {f : F9} (h1 : P.seen ≤ (T : Int)) (h2 : f.pr ≤ (T : Int)) : (phear zs s d a P f).1.seen ≤ (T : Int) := by
  have hn : (noteP P f).seen = P.seen := rfl
  have hs : (seeP (noteP P f) f.pr).seen ≤ (T : Int) := by
    unfold seeP
    split
    · exact h2
    · rw [hn]; exact h1
  unfold phear takenP
  generalize seeP (noteP P f) f.pr = Q at *
  have hN : (noteP P f).seen ≤ (T : Int) := h1
  generalize noteP P f = M at *
  repeat' split
  · unfold voteP decP preP
    repeat' split
    · exact hN
    · exact hN
    · exact hN
  · exact hs
  · unfold tellP decP preP
    repeat' split
    · exact hs
    · exact hs
    · exact hs
  · unfold ackP decP
    split
    · exact hs
    · exact hs
  · exact h1
theorem hears_seen {s : Nat} {d : Nat} {a : Int} : ∀ (L : List F9) (P : PL), P.seen ≤ (T : Int) → (∀ f, f ∈ L → f.pr ≤ (T : Int)) → (hearsL zs s d a P L).1.seen ≤ (T : Int)
  | [], _, h, _ => h
  | f :: r, P, h, hL => by
    unfold hearsL
    exact hears_seen r _ (phear_top h (hL f List.mem_cons_self)) fun g hg => hL g (List.mem_cons_of_mem _ hg)
theorem g_pr (N : PN) (f : F9) : (stN N f.d.toNat).pr ≤ (gHN N f).st.pr ∧ ((gHN N f).st.pr = (stN N f.d.toNat).pr ∨ ((f.k = 3 ∨ f.k = 5) ∧ (gHN N f).st.pr = f.a.toNat)) := by
  have := hear_pr (stN N f.d.toNat) (N.R f.d.toNat) f.k.toNat f.a.toNat f.ph.toNat
  unfold gHN
  rcases this with e | ⟨e1, e2, e3⟩
  · rw [e]; exact ⟨Nat.le_refl _, .inl rfl⟩
  · rw [e3]; exact ⟨e2, .inr ⟨by omega, rfl⟩⟩
theorem hear_st {i d : Nat} {f : F9} {j : Nat} (hX : XI zs V m) (hu : (V.nd i).l ≠ -2) (hF : FI zs.length f) (hm : m < 4000000000) (hi : i < zs.length) :
    stN ((hearX V i f).nd j) d = stN (V.nd j) d ∨ (j = i ∧ d = f.d.toNat ∧ stN ((hearX V i f).nd j) d = (gHN (V.nd i) f).st) := by
  have hh := hearN_hf (hX.nd i hi) hu hF hm
  rcases hh.c with hc | hc
  · by_cases c : d = f.d.toNat
    · have h2 := congrFun (hearX_st (V := V) (i := i) hh hc) j
      unfold stD upd at h2
      rw [c, h2]
      split
      · rename_i e
        exact .inr ⟨e, rfl, rfl⟩
      · exact .inl rfl
    · exact .inl (hearX_ne (V := V) (i := i) hh c j)
  · exact .inl (hearX_st0 (V := V) (i := i) hh hc j d)
theorem FB.hear {i : Nat} {f : F9} (h : FB zs V T) (hX : XI zs V m) (hu : (V.nd i).l ≠ -2) (hF : FI zs.length f) (hm : m < 4000000000) (hi : i < zs.length) (hfa : (f.k = 3 ∨ f.k = 5) → f.a ≤ (T : Int)) :
    FB zs (hearX V i f) T ∧ Gp zs V (hearX V i f) ∧ ∀ a, a ∈ ansN i (V.nd i) f → a.pr ≤ (T : Int) ∧ a.t = f.f ∧ a.d = f.d ∧ a.a = f.a ∧ ¬ (a.k = 3 ∨ a.k = 5) ∧ ((a.k = 4 ∨ a.k = 6) → f.k = 3 ∨ f.k = 5) := by
  have hh := hearN_hf (hX.nd i hi) hu hF hm
  have hd6 : 0 ≤ f.d ∧ f.d ≤ 5 := hF.ok.2.2.1
  have ha0 : 0 ≤ f.a := hF.ok.2.2.2.2.1.1
  obtain ⟨g1, g2⟩ := g_pr (V.nd i) f
  have hgT : (gHN (V.nd i) f).st.pr ≤ T := by
    rcases g2 with e | ⟨e1, e2⟩
    · rw [e]; exact h.st i _ hi (by omega)
    · have := hfa e1; omega
  have hG : Gp zs V (hearX V i f) := fun j d hj hd => by
    rcases hear_st (j := j) (d := d) hX hu hF hm hi with e | ⟨e1, e2, e3⟩
    · rw [e]; exact Nat.le_refl _
    · rw [e3, e1, e2]; exact g1
  refine ⟨⟨fun j d hj hd => ?_, fun j d x hj hd hx => ?_, fun g hg => ?_⟩, hG, fun a ha => ?_⟩
  · rcases hear_st (j := j) (d := d) hX hu hF hm hi with e | ⟨e1, e2, e3⟩
    · rw [e]; exact h.st j d hj hd
    · rw [e3]; exact hgT
  · have := h.ld j d x hj hd (hearX_ld (V := V) (i := i) hh j d x hx)
    have h2 := hG j d hj hd
    exact ⟨by omega, this.2⟩
  · have hgm : g ∈ V.fly := hg
    have hgF := hX.fr g hgm
    have f0 := hgF.f0; have f1 := hgF.f1; have t0 := hgF.t0; have t1 := hgF.t1
    have gd6 : 0 ≤ g.d ∧ g.d ≤ 5 := hgF.ok.2.2.1
    have := h.fr g hgm
    have h2 := hG g.f.toNat g.d.toNat (by omega) (by omega)
    have h3 := hG g.t.toNat g.d.toNat (by omega) (by omega)
    exact ⟨this.1, fun e => by have := this.2.1 e; omega, fun e => by have := this.2.2 e; omega⟩
  · unfold ansN at ha
    split at ha
    · rw [List.mem_singleton] at ha
      subst ha
      have hks := hear_ks (stN (V.nd i) f.d.toNat) ((V.nd i).R f.d.toNat) f.k.toNat f.a.toNat f.ph.toNat
      have hk1 : (gHN (V.nd i) f).k = 0 ∨ (gHN (V.nd i) f).k = 2 ∨ (gHN (V.nd i) f).k = 4 ∨ (gHN (V.nd i) f).k = 6 := hks
      have hk4 : (gHN (V.nd i) f).k = 4 → f.k.toNat = 3 := fun e => (hear_k4 _ _ _ _ _ e).1
      have hk6 : (gHN (V.nd i) f).k = 6 → f.k.toNat = 5 := by
        intro e
        unfold gHN at e
        revert e
        unfold hearL
        repeat' split
        all_goals simp
        all_goals assumption
      have hz : ∀ (x y : Int) (b : Bool) (p r q : Int) , (⟨x, y, f.d, ((gHN (V.nd i) f).k : Int), f.a, b, p, r, q⟩ : F9).k = ((gHN (V.nd i) f).k : Int) := fun _ _ _ _ _ _ => rfl
      rw [hz]
      exact ⟨by show (((gHN (V.nd i) f).st.pr : Nat) : Int) ≤ _; omega, rfl, rfl, rfl, by omega, fun e => by omega⟩
    · cases ha
theorem FB.lead {i d : Nat} {f : F9} {x : Int × PL} (h : FB zs V T) (hi : i < zs.length) (hd : d < 6) (hx : (V.nd i).ld d = some x) (hp : f.pr ≤ (T : Int)) :
    FB zs (sendX (setNd V i (setLd (V.nd i) d (x.1, (phear zs i d x.1 x.2 f).1))) (outL i d x.1 zs.length (phear zs i d x.1 x.2 f).2)) T := by
  have hl := h.ld i d x hi hd hx
  refine (h.setLead (i := i) (d := d) (x := (x.1, (phear zs i d x.1 x.2 f).1)) ⟨hl.1, phear_top hl.2 hp⟩).send fun g hg => ?_
  cases hy : (phear zs i d x.1 x.2 f).2 with
  | none => rw [hy] at hg; cases hg
  | some y =>
    rw [hy] at hg
    have hz := toL_mem hg
    have hk := (phear_out hy).1
    have hpr : g.pr = 0 := toL_pr hg
    refine ⟨by rw [hpr]; omega, fun _ => ?_, fun e => by have := hz.1; omega⟩
    rw [setLd_st V i d _ _ _, hz.2.1, hz.2.2.2.2.1, hz.2.2.2.2.2, Int.toNat_natCast, Int.toNat_natCast]
    exact hl.1
theorem FB.deliver {k : Nat} {f : F9} (h : FB zs V T) (hX : XI zs V m) (hm : m < 4000000000) (hf : f ∈ V.fly) : FB zs (deliverX zs V k f) T := by
  have hF := hX.fr f hf
  have h1 : FB zs (takeX V k) T := h.quiet (fun _ _ => rfl) (fun _ _ _ x => x) (fun _ x => List.mem_of_mem_eraseIdx x)
  have hX1 : XI zs (takeX V k) m := hX.take
  have f0 := hF.f0; have f1 := hF.f1; have t0 := hF.t0; have t1 := hF.t1
  have hd6 : 0 ≤ f.d ∧ f.d ≤ 5 := hF.ok.2.2.1
  have hfr := h.fr f hf
  unfold deliverX
  split
  · rename_i hr
    have hu : ((takeX V k).nd f.t.toNat).l ≠ -2 := by
      show (V.nd f.t.toNat).l ≠ -2
      unfold reachB at hr
      rw [Bool.and_eq_true] at hr
      have := hr.1
      unfold upN at this
      simpa using this
    unfold arriveX arriveO
    split
    · cases hx : ((takeX V k).nd f.t.toNat).ld f.d.toNat with
      | none =>
        rw [(leadX_none hx).1, (leadX_none hx).2, sendX_nil]
        exact h1
      | some x =>
        rw [(leadX_some hx).1, (leadX_some hx).2]
        exact h1.lead (by omega) (by omega) hx hfr.1
    · have hst := h.st f.f.toNat f.d.toNat (by omega) (by omega)
      obtain ⟨k1, k2, k3⟩ := h1.hear hX1 hu hF hm (by omega) fun e => by have := hfr.2.1 e; omega
      refine k1.send fun g hg => ?_
      obtain ⟨q1, q2, q3, q4, q5, q6⟩ := k3 g hg
      refine ⟨q1, fun e => absurd e q5, fun e => ?_⟩
      have h5 := hfr.2.1 (q6 e)
      have h6 := k2 f.f.toNat f.d.toNat (by omega) (by omega)
      have h7 : (stN ((takeX V k).nd f.f.toNat) f.d.toNat).pr = (stN (V.nd f.f.toNat) f.d.toNat).pr := rfl
      rw [q2, q3, q4]
      omega
  · exact h1
theorem FB.try {s d : Nat} (h : FB zs V T) (hX : XI zs V m) (hs : s < zs.length) (hd : d < 6) (hu : (V.nd s).l ≠ -2) (hm : m < 1000000) : FB zs (tryX zs V s d (attemptX zs.length s (aboveN (V.nd s) d))) (T + 7) := by
  have n7 := (errW_zero hX.he).2.1
  have hbd := aboveN_bd (hX.nd s hs) hd
  have hat := attemptX_bd zs.length s (aboveN (V.nd s) d) (by omega)
  have hT := h.st s d hs hd
  have hab : aboveN (V.nd s) d ≤ (T : Int) ∧ ((stN (V.nd s) d).pr : Int) ≤ aboveN (V.nd s) d := by
    unfold aboveN
    split
    · exact ⟨by omega, Int.le_refl _⟩
    · rename_i x hx
      have := h.ld s d x hs hd hx
      omega
  generalize attemptX zs.length s (aboveN (V.nd s) d) = a at hat
  have hF := fun h1 : a ≤ 1048576 => electF_fi (a := a) hs n7 hd (by omega)
  have hT7 := h.mono (T' := T + 7) (by omega)
  unfold tryX
  split
  · exact hT7
  · rename_i ha
    have hF := hF (by omega)
    obtain ⟨k1, k2, k3⟩ := hT7.hear (f := electF s d a) hX hu hF (by omega) hs fun _ => by show a ≤ _; omega
    have hh := hearN_hf (hX.nd s hs) hu hF (by omega : m < 4000000000)
    split
    · exact k1
    · rename_i hup
      have hc : (oHN (V.nd s) (electF s d a)).c = 0 := by
        have h2 := hh.up
        have h3 : upN (hearN (V.nd s) (electF s d a)) = true := by simpa using hup
        rw [h3] at h2
        exact of_decide_eq_true h2.symm
      have hey := elect_yes (N := V.nd s) (s := s) (e := d) (a := a) hc (by omega)
      have hN : (hearX V s (electF s d a)).nd s = hearN (V.nd s) (electF s d a) := nd_at V s _
      have hpr : (stN ((hearX V s (electF s d a)).nd s) d).pr = a.toNat := by
        have h3 : (electF s d a).d.toNat = d := Int.toNat_natCast d
        have h4 := hh.yes hc
        rw [h3] at h4
        rw [hN, h4, hey.1]
      have hl := k1.setLead (i := s) (d := d) (x := (a, (hearsL zs s d a P0 (ansN s (V.nd s) (electF s d a))).1)) ⟨by rw [hpr]; show a ≤ _; omega, hears_seen _ _ (by show (0 : Int) ≤ _; omega) fun g hg => (k3 g hg).1⟩
      rw [hN] at hl
      refine hl.send fun g hg => ?_
      have hst : (stN ((setNd (hearX V s (electF s d a)) s (setLd (hearN (V.nd s) (electF s d a)) d (a, (hearsL zs s d a P0 (ansN s (V.nd s) (electF s d a))).1))).nd s) d).pr = a.toNat := by
        rw [nd_at]
        rw [hN] at hpr
        exact hpr
      have hk : g.f = (s : Int) ∧ g.d = (d : Int) ∧ g.a = a ∧ (g.k = 3 ∨ g.k = 5 ∨ g.k = 7) ∧ g.pr = 0 := by
        have hzero : ∀ (k p : Int), g ∈ toL s d k a p zs.length → g.pr = 0 := fun k p hx => toL_pr hx
        rcases List.mem_append.1 hg with y | y
        · unfold electL at y
          have hy := List.mem_of_mem_eraseIdx y
          have hm2 := toL_mem hy
          exact ⟨hm2.2.2.2.2.1, hm2.2.2.2.2.2, hm2.2.1, .inl hm2.1, hzero _ _ hy⟩
        · have hq := hears_deal _ _ _ y
          refine ⟨hq.1, hq.2.1, hq.2.2.1, by omega, ?_⟩
          rw [hey.2] at y
          have y2 : g ∈ outL s d a zs.length (phear zs s d a P0 ⟨s, s, d, 4, a, true, (stN (V.nd s) d).ph, a.toNat, (stN (V.nd s) d).at_⟩).2 ++ [] := y
          rw [List.append_nil] at y2
          cases hz : (phear zs s d a P0 ⟨s, s, d, 4, a, true, (stN (V.nd s) d).ph, a.toNat, (stN (V.nd s) d).at_⟩).2 with
          | none => rw [hz] at y2; cases y2
          | some z => rw [hz] at y2; exact hzero _ _ y2
      obtain ⟨g1, g2, g3, g4, g5⟩ := hk
      refine ⟨by rw [g5]; omega, fun _ => ?_, fun e => by omega⟩
      rw [g1, g2, g3, Int.toNat_natCast, Int.toNat_natCast, hst]
      omega
theorem FB.ticks {s d : Nat} (h : FB zs V T) (hX : XI zs V m) (hs : s < zs.length) (hd : d < 6) (hu : (V.nd s).l ≠ -2) (hm : m < 1000000) : FB zs (tickD zs V s d) (T + 7) := by
  unfold tickD
  split
  · exact h.mono (by omega)
  · split
    · refine (h.mono (T' := T + 7) (by omega)).send fun g hg => ?_
      have hz := toL_mem hg
      have hpr : g.pr = 0 := toL_pr hg
      exact ⟨by rw [hpr]; omega, fun e => by have := hz.1; omega, fun e => by have := hz.1; omega⟩
    · exact h.try hX hs hd hu hm
theorem FB.tick {s : Nat} (hs : s < zs.length) : ∀ (k d : Nat) (V : PX) (m T : Nat), d + k ≤ 6 → FB zs V T → XI zs V m → (V.nd s).l ≠ -2 → m + 7 * k < 1000000 → FB zs (tickX zs s k d V) (T + 7 * k)
  | 0, _, _, _, _, _, h, _, _, _ => h
  | k + 1, d, V, m, T, hk, h, hX, hu, hm => by
    have h1 := h.ticks hX hs (d := d) (by omega) hu (by omega)
    have hX1 := hX.ticks hs (d := d) (by omega) hu (by omega)
    unfold tickX
    split
    · rename_i hup
      exact (FB.tick hs k (d + 1) _ (m + 7) (T + 7) (by omega) h1 hX1 (by unfold upN at hup; simpa using hup) (by omega)).mono (by omega)
    · exact h1.mono (by omega)
theorem Stp.fb (h : Stp zs V V') (hB : FB zs V T) (hX : XI zs V m) (hm : m < 900000) : FB zs V' (T + 42) := by
  have hB2 := hB.mono (T' := T + 42) (by omega)
  rcases h with rfl | ⟨s, d, hs, hd, hc, rfl⟩ | ⟨s, d, hs, hu, rfl⟩ | ⟨s, hs, hu, rfl⟩ | ⟨s, hs, hu, rfl⟩ | ⟨s, hs, hu, rfl⟩ | ⟨k, rfl⟩ | ⟨k, f, hf, rfl⟩ | ⟨a, b, x, rfl⟩ | ⟨s, n, hs, rfl⟩ | ⟨k, f, hk, rfl⟩
  · exact hB2
  · refine (hB2.setLead (i := s) (d := d) (x := (0, P0)) ⟨by show (0 : Int) ≤ _; omega, by show (0 : Int) ≤ _; omega⟩).send fun g hg => ?_
    have hz := toL_mem hg
    have hpr : g.pr = 0 := toL_pr hg
    exact ⟨by rw [hpr]; omega, fun e => by have := hz.1; omega, fun e => by have := hz.1; omega⟩
  · exact hB2.quiet (nd_keep fun _ => rfl) (ld_keep (V := V) (s := s) (N := { V.nd s with R := updR (V.nd s).R d }) (fun _ _ y => y)) (fun _ y => y)
  · exact FB.tick hs 6 0 V m T (by decide) hB hX (by unfold upN at hu; simpa using hu) (by omega)
  · exact hB2.quiet (nd_keep fun _ => rfl) (ld_keep (fun _ _ y => by cases y)) (fun _ y => y)
  · exact hB2.quiet (nd_keep fun _ => rfl) (ld_keep (V := V) (s := s) (N := { V.nd s with l := -1, over := false, R := fun _ => false }) (fun _ _ y => y)) (fun _ y => y)
  · exact hB2.quiet (fun _ _ => rfl) (fun _ _ _ y => y) (fun _ y => List.mem_of_mem_eraseIdx y)
  · refine hB2.quiet (fun _ _ => rfl) (fun _ _ _ y => y) (fun g hg => ?_)
    have hg2 : g ∈ V.fly.take k ++ f :: V.fly.drop k := hg
    rcases List.mem_append.1 hg2 with y | y
    · exact List.mem_of_mem_take y
    · rcases List.mem_cons.1 y with rfl | y
      · exact hf
      · exact List.mem_of_mem_drop y
  · exact hB2.quiet (fun _ _ => rfl) (fun _ _ _ y => y) (fun _ y => y)
  · exact hB2.quiet (nd_keep fun _ => rfl) (ld_keep (V := V) (s := s) (N := { V.nd s with l := cL (V.nd s).l n }) (fun _ _ y => y)) (fun _ y => y)
  · exact hB2.deliver hX (by omega) (List.mem_iff_getElem?.2 ⟨k, hk⟩)
end
end Go.Proofs.YtadhpkopkkjmfaaGreatDoor
