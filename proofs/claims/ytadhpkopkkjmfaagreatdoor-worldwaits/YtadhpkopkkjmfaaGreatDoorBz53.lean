/-
  On the way to WEndsProof, WWaitsProof: YQ YS YT YU.
-/
import Derived.Test.YtadhpkopkkjmfaaGreatDoorBz51
set_option maxHeartbeats 8000000
set_option maxRecDepth 100000
namespace Go.Proofs.YtadhpkopkkjmfaaGreatDoor
open Go.RowKit
theorem sum_sub {zs : List Int} {a b : Int} : ∀ {k : Nat}, okTo zs k → (∀ i, i < k → bit a i = true → bit b i = true) → sumTo zs a k ≤ sumTo zs b k
  | 0, _, _ => Int.le_refl _
  | k + 1, ho, h => by
    have h1 := sum_sub (zs := zs) (a := a) (b := b) (k := k) (fun i hi => ho i (by omega)) (fun i hi => h i (by omega))
    have h2 := h k (by omega)
    have h3 := (ho k (by omega)).1
    unfold sumTo
    cases ha : bit a k with
    | true => rw [h2 ha, if_pos rfl]; omega
    | false => rw [if_neg (by decide)]; split <;> omega
theorem enough_sub {zs : List Int} (he : errW zs = 0) {a b : Int} (h : ∀ i, i < zs.length → bit a i = true → bit b i = true) (hb : enoughB zs b = false) : enoughB zs a = false := by
  have h1 := sum_sub (errW_zero he).2.2.1 h
  unfold enoughB at hb ⊢
  have := of_decide_eq_false hb
  exact decide_eq_false (by omega)
structure WaI (zs : List Int) (set : Int) (d : Nat) (V : PX) : Prop where
  st : ∀ i, i < zs.length → bit set i = true → finB (stN (V.nd i) d).ph = false
  fr : ∀ f, f ∈ V.fly → f.d = (d : Int) → bit set f.f.toNat = true ∧ (f.k = 3 ∨ (f.k = 4 ∧ ¬ (f.ph = 2 ∨ f.ph = 3)))
  ld : ∀ i x, i < zs.length → bit set i = true → (V.nd i).ld d = some x → 0 < x.1 ∧ (x.2.stt = 0 ∨ x.2.stt = 3) ∧ ∀ j, j < zs.length → bit x.2.ans j = true → bit set j = true
structure WaX (zs : List Int) (set : Int) (V : PX) : Prop where
  fr : ∀ f, f ∈ V.fly → bit set f.f.toNat = true
  br : ∀ a b, a < zs.length → b < zs.length → a ≠ b → ¬ (bit set a = true ∧ bit set b = true) → brX V a b = true
section
variable {zs : List Int} {set : Int} {d m : Nat} {V V' : PX}
theorem WaI.send {L : List F9} (h : WaI zs set d V) (hL : ∀ f, f ∈ L → f.d = (d : Int) → bit set f.f.toNat = true ∧ (f.k = 3 ∨ (f.k = 4 ∧ ¬ (f.ph = 2 ∨ f.ph = 3)))) : WaI zs set d (sendX V L) :=
  ⟨h.st, fun f hf hd => by
    rcases List.mem_append.1 hf with x | x
    · exact h.fr f x hd
    · exact hL f x hd, h.ld⟩
theorem WaI.quiet (h : WaI zs set d V) (hs : ∀ i, stN (V'.nd i) d = stN (V.nd i) d) (hl : ∀ i x, i < zs.length → (V'.nd i).ld d = some x → (V.nd i).ld d = some x) (hf : ∀ f, f ∈ V'.fly → f ∈ V.fly) : WaI zs set d V' :=
  ⟨fun i hi hb => by rw [hs]; exact h.st i hi hb, fun f x y => h.fr f (hf f x) y, fun i x hi hb hx => h.ld i x hi hb (hl i x hi hx)⟩
theorem WaI.hear {i : Nat} {f : F9} (h : WaI zs set d V) (hX : XI zs V m) (hu : (V.nd i).l ≠ -2) (hF : FI zs.length f) (hm : m < 4000000000) (hi : i < zs.length) (hb : bit set i = true) (hk : f.d = (d : Int) → f.k = 3) :
    WaI zs set d (hearX V i f) ∧ ∀ a, a ∈ ansN i (V.nd i) f → a.d = (d : Int) → bit set a.f.toNat = true ∧ (a.k = 3 ∨ (a.k = 4 ∧ ¬ (a.ph = 2 ∨ a.ph = 3))) := by
  have hh := hearN_hf (hX.nd i hi) hu hF hm
  have hd6 : 0 ≤ f.d ∧ f.d ≤ 5 := hF.ok.2.2.1
  rcases hh.c with hc | hc
  · by_cases e : d = f.d.toNat
    · have ed : f.d = (d : Int) := by omega
      have hk3 := hk ed
      have hfin := h.st i hi hb
      have hg : gHN (V.nd i) f = if (stN (V.nd i) d).pr < f.a.toNat then ⟨⟨(stN (V.nd i) d).ph, f.a.toNat, (stN (V.nd i) d).at_⟩, 4, true⟩ else ⟨stN (V.nd i) d, 4, false⟩ := by
        unfold gHN hearL
        rw [hk3, ← e, if_neg (by decide), if_pos (by decide)]
      have hph : (gHN (V.nd i) f).st.ph = (stN (V.nd i) d).ph ∧ (gHN (V.nd i) f).k = 4 := by rw [hg]; split <;> exact ⟨rfl, rfl⟩
      have hst := hearX_st (i := i) hh hc
      rw [← e] at hst
      refine ⟨⟨fun j hj hbj => ?_, fun g x y => h.fr g x y, fun j x hj hbj hx => h.ld j x hj hbj (hearX_ld hh j d x hx)⟩, fun a ha _ => ?_⟩
      · have := congrFun hst j
        have h2 : stN ((hearX V i f).nd j) d = upd (stD V d) i (gHN (V.nd i) f).st j := this
        rw [h2]
        unfold upd
        split
        · rename_i e2; rw [hph.1]; exact hfin
        · exact h.st j hj hbj
      · unfold ansN at ha
        rw [if_pos ⟨hc, by rw [hph.2]; decide⟩, List.mem_singleton] at ha
        subst ha
        refine ⟨by show bit set ((i : Int).toNat) = true; rw [Int.toNat_natCast]; exact hb, .inr ⟨by show ((gHN (V.nd i) f).k : Int) = 4; rw [hph.2]; rfl, ?_⟩⟩
        show ¬ (((gHN (V.nd i) f).st.ph : Int) = 2 ∨ ((gHN (V.nd i) f).st.ph : Int) = 3)
        rw [hph.1]
        have := of_decide_eq_false hfin
        omega
    · refine ⟨h.quiet (hearX_ne (i := i) hh e) (fun j x _ hx => hearX_ld hh j d x hx) (fun _ x => x), fun a ha hda => ?_⟩
      unfold ansN at ha
      split at ha
      · rw [List.mem_singleton] at ha
        subst ha
        have : f.d = (d : Int) := hda
        omega
      · cases ha
  · have hs := hearX_st0 (i := i) hh hc
    refine ⟨h.quiet (fun k => hs k d) (fun j x _ hx => hearX_ld hh j d x hx) (fun _ x => x), fun a ha _ => ?_⟩
    unfold ansN at ha
    rw [if_neg (fun x => by rw [hc] at x; cases x.1)] at ha
    cases ha
theorem wa_lead {i : Nat} {x : Int × PL} {f : F9} (he : errW zs = 0) (hen : enoughB zs set = false) (hx : 0 < x.1 ∧ (x.2.stt = 0 ∨ x.2.stt = 3) ∧ ∀ j, j < zs.length → bit x.2.ans j = true → bit set j = true) (hw : PW zs.length x.2) (hf : bit set f.f.toNat = true) :
    (phear zs i d x.1 x.2 f).2 = none ∧ (0 < x.1 ∧ ((phear zs i d x.1 x.2 f).1.stt = 0 ∨ (phear zs i d x.1 x.2 f).1.stt = 3) ∧ ∀ j, j < zs.length → bit (phear zs i d x.1 x.2 f).1.ans j = true → bit set j = true) := by
  have hn := (errW_zero he).2.1
  obtain ⟨h0, h1, h2⟩ := hx
  unfold phear
  by_cases ht : takesB zs.length i d x.1 x.2 f = true
  · rw [if_pos ht]
    obtain ⟨-, hwt, ⟨f0, f1⟩, -⟩ := takesB_in ht
    rcases waitsY hwt with ⟨_, _, e3⟩ | ⟨e1, e2, _⟩ | ⟨_, e2⟩
    · omega
    · unfold takenP
      rw [if_neg (by omega)]
      obtain ⟨q1, q2, q3, -⟩ := seeP_of (noteP x.2 f) f.pr
      have ha : ∀ j, j < zs.length → bit (seeP (noteP x.2 f) f.pr).ans j = true → bit set j = true := by
        intro j hj hb
        rw [q2] at hb
        rcases bit_ans hn hw.lo hw.hi (show f.f.toNat < zs.length by omega) hb with y | y
        · exact h2 j hj y
        · rw [y]; exact hf
      cases hy : f.y with
      | false => rw [if_pos rfl]; exact ⟨rfl, h0, .inr rfl, ha⟩
      | true =>
        rw [if_neg (by decide), if_pos e1]
        unfold tellP
        rw [if_pos (enough_sub he ha hen)]
        exact ⟨rfl, h0, .inl (by show (seeP (noteP x.2 f) f.pr).stt = 0; rw [q1]; exact e2), ha⟩
    · omega
  · rw [if_neg ht]
    exact ⟨rfl, h0, h1, h2⟩
theorem WaI.setLead {i : Nat} {x : Int × PL} (h : WaI zs set d V) (hx : 0 < x.1 ∧ (x.2.stt = 0 ∨ x.2.stt = 3) ∧ ∀ j, j < zs.length → bit x.2.ans j = true → bit set j = true) : WaI zs set d (setNd V i (setLd (V.nd i) d x)) :=
  ⟨fun k hk hb => by rw [setLd_st V i d x k d]; exact h.st k hk hb, h.fr, fun k y hk hb hy => by
    by_cases c : k = i
    · subst c; rw [nd_at, ld_at] at hy; cases hy; exact hx
    · rw [nd_ne _ _ _ c] at hy; exact h.ld k y hk hb hy⟩
theorem WaI.otherLead {i e : Nat} {x : Int × PL} (h : WaI zs set d V) (hne : d ≠ e) : WaI zs set d (setNd V i (setLd (V.nd i) e x)) :=
  ⟨fun k hk hb => by rw [setLd_st V i e x k d]; exact h.st k hk hb, h.fr, fun k y hk hb hy => by
    by_cases c : k = i
    · subst c; rw [nd_at, ld_ne _ _ _ hne] at hy; exact h.ld k y hk hb hy
    · rw [nd_ne _ _ _ c] at hy; exact h.ld k y hk hb hy⟩
theorem WaX.to (h : WaX zs set V) {f : F9} (hf : f ∈ V.fly) (hF : FI zs.length f) (hr : reachB V f = true) : bit set f.t.toNat = true := by
  have h1 := h.fr f hf
  have f0 := hF.f0; have f1 := hF.f1; have t0 := hF.t0; have t1 := hF.t1
  cases hb : bit set f.t.toNat with
  | true => rfl
  | false =>
    unfold reachB at hr
    rw [Bool.and_eq_true, Bool.or_eq_true] at hr
    rcases hr.2 with e | e
    · rw [← eq_of_beq e, h1] at hb; cases hb
    · have hne : f.f.toNat ≠ f.t.toNat := fun q => by rw [← q, h1] at hb; cases hb
      rw [h.br _ _ (by omega) (by omega) hne (fun q => by rw [hb] at q; cases q.2)] at e
      cases e
theorem WaI.deliver {k : Nat} {f : F9} (h : WaI zs set d V) (hW : WaX zs set V) (hX : XI zs V m) (hen : enoughB zs set = false) (hm : m < 4000000000) (hf : f ∈ V.fly) : WaI zs set d (deliverX zs V k f) := by
  have hF := hX.fr f hf
  have h1 : WaI zs set d (takeX V k) := h.quiet (fun _ => rfl) (fun _ _ _ x => x) (fun _ x => List.mem_of_mem_eraseIdx x)
  have hX1 : XI zs (takeX V k) m := hX.take
  have ht : f.t.toNat < zs.length := by have := hF.t0; have := hF.t1; omega
  have hd6 : 0 ≤ f.d ∧ f.d ≤ 5 := hF.ok.2.2.1
  unfold deliverX
  split
  · rename_i hr
    have hbt := hW.to hf hF hr
    have hu : ((takeX V k).nd f.t.toNat).l ≠ -2 := by
      show (V.nd f.t.toNat).l ≠ -2
      unfold reachB at hr
      rw [Bool.and_eq_true] at hr
      have := hr.1
      unfold upN at this
      simpa using this
    unfold arriveX arriveO
    split
    · rename_i hans
      cases hx : ((takeX V k).nd f.t.toNat).ld f.d.toNat with
      | none =>
        rw [(leadX_none hx).1, (leadX_none hx).2, sendX_nil]
        exact h1
      | some x =>
        rw [(leadX_some hx).1, (leadX_some hx).2]
        by_cases e : d = f.d.toNat
        · have hl := h1.ld f.t.toNat x ht hbt (by rw [e]; exact hx)
          have hpw := ((hX1.nd _ ht).ld _ x hx).2.2.2.2
          obtain ⟨q1, q2⟩ := wa_lead (i := f.t.toNat) (d := f.d.toNat) hX.he hen hl hpw (hW.fr f hf)
          rw [q1]
          show WaI zs set d (sendX _ [])
          rw [sendX_nil, ← e]
          rw [← e] at q2
          exact h1.setLead q2
        · refine (h1.otherLead e).send fun o ho hod => ?_
          exfalso
          cases hy : (phear zs f.t.toNat f.d.toNat x.1 x.2 f).2 with
          | none => rw [hy] at ho; cases ho
          | some y =>
            rw [hy] at ho
            have := (toL_mem ho).2.2.2.2.2
            omega
    · rename_i hans
      have hk : f.d = (d : Int) → f.k = 3 := fun e => by
        rcases (h.fr f hf e).2 with q | q
        · exact q
        · exfalso
          refine hans ?_
          unfold isAns
          exact decide_eq_true (.inr (.inl q.1))
      obtain ⟨q1, q2⟩ := h1.hear hX1 hu hF hm ht hbt hk
      exact q1.send q2
  · exact h1
theorem WaX.quiet (h : WaX zs set V) (hf : ∀ f, f ∈ V'.fly → f ∈ V.fly ∨ bit set f.f.toNat = true) (hb : V'.br = V.br) : WaX zs set V' :=
  ⟨fun f hx => (hf f hx).elim (h.fr f) id, fun a b ha hb2 hab hn => by
    have := h.br a b ha hb2 hab hn
    unfold brX at this ⊢
    rw [hb]; exact this⟩
theorem ans_from {i : Nat} {N : PN} {f : F9} : ∀ a, a ∈ ansN i N f → a.f = (i : Int) := by
  intro a ha
  unfold ansN at ha
  split at ha
  · rw [List.mem_singleton] at ha; rw [ha]
  · cases ha
theorem out_from {i : Nat} {e att : Int} {n : Nat} {y : Option (Int × Int)} : ∀ a, a ∈ outL i e att n y → a.f = (i : Int) := by
  intro a ha
  cases y with
  | none => cases ha
  | some z => exact (toL_mem ha).2.2.2.2.1
theorem WaX.deliver {k : Nat} {f : F9} (h : WaX zs set V) (hX : XI zs V m) (hf : f ∈ V.fly) : WaX zs set (deliverX zs V k f) := by
  have hF := hX.fr f hf
  have hto : reachB V f = true → bit set f.t.toNat = true := fun hr => h.to hf hF hr
  unfold deliverX
  split
  · rename_i hr
    have hbt := hto hr
    refine h.quiet (fun g hg => ?_) ?_
    · rcases List.mem_append.1 hg with y | y
      · left
        have hfl : (arriveX zs (takeX V k) f).fly = (takeX V k).fly := by
          unfold arriveX leadX
          split
          · split <;> rfl
          · rfl
        rw [hfl] at y
        exact List.mem_of_mem_eraseIdx y
      · right
        have hfrom : g.f = ((f.t.toNat : Nat) : Int) := by
          unfold arriveO leadO at y
          split at y
          · split at y
            · cases y
            · exact out_from g y
          · exact ans_from g y
        rw [hfrom, Int.toNat_natCast]
        exact hbt
    · show (arriveX zs (takeX V k) f).br = V.br
      unfold arriveX leadX
      split
      · split <;> rfl
      · rfl
  · exact h.quiet (fun g hg => .inl (List.mem_of_mem_eraseIdx hg)) rfl
theorem WaI.try {s e : Nat} (h : WaI zs set d V) (hX : XI zs V m) (hen : enoughB zs set = false) (hs : s < zs.length) (hb : bit set s = true) (he : e < 6) (hu : (V.nd s).l ≠ -2) (hm : m < 1000000) :
    WaI zs set d (tryX zs V s e (attemptX zs.length s (aboveN (V.nd s) e))) := by
  have n7 := (errW_zero hX.he).2.1
  have hbd := aboveN_bd (hX.nd s hs) he
  have hat := attemptX_bd zs.length s (aboveN (V.nd s) e) (by omega)
  generalize attemptX zs.length s (aboveN (V.nd s) e) = a at hat
  by_cases hf : 1048576 < a
  · unfold tryX
    rw [if_pos hf]
    exact h
  · have hF := electF_fi (a := a) hs n7 he (by omega)
    obtain ⟨hh, ha⟩ := h.hear (f := electF s e a) hX hu hF (by omega) hs hb (fun _ => rfl)
    rcases elect_ans (hX.nd s hs) hu hF (by omega) with ⟨u, -⟩ | ⟨u, f0, hans⟩
    · unfold tryX
      rw [if_neg hf, if_pos u]
      exact hh
    · have hf0 : FI zs.length f0 := ansN_fi (hX.nd s hs) hu hF (by omega) rfl f0 (by rw [hans]; exact List.mem_singleton.2 rfl)
      have hmem : f0 ∈ ansN s (V.nd s) (electF s e a) := by rw [hans]; exact List.mem_singleton.2 rfl
      rw [← try_eq s e a f0 hans hf u]
      have hel : ∀ f, f ∈ electsL s e a zs.length → f.d = (d : Int) → bit set f.f.toNat = true ∧ (f.k = 3 ∨ (f.k = 4 ∧ ¬ (f.ph = 2 ∨ f.ph = 3))) := by
        intro f hfm _
        unfold electsL at hfm
        have hm2 := toL_mem (List.mem_of_mem_eraseIdx hfm)
        exact ⟨by rw [hm2.2.2.2.2.1, Int.toNat_natCast]; exact hb, .inl hm2.1⟩
      generalize hearX V s (electF s e a) = V1 at *
      by_cases c : d = e
      · subst c
        have h6 : WaI zs set d (sendX (setNd V1 s (setLd (V1.nd s) d (a, P0))) (electsL s d a zs.length)) :=
          (hh.setLead ⟨by show 0 < a; omega, .inl rfl, fun j _ hj => by have hj2 : bit 0 j = true := hj; rw [bit_zero] at hj2; cases hj2⟩).send hel
        have hx6 : ((sendX (setNd V1 s (setLd (V1.nd s) d (a, P0))) (electsL s d a zs.length)).nd s).ld d = some (a, P0) := by
          show ((setNd V1 s (setLd (V1.nd s) d (a, P0))).nd s).ld d = _
          rw [nd_at, ld_at]
        generalize sendX (setNd V1 s (setLd (V1.nd s) d (a, P0))) (electsL s d a zs.length) = V6 at *
        rw [(leadX_some hx6).1, (leadX_some hx6).2]
        have hff : bit set f0.f.toNat = true := by rw [ans_from f0 hmem, Int.toNat_natCast]; exact hb
        obtain ⟨q1, q2⟩ := wa_lead (i := s) (d := d) (x := (a, P0)) (f := f0) hX.he hen (h6.ld s (a, P0) hs hb hx6) (P0_w _) hff
        simp only at q1 q2 ⊢
        rw [q1]
        show WaI zs set d (sendX _ [])
        rw [sendX_nil]
        exact h6.setLead (x := (a, _)) q2
      · have h6 : WaI zs set d (sendX (setNd V1 s (setLd (V1.nd s) e (a, P0))) (electsL s e a zs.length)) := (hh.otherLead c).send hel
        have hx6 : ((sendX (setNd V1 s (setLd (V1.nd s) e (a, P0))) (electsL s e a zs.length)).nd s).ld e = some (a, P0) := by
          show ((setNd V1 s (setLd (V1.nd s) e (a, P0))).nd s).ld e = _
          rw [nd_at, ld_at]
        generalize sendX (setNd V1 s (setLd (V1.nd s) e (a, P0))) (electsL s e a zs.length) = V6 at *
        rw [(leadX_some hx6).1, (leadX_some hx6).2]
        refine (h6.otherLead c).send fun o ho hod => ?_
        exfalso
        cases hy : (phear zs s e a P0 f0).2 with
        | none => rw [hy] at ho; cases ho
        | some y =>
          rw [hy] at ho
          have := (toL_mem ho).2.2.2.2.2
          omega
theorem WaI.ticks {s e : Nat} (h : WaI zs set d V) (hX : XI zs V m) (hen : enoughB zs set = false) (hs : s < zs.length) (hb : bit set s = true) (he : e < 6) (hu : (V.nd s).l ≠ -2) (hm : m < 1000000) : WaI zs set d (tickD zs V s e) := by
  unfold tickD
  split
  · exact h
  · split
    · rename_i hfin
      refine h.send fun f hf hfd => ?_
      exfalso
      have h2 := (toL_mem hf).2.2.2.2.2
      have c : d = e := by omega
      subst c
      rw [h.st s hs hb] at hfin
      cases hfin
    · exact h.try hX hen hs hb he hu hm
theorem WaX.ticks {s e : Nat} (h : WaX zs set V) (hb : bit set s = true) : WaX zs set (tickD zs V s e) := by
  unfold tickD
  split
  · exact h
  · split
    · refine h.quiet (fun f hf => ?_) rfl
      rcases List.mem_append.1 hf with y | y
      · exact .inl y
      · right; rw [(toL_mem y).2.2.2.2.1, Int.toNat_natCast]; exact hb
    · unfold tryX
      split
      · exact h
      · split
        · exact h.quiet (fun f hf => .inl hf) rfl
        · refine h.quiet (fun f hf => ?_) rfl
          have hf2 : f ∈ V.fly ++ (electL s e (attemptX zs.length s (aboveN (V.nd s) e)) zs.length ++ (hearsL zs s e (attemptX zs.length s (aboveN (V.nd s) e)) P0 (ansN s (V.nd s) (electF s e (attemptX zs.length s (aboveN (V.nd s) e))))).2) := hf
          rcases List.mem_append.1 hf2 with y | y
          · exact .inl y
          · right
            have hfs : f.f = (s : Int) := by
              rcases List.mem_append.1 y with z | z
              · unfold electL at z
                exact (toL_mem (List.mem_of_mem_eraseIdx z)).2.2.2.2.1
              · have gen : ∀ (L : List F9) (P : PL) (a : Int), f ∈ (hearsL zs s e a P L).2 → f.f = (s : Int) := by
                  intro L
                  induction L with
                  | nil => intro P a hz; cases hz
                  | cons g r ih =>
                    intro P a hz
                    unfold hearsL at hz
                    rcases List.mem_append.1 hz with q | q
                    · exact out_from f q
                    · exact ih _ a q
                exact gen _ _ _ z
            rw [hfs, Int.toNat_natCast]; exact hb
theorem WaI.tick {s : Nat} (hen : enoughB zs set = false) (hs : s < zs.length) (hb : bit set s = true) : ∀ (k e : Nat) (V : PX) (m : Nat), e + k ≤ 6 → WaI zs set d V → XI zs V m → (V.nd s).l ≠ -2 → m + 7 * k < 1000000 → WaI zs set d (tickX zs s k e V)
  | 0, _, _, _, _, h, _, _, _ => h
  | k + 1, e, V, m, hk, h, hX, hu, hm => by
    have h1 := h.ticks hX hen hs hb (e := e) (by omega) hu (by omega)
    have hX1 := hX.ticks hs (d := e) (by omega) hu (by omega)
    unfold tickX
    split
    · rename_i hup
      exact WaI.tick hen hs hb k (e + 1) _ (m + 7) (by omega) h1 hX1 (by unfold upN at hup; simpa using hup) (by omega)
    · exact h1
theorem WaX.tick {s : Nat} (hb : bit set s = true) : ∀ (k e : Nat) (V : PX), WaX zs set V → WaX zs set (tickX zs s k e V)
  | 0, _, _, h => h
  | k + 1, e, V, h => by
    have h1 := h.ticks (e := e) hb
    unfold tickX
    split
    · exact WaX.tick hb k (e + 1) _ h1
    · exact h1
end
def Fz (zs : List Int) (set : Int) (d : Nat) (V : PX) : Prop := ∃ i, i < zs.length ∧ bit set i = true ∧ finB (stN (V.nd i) d).ph = true
def isEl (d q : Nat) (A : Int) (i : Nat) (f : F9) : Prop := f.f = (q : Int) ∧ f.t = (i : Int) ∧ f.d = (d : Int) ∧ f.k = 3 ∧ f.a = A
def isTe (d q : Nat) (A : Int) (i : Nat) (f : F9) : Prop := f.f = (i : Int) ∧ f.t = (q : Int) ∧ f.d = (d : Int) ∧ f.k = 4 ∧ f.a = A ∧ f.y = true
def isPr (d q : Nat) (A v : Int) (i : Nat) (f : F9) : Prop := f.f = (q : Int) ∧ f.t = (i : Int) ∧ f.d = (d : Int) ∧ f.k = 5 ∧ f.a = A ∧ f.ph = v
def isAk (d q : Nat) (A : Int) (i : Nat) (f : F9) : Prop := f.f = (i : Int) ∧ f.t = (q : Int) ∧ f.d = (d : Int) ∧ f.k = 6 ∧ f.a = A ∧ f.y = true
def AskE (zs : List Int) (set : Int) (d q : Nat) (A : Int) (V : PX) : Prop :=
  (∃ P, (V.nd q).ld d = some (A, P) ∧ P.stt = 0 ∧ enoughB zs P.ans = false ∧ ∀ i, i < zs.length → bit set i = true → bit P.ans i = true ∨ (∃ f, f ∈ V.fly ∧ isEl d q A i f) ∨ ∃ f, f ∈ V.fly ∧ isTe d q A i f) ∧
  (∀ f i, f ∈ V.fly → i < zs.length → bit set i = true → isEl d q A i f → ((stN (V.nd i) d).pr : Int) < A) ∧
  (∀ f, f ∈ V.fly → f.d = (d : Int) → bit set f.f.toNat = true → f.k = 5 → f.a ≠ A) ∧
  ∀ f, f ∈ V.fly → f.d = (d : Int) → f.t = (q : Int) → bit set f.f.toNat = true → f.k = 4 → f.a = A → f.y = true
def PreE (zs : List Int) (set : Int) (d q : Nat) (A : Int) (V : PX) : Prop :=
  ∃ P, (V.nd q).ld d = some (A, P) ∧ P.stt = 1 ∧ (P.prep = 4 ∨ P.prep = 5) ∧ enoughB zs P.ans = false ∧ ∀ i, i < zs.length → bit set i = true → bit P.ans i = true ∨ (∃ f, f ∈ V.fly ∧ isPr d q A P.prep i f) ∨ ∃ f, f ∈ V.fly ∧ isAk d q A i f
def DecE (d q : Nat) (V : PX) : Prop := ∃ f, f ∈ V.fly ∧ f.f = (q : Int) ∧ f.t = (q : Int) ∧ f.d = (d : Int) ∧ f.k = 7 ∧ (f.ph = 2 ∨ f.ph = 3)
structure EnI (zs : List Int) (set : Int) (d q : Nat) (A : Int) (V : PX) : Prop where
  up : ∀ i, i < zs.length → bit set i = true → (V.nd i).l = -1
  br : ∀ a b, a < zs.length → b < zs.length → a ≠ b → (brX V a b = true ↔ ¬ (bit set a = true ∧ bit set b = true))
  pr : ∀ i, i < zs.length → bit set i = true → ((stN (V.nd i) d).pr : Int) ≤ A
  el : ∀ f, f ∈ V.fly → f.d = (d : Int) → bit set f.f.toNat = true → (f.k = 3 ∨ f.k = 5) → f.a ≤ A ∧ (f.a = A → f.f = (q : Int))
  e1 : V.fly.Pairwise fun f g => ∀ i, ¬ (isEl d q A i f ∧ isEl d q A i g)
  nk : ∀ f, f ∈ V.fly → f.d = (d : Int) → f.t = (q : Int) → bit set f.f.toNat = true → f.k = 6 → f.a = A → f.y = false → Fz zs set d V
  ld : ∀ i x, i < zs.length → bit set i = true → (V.nd i).ld d = some x → x.1 ≤ A ∧ (x.1 = A → i = q)
  main : Fz zs set d V ∨ AskE zs set d q A V ∨ PreE zs set d q A V ∨ DecE d q V
section
variable {zs : List Int} {set : Int} {d q m : Nat} {A : Int} {V V' : PX} {f : F9} {rest : List F9}
theorem EnI.done (h : EnI zs set d q A V) (he : errW zs = 0) (hen : enoughB zs set = true) (hf : V.fly = []) : Fz zs set d V := by
  have no : ∀ {p : F9 → Prop}, ¬ ∃ f, f ∈ V.fly ∧ p f := by
    rintro p ⟨f, h1, -⟩
    rw [hf] at h1
    cases h1
  rcases h.main with x | ⟨⟨P, -, -, x, y⟩, -⟩ | ⟨P, -, -, -, x, y⟩ | x
  · exact x
  · have : enoughB zs set = false := enough_sub he (fun i hi hb => by
      rcases y i hi hb with z | z | z
      · exact z
      · exact absurd z no
      · exact absurd z no) x
    rw [hen] at this; cases this
  · have : enoughB zs set = false := enough_sub he (fun i hi hb => by
      rcases y i hi hb with z | z | z
      · exact z
      · exact absurd z no
      · exact absurd z no) x
    rw [hen] at this; cases this
  · exact absurd x no
def witE (d q : Nat) (A : Int) (g : F9) : Prop := g.d = (d : Int) ∧ ((g.t = (q : Int) ∧ g.a = A ∧ (g.k = 4 ∨ g.k = 6)) ∨ (g.f = (q : Int) ∧ g.a = A ∧ (g.k = 3 ∨ g.k = 5)) ∨ (g.f = (q : Int) ∧ g.t = (q : Int) ∧ g.k = 7))
def calmE (set : Int) (d : Nat) (A : Int) (g : F9) : Prop := g.d ≠ (d : Int) ∨ bit set g.f.toNat = false ∨ g.k = 1 ∨ g.k = 2 ∨ g.k = 7 ∨ (g.k = 5 ∧ g.a < A)
theorem EnI.other (h : EnI zs set d q A V) (hq : q < zs.length) (hbq : bit set q = true) (hfl : ∀ g, g ∈ V'.fly → g ∈ V.fly ∨ calmE set d A g) (hpw : V'.fly.Pairwise fun f g => ∀ i, ¬ (isEl d q A i f ∧ isEl d q A i g))
    (hkeep : ∀ g i, g ∈ V.fly → witE d q A g → ((V.nd q).ld d ≠ none ∨ g.k = 7) → i < zs.length → bit set i = true → g.t = (i : Int) → bit set g.f.toNat = true → g ∈ V'.fly)
    (hnd : ∀ i, i < zs.length → bit set i = true → (V'.nd i).l = (V.nd i).l ∧ stN (V'.nd i) d = stN (V.nd i) d) (hlq : (V'.nd q).ld d = (V.nd q).ld d)
    (hld : ∀ i x, i < zs.length → bit set i = true → (V'.nd i).ld d = some x → ∃ y, (V.nd i).ld d = some y ∧ y.1 = x.1) (hbr : V'.br = V.br) : EnI zs set d q A V' := by
  have hFz : Fz zs set d V → Fz zs set d V' := by
    rintro ⟨i, h1, h2, h3⟩
    exact ⟨i, h1, h2, by rw [(hnd i h1 h2).2]; exact h3⟩
  have old : ∀ g, g ∈ V'.fly → g.d = (d : Int) → bit set g.f.toNat = true → (g.k = 3 ∨ g.k = 4 ∨ g.k = 6) → g ∈ V.fly := fun g hg hd hb hk => by
    rcases hfl g hg with x | x | x | x | x | x | x
    · exact x
    · exact absurd hd x
    · rw [hb] at x; cases x
    all_goals omega
  have bq : bit set ((q : Int).toNat) = true := by rw [Int.toNat_natCast]; exact hbq
  have bi : ∀ i, bit set i = true → bit set ((i : Int).toNat) = true := fun i hb => by rw [Int.toNat_natCast]; exact hb
  refine ⟨fun i hi hb => by rw [(hnd i hi hb).1]; exact h.up i hi hb, fun a b ha hb hab => ?_, fun i hi hb => by rw [(hnd i hi hb).2]; exact h.pr i hi hb, fun g hg hd hb hk => ?_,
    hpw, fun g hg hd ht hb hk ha hy => hFz (h.nk g (old g hg hd hb (.inr (.inr hk))) hd ht hb hk ha hy), fun i x hi hb hx => ?_, ?_⟩
  · have := h.br a b ha hb hab
    unfold brX at this ⊢
    rw [hbr]; exact this
  · rcases hfl g hg with x | x | x | x | x | x | x
    · exact h.el g x hd hb hk
    · exact absurd hd x
    · rw [hb] at x; cases x
    · omega
    · omega
    · omega
    · exact ⟨by omega, fun e => by omega⟩
  · obtain ⟨y, y1, y2⟩ := hld i x hi hb hx
    rw [← y2]
    exact h.ld i y hi hb y1
  · rcases h.main with x | ⟨⟨P, x1, x2, x3, x4⟩, x5, x6, x7⟩ | ⟨P, x1, x2, x3, x4, x5⟩ | ⟨g, x1, x2, x3, x4, x5⟩
    · exact .inl (hFz x)
    · have hnn : (V.nd q).ld d ≠ none := by rw [x1]; exact fun e => by cases e
      refine .inr (.inl ⟨⟨P, by rw [hlq]; exact x1, x2, x3, fun i hi hb => ?_⟩, fun g i hg hi hb hE => ?_, fun g hg hd hb hk => ?_, fun g hg hd ht hb hk => x7 g (old g hg hd hb (.inr (.inl hk))) hd ht hb hk⟩)
      · rcases x4 i hi hb with y | ⟨g, y1, y2⟩ | ⟨g, y1, y2⟩
        · exact .inl y
        · exact .inr (.inl ⟨g, hkeep g i y1 ⟨y2.2.2.1, .inr (.inl ⟨y2.1, y2.2.2.2.2, .inl y2.2.2.2.1⟩)⟩ (.inl hnn) hi hb y2.2.1 (by rw [y2.1]; exact bq), y2⟩)
        · exact .inr (.inr ⟨g, hkeep g q y1 ⟨y2.2.2.1, .inl ⟨y2.2.1, y2.2.2.2.2.1, .inl y2.2.2.2.1⟩⟩ (.inl hnn) hq hbq y2.2.1 (by rw [y2.1]; exact bi i hb), y2⟩)
      · rw [(hnd i hi hb).2]
        exact x5 g i (old g hg hE.2.2.1 (by rw [hE.1]; exact bq) (.inl hE.2.2.2.1)) hi hb hE
      · rcases hfl g hg with x | x | x | x | x | x | x
        · exact x6 g x hd hb hk
        · exact absurd hd x
        · rw [hb] at x; cases x
        all_goals omega
    · have hnn : (V.nd q).ld d ≠ none := by rw [x1]; exact fun e => by cases e
      refine .inr (.inr (.inl ⟨P, by rw [hlq]; exact x1, x2, x3, x4, fun i hi hb => ?_⟩))
      rcases x5 i hi hb with y | ⟨g, y1, y2⟩ | ⟨g, y1, y2⟩
      · exact .inl y
      · exact .inr (.inl ⟨g, hkeep g i y1 ⟨y2.2.2.1, .inr (.inl ⟨y2.1, y2.2.2.2.2.1, .inr y2.2.2.2.1⟩)⟩ (.inl hnn) hi hb y2.2.1 (by rw [y2.1]; exact bq), y2⟩)
      · exact .inr (.inr ⟨g, hkeep g q y1 ⟨y2.2.2.1, .inl ⟨y2.2.1, y2.2.2.2.2.1, .inr y2.2.2.2.1⟩⟩ (.inl hnn) hq hbq y2.2.1 (by rw [y2.1]; exact bi i hb), y2⟩)
    · exact .inr (.inr (.inr ⟨g, hkeep g q x1 ⟨x4, .inr (.inr ⟨x2, x3, x5.1⟩)⟩ (.inr x5.1) hq hbq x3 (by rw [x2]; exact bq), x2, x3, x4, x5⟩))
theorem hear_free {n : Nat} {N : PN} (hN : NI n N m) (hl : N.l = -1) (hF : FI n f) (hm : m < 1000000) : (oHN N f).c = 0 ∧ (hearN N f).l = -1 ∧ (hearN N f).ld = N.ld := by
  have hu : N.l ≠ -2 := by rw [hl]; decide
  have hh := hearN_hf hN hu hF (by omega)
  have hd6 : 0 ≤ f.d ∧ f.d ≤ 5 := hF.ok.2.2.1
  obtain ⟨dd, hdd⟩ := Int.eq_ofNat_of_zero_le hd6.1
  have hdi : f.d.toNat = dd := by rw [hdd]; exact Int.toNat_natCast dd
  have hfree := put_free (B := N.B) (d := dd) (s := (gHN N f).st) (by have := hN.sz; omega) (by omega) (by have := hN.nm dd (by omega); have h2 : (dealL N.B.data.toList dd).1 ≤ m := this; omega)
  have hput : oHN N f = putIn (dealL N.B.data.toList) N.B (-1) dd (gHN N f).st := by
    unfold oHN
    rw [hN.up hu, hl, hdi]
    unfold pOut
    rw [if_neg (by decide), if_pos ⟨by omega, good_fits hh.good⟩]
    simp only [Int.toNat_natCast]
    rfl
  have hc : (oHN N f).c = 0 := by rw [hput]; exact hfree.1
  refine ⟨hc, ?_, hh.ld hc⟩
  unfold hearN
  rw [if_neg (by omega)]
  show (oHN N f).l = -1
  rw [hput]; exact hfree.2
theorem pair_tail {R : F9 → F9 → Prop} (hf : V.fly = f :: rest) (h : V.fly.Pairwise R) : (∀ g, g ∈ rest → R f g) ∧ rest.Pairwise R := by
  rw [hf, List.pairwise_cons] at h
  exact h
theorem pair_app {L : List F9} (h : rest.Pairwise fun f g => ∀ i, ¬ (isEl d q A i f ∧ isEl d q A i g)) (hL : ∀ g, g ∈ L → ∀ i, ¬ isEl d q A i g) : (rest ++ L).Pairwise fun f g => ∀ i, ¬ (isEl d q A i f ∧ isEl d q A i g) := by
  rw [List.pairwise_append]
  refine ⟨h, ?_, fun a _ b hb i hi => hL b hb i hi.2⟩
  refine List.Pairwise.imp_of_mem (R := fun _ _ => True) (fun {a b} _ hb _ i hi => hL b hb i hi.2) ?_
  exact List.pairwise_of_forall (fun _ _ => trivial)
theorem bit_set {n : Nat} {a : Int} {j i : Nat} (hn : n ≤ 7) (h0 : 0 ≤ a) (h1 : a < 2 ^ n) (hj : j < n) : bit (ansS a j) i = (bit a i || decide (j = i)) := by
  have hp := (pow_le7 hn).1
  obtain ⟨k, rfl⟩ := Int.eq_ofNat_of_zero_le h0
  have h3 : (2 : Nat) ^ j < 9223372036854775808 := Nat.lt_of_lt_of_le (Nat.pow_lt_pow_right (by decide) (Nat.lt_of_lt_of_le hj hn)) (by decide)
  unfold ansS
  rw [pow_nat j, bits_or_nat k (2 ^ j) (by omega) h3]
  unfold bit
  rw [Int.toNat_natCast, Int.toNat_natCast, Nat.testBit_or, Nat.testBit_two_pow]
theorem toL_has {id : Nat} {deal kind att ph : Int} {i : Nat} : ∀ {n : Nat}, i < n → (⟨id, i, deal, kind, att, false, ph, 0, 0⟩ : F9) ∈ toL id deal kind att ph n
  | 0, h => absurd h (Nat.not_lt_zero _)
  | n + 1, h => by
    rw [toL, List.mem_append]
    rcases Nat.lt_succ_iff_lt_or_eq.1 h with x | rfl
    · exact .inl (toL_has x)
    · exact .inr (List.mem_singleton.2 rfl)
theorem enough_none (he : errW zs = 0) : enoughB zs 0 = false := by
  have h4 := (errW_zero he).2.2.2
  have h3 := psum_bd (errW_zero he).2.2.1
  have hs : ∀ k, sumTo zs 0 k = 0 := by
    intro k
    induction k with
    | zero => rfl
    | succ k ih => unfold sumTo; rw [ih, bit_zero]; rfl
  unfold enoughB
  rw [hs]
  refine decide_eq_false ?_
  unfold tot at h4 ⊢
  omega
theorem EnI.reach (h : EnI zs set d q A V) (hF : FI zs.length f) (hf : bit set f.f.toNat = true) (ht : bit set f.t.toNat = true) : reachB V f = true := by
  have f0 := hF.f0; have f1 := hF.f1; have t0 := hF.t0; have t1 := hF.t1
  unfold reachB upN
  rw [h.up _ (by omega) ht]
  by_cases e : f.f = f.t
  · rw [e]; simp
  · have hne : f.f.toNat ≠ f.t.toNat := by omega
    have := h.br f.f.toNat f.t.toNat (by omega) (by omega) hne
    cases hb : brX V f.f.toNat f.t.toNat with
    | true => exact absurd ⟨hf, ht⟩ (this.1 hb)
    | false => simp
theorem EnI.from (h : EnI zs set d q A V) (hF : FI zs.length f) (hr : reachB V f = true) (ht : bit set f.t.toNat = true) : bit set f.f.toNat = true := by
  have f0 := hF.f0; have f1 := hF.f1; have t0 := hF.t0; have t1 := hF.t1
  unfold reachB at hr
  rw [Bool.and_eq_true, Bool.or_eq_true] at hr
  rcases hr.2 with e | e
  · rw [eq_of_beq e]; exact ht
  · cases hb : bit set f.f.toNat with
    | true => rfl
    | false =>
      have hne : f.f.toNat ≠ f.t.toNat := fun x => by rw [x, ht] at hb; cases hb
      rw [(h.br f.f.toNat f.t.toNat (by omega) (by omega) hne).2 (fun x => by rw [hb] at x; cases x.1)] at e
      cases e
end
section
variable {zs : List Int} {set : Int} {d q m : Nat} {A : Int} {V V' : PX} {f : F9} {rest : List F9}
theorem EnI.leadQ {x : Int × PL} (h : EnI zs set d q A V) (hX : XI zs V m) (hq : q < zs.length) (hbq : bit set q = true) (hA : 0 < A) (hfl : V.fly = f :: rest) (hd : f.d = (d : Int)) (ht : f.t = (q : Int)) (hbf : bit set f.f.toNat = true) (hk : f.k = 2 ∨ f.k = 4 ∨ f.k = 6) (hx : (V.nd q).ld d = some x) :
    EnI zs set d q A (sendX (setNd (takeX V 0) q (setLd ((takeX V 0).nd q) d (x.1, (phear zs q d x.1 x.2 f).1))) (outL q d x.1 zs.length (phear zs q d x.1 x.2 f).2)) := by
  have he := hX.he
  have hn := (errW_zero he).2.1
  have hmem : f ∈ V.fly := by rw [hfl]; exact List.mem_cons_self
  have hF := hX.fr f hmem
  have f0 := hF.f0; have f1 := hF.f1
  have hpt := pair_tail hfl h.e1
  have hin : ∀ g, g ∈ rest → g ∈ V.fly := fun g hg => by rw [hfl]; exact List.mem_cons_of_mem _ hg
  have hout : ∀ g, g ∈ V.fly → g ≠ f → g ∈ rest := fun g hg hne => by
    rw [hfl] at hg
    rcases List.mem_cons.1 hg with e | e
    · exact absurd e hne
    · exact e
  have hr0 : V.fly.eraseIdx 0 = rest := by rw [hfl]; rfl
  have hPW := ((hX.nd q hq).ld d x hx).2.2.2.2
  obtain ⟨att, P⟩ := x
  simp only at hPW ⊢
  have hlq := h.ld q (att, P) hq hbq hx
  have bq : bit set ((q : Int).toNat) = true := by rw [Int.toNat_natCast]; exact hbq
  -- what does not turn, whatever the lead makes of it
  have key : ∀ R : PL × Option (Int × Int), (∀ g, g ∈ outL q d att zs.length R.2 → g.k = 5 ∨ g.k = 7) →
      (Fz zs set d V ∨ AskE zs set d q A (sendX (setNd (takeX V 0) q (setLd ((takeX V 0).nd q) d (att, R.1))) (outL q d att zs.length R.2)) ∨ PreE zs set d q A (sendX (setNd (takeX V 0) q (setLd ((takeX V 0).nd q) d (att, R.1))) (outL q d att zs.length R.2)) ∨ DecE d q (sendX (setNd (takeX V 0) q (setLd ((takeX V 0).nd q) d (att, R.1))) (outL q d att zs.length R.2))) →
      EnI zs set d q A (sendX (setNd (takeX V 0) q (setLd ((takeX V 0).nd q) d (att, R.1))) (outL q d att zs.length R.2)) := by
    intro R hR hmain
    have hst : ∀ k e, stN ((sendX (setNd (takeX V 0) q (setLd ((takeX V 0).nd q) d (att, R.1))) (outL q d att zs.length R.2)).nd k) e = stN (V.nd k) e := fun k e => setLd_st (takeX V 0) q d _ k e
    have hFz : Fz zs set d V → Fz zs set d (sendX (setNd (takeX V 0) q (setLd ((takeX V 0).nd q) d (att, R.1))) (outL q d att zs.length R.2)) := by
      rintro ⟨i, h1, h2, h3⟩
      exact ⟨i, h1, h2, by rw [hst]; exact h3⟩
    have hmf : ∀ g, g ∈ (sendX (setNd (takeX V 0) q (setLd ((takeX V 0).nd q) d (att, R.1))) (outL q d att zs.length R.2)).fly → g ∈ rest ∨ g ∈ outL q d att zs.length R.2 := fun g hg => by
      have hg2 : g ∈ V.fly.eraseIdx 0 ++ outL q d att zs.length R.2 := hg
      rw [hr0] at hg2
      exact List.mem_append.1 hg2
    refine ⟨fun i hi hb => ?_, h.br, fun i hi hb => by rw [hst]; exact h.pr i hi hb, fun g hg hgd hgb hgk => ?_, ?_, fun g hg hgd hgt hgb hgk hga hgy => ?_, fun i y hi hb hy => ?_, ?_⟩
    · show ((setNd (takeX V 0) q (setLd ((takeX V 0).nd q) d (att, R.1))).nd i).l = -1
      by_cases e : i = q
      · subst e; rw [nd_at]; exact h.up i hi hb
      · rw [nd_ne _ _ _ e]; exact h.up i hi hb
    · rcases hmf g hg with y | y
      · exact h.el g (hin g y) hgd hgb hgk
      · have ho := out_from g y
        cases hR2 : R.2 with
        | none => rw [hR2] at y; cases y
        | some z =>
          rw [hR2] at y
          have hm2 := toL_mem y
          rw [hm2.2.1, ho]
          exact ⟨hlq.1, fun _ => rfl⟩
    · show (V.fly.eraseIdx 0 ++ outL q d att zs.length R.2).Pairwise _
      rw [hr0]
      exact pair_app hpt.2 fun g hg i hi => by have := hR g hg; have := hi.2.2.2.1; omega
    · rcases hmf g hg with y | y
      · exact hFz (h.nk g (hin g y) hgd hgt hgb hgk hga hgy)
      · have := hR g y; omega
    · have hy2 : ((setNd (takeX V 0) q (setLd ((takeX V 0).nd q) d (att, R.1))).nd i).ld d = some y := hy
      by_cases e : i = q
      · subst e; rw [nd_at, ld_at] at hy2; cases hy2; exact ⟨hlq.1, fun _ => rfl⟩
      · rw [nd_ne _ _ _ e] at hy2; exact h.ld i y hi hb hy2
    · rcases hmain with z | z | z | z
      · exact .inl (hFz z)
      · exact .inr (.inl z)
      · exact .inr (.inr (.inl z))
      · exact .inr (.inr (.inr z))
  have hkinds : ∀ g, g ∈ outL q d att zs.length (phear zs q d att P f).2 → g.k = 5 ∨ g.k = 7 := by
    intro g hg
    cases hp : (phear zs q d att P f).2 with
    | none => rw [hp] at hg; cases hg
    | some z =>
      rw [hp] at hg
      have h1 := (phear_out hp).1
      have h2 := (toL_mem hg).1
      omega
  refine key _ hkinds ?_
  rcases h.main with z | ⟨⟨P', x1, x2, x3, x4⟩, x5, x6, x7⟩ | ⟨P', x1, x2, x3, x4, x5⟩ | ⟨g, x1, x2, x3, x4, x5, x6⟩
  · exact .inl z
  · -- it asks
    rw [hx] at x1
    cases x1
    have hcont : ∀ Q : PL, Q.stt = 0 → enoughB zs Q.ans = false → (∀ i, i < zs.length → bit P.ans i = true → bit Q.ans i = true) → (∀ i, i < zs.length → isTe d q A i f → bit Q.ans i = true) →
        AskE zs set d q A (sendX (setNd (takeX V 0) q (setLd ((takeX V 0).nd q) d (A, Q))) (outL q d A zs.length none)) := by
      intro Q h1 h2 h3 h4
      have hfly : (sendX (setNd (takeX V 0) q (setLd ((takeX V 0).nd q) d (A, Q))) (outL q d A zs.length none)).fly = rest := by
        show V.fly.eraseIdx 0 ++ [] = rest
        rw [hr0, List.append_nil]
      refine ⟨⟨Q, ?_, h1, h2, fun i hi hb => ?_⟩, fun g i hg hi hb hE => ?_, fun g hg => ?_, fun g hg => ?_⟩
      · show ((setNd (takeX V 0) q (setLd ((takeX V 0).nd q) d (A, Q))).nd q).ld d = _
        rw [nd_at, ld_at]
      · rw [hfly]
        rcases x4 i hi hb with y | ⟨g, y1, y2⟩ | ⟨g, y1, y2⟩
        · exact .inl (h3 i hi y)
        · exact .inr (.inl ⟨g, hout g y1 (fun e => by rw [e] at y2; have := y2.2.2.2.1; omega), y2⟩)
        · by_cases e : g = f
          · rw [e] at y2; exact .inl (h4 i hi y2)
          · exact .inr (.inr ⟨g, hout g y1 e, y2⟩)
      · rw [hfly] at hg
        rw [show stN ((sendX (setNd (takeX V 0) q (setLd ((takeX V 0).nd q) d (A, Q))) (outL q d A zs.length none)).nd i) d = stN (V.nd i) d from setLd_st (takeX V 0) q d _ i d]
        exact x5 g i (hin g hg) hi hb hE
      · rw [hfly] at hg; exact x6 g (hin g hg)
      · rw [hfly] at hg; exact x7 g (hin g hg)
    by_cases htk : takesB zs.length q d A P f = true
    · obtain ⟨⟨-, -, ea⟩, hwt, -, -⟩ := takesB_in htk
      have ek : f.k = 4 := by
        rcases waitsY hwt with ⟨_, _, y⟩ | ⟨y, _, _⟩ | ⟨_, y⟩
        · omega
        · exact y
        · omega
      have ey := x7 f hmem hd ht hbf ek ea
      have hp : phear zs q d A P f = tellP zs (seeP (noteP P f) f.pr) f.f.toNat ⟨f.ph, f.pr, f.pa⟩ := by
        unfold phear
        rw [if_pos htk]
        unfold takenP
        rw [if_neg (by omega), if_neg (by rw [ey]; decide), if_pos ek]
      obtain ⟨q1, q2, -, -⟩ := seeP_of (noteP P f) f.pr
      rw [hp]
      generalize seeP (noteP P f) f.pr = Q at *
      have hQa : Q.ans = ansS P.ans f.f.toNat := q2
      have hQs : Q.stt = 0 := by rw [q1]; exact x2
      unfold tellP
      cases hen : enoughB zs Q.ans with
      | false =>
        rw [if_pos rfl]
        refine .inr (.inl (hcont _ hQs hen (fun i _ hb => ?_) (fun i _ hte => ?_)))
        · show bit Q.ans i = true
          rw [hQa, bit_set hn hPW.lo hPW.hi (by omega), hb, Bool.true_or]
        · show bit Q.ans i = true
          have e1 : f.f.toNat = i := by rw [hte.1]; exact Int.toNat_natCast i
          rw [hQa, bit_set hn hPW.lo hPW.hi (by omega), decide_eq_true e1, Bool.or_true]
      | true =>
        rw [if_neg (by decide)]
        generalize hC : chooseL (toldS Q.told f.f.toNat ⟨f.ph, f.pr, f.pa⟩) = c
        obtain ⟨cp, cf⟩ := c
        cases cf with
        | true =>
          rw [if_pos rfl]
          refine .inr (.inr (.inr ⟨⟨q, q, d, 7, A, false, cp, 0, 0⟩, ?_, rfl, rfl, rfl, rfl, (choose_fin hC).1⟩))
          show _ ∈ V.fly.eraseIdx 0 ++ toL q d 7 A cp zs.length
          exact List.mem_append.2 (.inr (toL_has hq))
        | false =>
          rw [if_neg (by simp)]
          refine .inr (.inr (.inl ⟨{ Q with told := toldS Q.told f.f.toNat ⟨f.ph, f.pr, f.pa⟩, stt := 1, prep := cp, ans := 0 }, ?_, rfl, (choose_pre hC).1, enough_none he, fun i hi _ => .inr (.inl ⟨⟨q, i, d, 5, A, false, cp, 0, 0⟩, ?_, rfl, rfl, rfl, rfl, rfl, rfl⟩)⟩))
          · show ((setNd (takeX V 0) q (setLd ((takeX V 0).nd q) d _)).nd q).ld d = _
            rw [nd_at, ld_at]
            rfl
          · show _ ∈ V.fly.eraseIdx 0 ++ toL q d 5 A cp zs.length
            exact List.mem_append.2 (.inr (toL_has hi))
    · have hp : phear zs q d A P f = (P, none) := by unfold phear; rw [if_neg htk]
      rw [hp]
      refine .inr (.inl (hcont P x2 x3 (fun _ _ y => y) (fun i hi hte => ?_)))
      cases hbi : bit P.ans i with
      | true => rfl
      | false =>
        exfalso
        refine htk ?_
        unfold takesB waitsB
        have e1 : f.f.toNat = i := by rw [hte.1]; exact Int.toNat_natCast i
        rw [decide_eq_true (show f.t = (q : Int) ∧ f.d = (d : Int) ∧ f.a = A from ⟨hte.2.1, hte.2.2.1, hte.2.2.2.2.1⟩), hte.2.2.2.1, x2, decide_eq_true hA, decide_eq_true (show 0 ≤ f.f ∧ f.f < zs.length from ⟨f0, f1⟩), e1, hbi]
        rfl
  · -- it prepares
    rw [hx] at x1
    cases x1
    have hcont : ∀ Q : PL, Q.stt = 1 → Q.prep = P.prep → enoughB zs Q.ans = false → (∀ i, i < zs.length → bit P.ans i = true → bit Q.ans i = true) → (∀ i, i < zs.length → isAk d q A i f → bit Q.ans i = true) →
        PreE zs set d q A (sendX (setNd (takeX V 0) q (setLd ((takeX V 0).nd q) d (A, Q))) (outL q d A zs.length none)) := by
      intro Q h1 hpp h2 h3 h4
      have hfly : (sendX (setNd (takeX V 0) q (setLd ((takeX V 0).nd q) d (A, Q))) (outL q d A zs.length none)).fly = rest := by
        show V.fly.eraseIdx 0 ++ [] = rest
        rw [hr0, List.append_nil]
      refine ⟨Q, ?_, h1, by rw [hpp]; exact x3, h2, fun i hi hb => ?_⟩
      · show ((setNd (takeX V 0) q (setLd ((takeX V 0).nd q) d (A, Q))).nd q).ld d = _
        rw [nd_at, ld_at]
      · rw [hfly, hpp]
        rcases x5 i hi hb with y | ⟨g, y1, y2⟩ | ⟨g, y1, y2⟩
        · exact .inl (h3 i hi y)
        · exact .inr (.inl ⟨g, hout g y1 (fun e => by rw [e] at y2; have := y2.2.2.2.1; omega), y2⟩)
        · by_cases e : g = f
          · rw [e] at y2; exact .inl (h4 i hi y2)
          · exact .inr (.inr ⟨g, hout g y1 e, y2⟩)
    by_cases htk : takesB zs.length q d A P f = true
    · obtain ⟨⟨-, -, ea⟩, hwt, -, -⟩ := takesB_in htk
      have ek : f.k = 6 := by
        rcases waitsY hwt with ⟨_, y, _⟩ | ⟨_, y, _⟩ | ⟨y, _⟩
        · omega
        · omega
        · exact y
      cases ey : f.y with
      | false => exact .inl (h.nk f hmem hd ht hbf ek ea ey)
      | true =>
        have hp : phear zs q d A P f = ackP zs (seeP (noteP P f) f.pr) := by
          unfold phear
          rw [if_pos htk]
          unfold takenP
          rw [if_neg (by omega), if_neg (by rw [ey]; decide), if_neg (by omega)]
        obtain ⟨q1, q2, -, q4⟩ := seeP_of (noteP P f) f.pr
        rw [hp]
        generalize seeP (noteP P f) f.pr = Q at *
        have hQa : Q.ans = ansS P.ans f.f.toNat := q2
        have hQs : Q.stt = 1 := by rw [q1]; exact x2
        have hQp : Q.prep = P.prep := q4
        unfold ackP
        cases hen : enoughB zs Q.ans with
        | false =>
          rw [if_pos rfl]
          refine .inr (.inr (.inl (hcont _ hQs hQp hen (fun i _ hb => ?_) (fun i _ hte => ?_))))
          · rw [hQa, bit_set hn hPW.lo hPW.hi (by omega), hb, Bool.true_or]
          · have e1 : f.f.toNat = i := by rw [hte.1]; exact Int.toNat_natCast i
            rw [hQa, bit_set hn hPW.lo hPW.hi (by omega), decide_eq_true e1, Bool.or_true]
        | true =>
          rw [if_neg (by decide)]
          refine .inr (.inr (.inr ⟨⟨q, q, d, 7, A, false, afterI Q.prep, 0, 0⟩, ?_, rfl, rfl, rfl, rfl, ?_⟩))
          · show _ ∈ V.fly.eraseIdx 0 ++ toL q d 7 A (afterI Q.prep) zs.length
            exact List.mem_append.2 (.inr (toL_has hq))
          · show afterI Q.prep = 2 ∨ afterI Q.prep = 3
            rw [hQp]
            unfold afterI
            rcases x3 with e | e <;> rw [e]
            · exact .inl rfl
            · exact .inr rfl
    · have hp : phear zs q d A P f = (P, none) := by unfold phear; rw [if_neg htk]
      rw [hp]
      refine .inr (.inr (.inl (hcont P x2 rfl x4 (fun _ _ y => y) (fun i hi hte => ?_))))
      cases hbi : bit P.ans i with
      | true => rfl
      | false =>
        exfalso
        refine htk ?_
        unfold takesB waitsB
        have e1 : f.f.toNat = i := by rw [hte.1]; exact Int.toNat_natCast i
        rw [decide_eq_true (show f.t = (q : Int) ∧ f.d = (d : Int) ∧ f.a = A from ⟨hte.2.1, hte.2.2.1, hte.2.2.2.2.1⟩), hte.2.2.2.1, x2, decide_eq_true (show 0 ≤ f.f ∧ f.f < zs.length from ⟨f0, f1⟩), e1, hbi]
        rfl
  · refine .inr (.inr (.inr ⟨g, ?_, x2, x3, x4, x5, x6⟩))
    show g ∈ V.fly.eraseIdx 0 ++ _
    rw [hr0]
    exact List.mem_append.2 (.inl (hout g x1 (fun e => by rw [e] at x5; omega)))
end
theorem hear_pr (s : St) (ref : Bool) (k a ph : Nat) : (hearL s ref k a ph).st.pr = s.pr ∨ ((k = 3 ∨ k = 5) ∧ s.pr ≤ a ∧ (hearL s ref k a ph).st.pr = a) := by
  unfold hearL
  repeat' split
  · exact .inl rfl
  · rename_i h; exact .inr ⟨.inl ‹_›, Nat.le_of_lt h, rfl⟩
  · exact .inl rfl
  · rename_i h; exact .inr ⟨.inr ‹_›, h.1, rfl⟩
  · exact .inl rfl
  · exact .inl rfl
  · exact .inl rfl
  · exact .inl rfl
  · exact .inl rfl
theorem hear_k4 (s : St) (ref : Bool) (k a ph : Nat) (h : (hearL s ref k a ph).k = 4) : k = 3 ∧ (hearL s ref k a ph).yes = decide (s.pr < a) := by
  revert h
  unfold hearL
  repeat' split
  all_goals simp
  · rename_i h1; exact ⟨‹_›, h1⟩
  · rename_i h1; exact ⟨‹_›, by omega⟩
theorem hear_k6 (s : St) (ref : Bool) (k a ph : Nat) (h : (hearL s ref k a ph).k = 6) (hy : (hearL s ref k a ph).yes = false) : k = 5 ∧ ¬ (s.pr ≤ a ∧ finB s.ph = false) := by
  revert h hy
  unfold hearL
  repeat' split
  all_goals simp
  rename_i h1
  refine ⟨‹_›, fun x => ?_⟩
  cases hq : finB s.ph with
  | true => rfl
  | false => exact absurd ⟨x, hq⟩ h1
theorem hear_ks (s : St) (ref : Bool) (k a ph : Nat) : (hearL s ref k a ph).k = 0 ∨ (hearL s ref k a ph).k = 2 ∨ (hearL s ref k a ph).k = 4 ∨ (hearL s ref k a ph).k = 6 := by
  unfold hearL
  repeat' split
  all_goals simp
section
variable {zs : List Int} {set : Int} {d q m : Nat} {A : Int} {V V' : PX} {f : F9} {rest : List F9}
theorem EnI.site {i : Nat} (h : EnI zs set d q A V) (hX : XI zs V m) (hm : m < 1000000) (hbq : bit set q = true) (hfl : V.fly = f :: rest) (hd : f.d = (d : Int)) (ht : f.t = (i : Int)) (hi : i < zs.length) (hbi : bit set i = true) (hbf : bit set f.f.toNat = true) (hk : isAns f.k = false) :
    EnI zs set d q A (sendX (hearX (takeX V 0) i f) (ansN i ((takeX V 0).nd i) f)) := by
  have hmem : f ∈ V.fly := by rw [hfl]; exact List.mem_cons_self
  have hF := hX.fr f hmem
  have f0 := hF.f0; have f1 := hF.f1
  have hok := hF.ok
  have ha0 : 0 ≤ f.a := hok.2.2.2.2.1.1
  have hp0 : 0 ≤ f.ph := hok.2.2.2.2.2.1.1
  have hk17 := hok.2.2.2.1
  have hX1 : XI zs (takeX V 0) m := hX.take
  have hl1 : ((takeX V 0).nd i).l = -1 := h.up i hi hbi
  have hu : ((takeX V 0).nd i).l ≠ -2 := by rw [hl1]; decide
  have hh := hearN_hf (hX1.nd i hi) hu hF (by omega)
  obtain ⟨hc, hlh, hldh⟩ := hear_free (hX1.nd i hi) hl1 hF hm
  have hdi : f.d.toNat = d := by rw [hd]; exact Int.toNat_natCast d
  have hkk : ¬ (f.k = 2 ∨ f.k = 4 ∨ f.k = 6) := of_decide_eq_false hk
  have hpt := pair_tail hfl h.e1
  have hin : ∀ g, g ∈ rest → g ∈ V.fly := fun g hg => by rw [hfl]; exact List.mem_cons_of_mem _ hg
  have hout : ∀ g, g ∈ V.fly → g ≠ f → g ∈ rest := fun g hg hne => by
    rw [hfl] at hg
    rcases List.mem_cons.1 hg with e | e
    · exact absurd e hne
    · exact e
  have hr0 : V.fly.eraseIdx 0 = rest := by rw [hfl]; rfl
  have bq : bit set ((q : Int).toNat) = true := by rw [Int.toNat_natCast]; exact hbq
  -- the states behind it
  have hst : ∀ j, stN ((hearX (takeX V 0) i f).nd j) d = if j = i then (gHN ((takeX V 0).nd i) f).st else stN (V.nd j) d := fun j => by
    have := congrFun (hearX_st (V := takeX V 0) (i := i) hh hc) j
    rw [hdi] at this
    exact this
  have hg : gHN ((takeX V 0).nd i) f = hearL (stN (V.nd i) d) ((V.nd i).R d) f.k.toNat f.a.toNat f.ph.toNat := by unfold gHN; rw [hdi]; rfl
  have hans : ∀ g, g ∈ ansN i ((takeX V 0).nd i) f → g = ansF i f (gHN ((takeX V 0).nd i) f) ∧ (gHN ((takeX V 0).nd i) f).k ≠ 0 := fun g hgm => by
    unfold ansN at hgm
    split at hgm
    · rename_i hcc
      rw [List.mem_singleton] at hgm
      exact ⟨hgm, hcc.2⟩
    · cases hgm
  have hansm : (gHN ((takeX V 0).nd i) f).k ≠ 0 → ansF i f (gHN ((takeX V 0).nd i) f) ∈ ansN i ((takeX V 0).nd i) f := fun hk0 => by
    unfold ansN
    rw [if_pos ⟨hc, hk0⟩]
    exact List.mem_singleton.2 rfl
  have hmay : mayN (stN (V.nd i) d).ph (gHN ((takeX V 0).nd i) f).st.ph := by
    have := hh.may
    rw [hdi] at this
    exact this
  have hWl : ∀ j, j < zs.length → bit set j = true → ((hearX (takeX V 0) i f).nd j).l = -1 := fun j hj hb => by
    show ((setNd (takeX V 0) i (hearN ((takeX V 0).nd i) f)).nd j).l = -1
    by_cases e : j = i
    · subst e; rw [nd_at]; exact hlh
    · rw [nd_ne _ _ _ e]; exact h.up j hj hb
  have hWd : ∀ j, ((hearX (takeX V 0) i f).nd j).ld = (V.nd j).ld := fun j => by
    show ((setNd (takeX V 0) i (hearN ((takeX V 0).nd i) f)).nd j).ld = _
    by_cases e : j = i
    · subst e; rw [nd_at]; exact hldh
    · rw [nd_ne _ _ _ e]; rfl
  have hWb : (hearX (takeX V 0) i f).br = V.br := rfl
  have hWf : (hearX (takeX V 0) i f).fly = rest := hr0
  clear hlh hldh
  generalize hearX (takeX V 0) i f = W at *
  generalize ansN i ((takeX V 0).nd i) f = L at *
  generalize hG : gHN ((takeX V 0).nd i) f = o at *
  have hpr := hear_pr (stN (V.nd i) d) ((V.nd i).R d) f.k.toNat f.a.toNat f.ph.toNat
  rw [← hg] at hpr
  have hks := hear_ks (stN (V.nd i) d) ((V.nd i).R d) f.k.toNat f.a.toNat f.ph.toNat
  rw [← hg] at hks
  have hok4 : o.k = 4 → f.k = 3 ∧ o.yes = decide ((stN (V.nd i) d).pr < f.a.toNat) := fun e => by
    rw [hg] at e ⊢
    have := hear_k4 _ _ _ _ _ e
    exact ⟨by omega, this.2⟩
  have hok6 : o.k = 6 → o.yes = false → f.k = 5 ∧ ¬ ((stN (V.nd i) d).pr ≤ f.a.toNat ∧ finB (stN (V.nd i) d).ph = false) := fun e e2 => by
    rw [hg] at e e2
    have := hear_k6 _ _ _ _ _ e e2
    exact ⟨by omega, this.2⟩
  have hFz : Fz zs set d V → Fz zs set d (sendX W L) := by
    rintro ⟨j, h1, h2, h3⟩
    refine ⟨j, h1, h2, ?_⟩
    show finB (stN (W.nd j) d).ph = true
    rw [hst]
    split
    · rename_i e
      subst e
      have := of_decide_eq_true h3
      refine decide_eq_true ?_
      unfold mayN at hmay
      omega
    · exact h3
  have hFi : finB o.st.ph = true → Fz zs set d (sendX W L) := fun e => ⟨i, hi, hbi, by show finB (stN (W.nd i) d).ph = true; rw [hst, if_pos rfl]; exact e⟩
  have hmf : ∀ g, g ∈ (sendX W L).fly → g ∈ rest ∨ (g = ansF i f o ∧ o.k ≠ 0) := fun g hgm => by
    have hg2 : g ∈ W.fly ++ L := hgm
    rw [hWf] at hg2
    rcases List.mem_append.1 hg2 with y | y
    · exact .inl y
    · exact .inr (hans g y)
  have hkeep : ∀ g, g ∈ V.fly → g ≠ f → g ∈ (sendX W L).fly := fun g hgm hne => by
    show g ∈ W.fly ++ L
    rw [hWf]
    exact List.mem_append.2 (.inl (hout g hgm hne))
  have hnew : o.k ≠ 0 → ansF i f o ∈ (sendX W L).fly := fun hk0 => List.mem_append.2 (.inr (hansm hk0))
  have hel := h.el f hmem hd hbf
  refine ⟨hWl, fun a b ha hb hab => ?_, fun j hj hb => ?_, fun g hgm hgd hgb hgk => ?_, ?_, fun g hgm hgd hgt hgb hgk hga hgy => ?_, fun j x hj hb hx => ?_, ?_⟩
  · have := h.br a b ha hb hab
    unfold brX at this ⊢
    show W.br _ _ = true ↔ _
    rw [hWb]; exact this
  · show ((stN (W.nd j) d).pr : Int) ≤ A
    rw [hst]
    split
    · rcases hpr with e | ⟨e1, e2, e3⟩
      · rw [e]; exact h.pr i hi hbi
      · have := (hel (by omega)).1; omega
    · exact h.pr j hj hb
  · rcases hmf g hgm with y | ⟨y, y2⟩
    · exact h.el g (hin g y) hgd hgb hgk
    · rw [y] at hgk
      have hz : (ansF i f o).k = (o.k : Int) := rfl
      omega
  · show (W.fly ++ L).Pairwise _
    rw [hWf]
    refine pair_app hpt.2 fun g hgm j hE => ?_
    have y := hans g hgm
    have hz : g.k = (o.k : Int) := by rw [y.1]; rfl
    have := hE.2.2.2.1
    omega
  · rcases hmf g hgm with y | ⟨y, y2⟩
    · exact hFz (h.nk g (hin g y) hgd hgt hgb hgk hga hgy)
    · subst y
      have hz : (o.k : Int) = 6 := hgk
      obtain ⟨e1, e2⟩ := hok6 (by omega) hgy
      have hle := h.pr i hi hbi
      have hga2 : f.a = A := hga
      refine hFz ⟨i, hi, hbi, ?_⟩
      cases hq2 : finB (stN (V.nd i) d).ph with
      | true => rfl
      | false => exact absurd ⟨by omega, hq2⟩ e2
  · exact h.ld j x hj hb (by rw [← hWd j]; exact hx)
  · rcases h.main with z | ⟨⟨P, x1, x2, x3, x4⟩, x5, x6, x7⟩ | ⟨P, x1, x2, x3, x4, x5⟩ | ⟨g, x1, x2, x3, x4, x5, x6⟩
    · exact .inl (hFz z)
    · -- the lead asks
      right; left
      have hEl : f.k = 3 → f.a = A → isEl d q A i f := fun e1 e2 => ⟨(hel (.inl e1)).2 e2, ht, hd, e1, e2⟩
      refine ⟨⟨P, by show (W.nd q).ld d = _; rw [hWd]; exact x1, x2, x3, fun j hj hb => ?_⟩, fun g j hgm hj hb hE => ?_, fun g hgm hgd hgb hgk => ?_, fun g hgm hgd hgt hgb hgk hga => ?_⟩
      · rcases x4 j hj hb with y | ⟨g, y1, y2⟩ | ⟨g, y1, y2⟩
        · exact .inl y
        · by_cases e : g = f
          · subst e
            have hji : j = i := by have := y2.2.1; omega
            subst hji
            have hlt := x5 g j hmem hj hb y2
            have e3 : g.k = 3 := y2.2.2.2.1
            have e4 : g.a = A := y2.2.2.2.2
            have ho : o = ⟨⟨(stN (V.nd j) d).ph, g.a.toNat, (stN (V.nd j) d).at_⟩, 4, true⟩ := by
              rw [hg, e3]
              unfold hearL
              rw [if_neg (by decide), if_pos (by decide), if_pos (by omega)]
            refine .inr (.inr ⟨ansF j g o, hnew (by rw [ho]; exact (by decide : (4 : Nat) ≠ 0)), rfl, y2.1, hd, by rw [ho]; rfl, e4, by rw [ho]; rfl⟩)
          · exact .inr (.inl ⟨g, hkeep g y1 e, y2⟩)
        · exact .inr (.inr ⟨g, hkeep g y1 (fun e => by rw [e] at y2; have := y2.2.2.2.1; omega), y2⟩)
      · rcases hmf g hgm with y | ⟨y, y2⟩
        · show ((stN (W.nd j) d).pr : Int) < A
          rw [hst]
          split
          · rename_i e
            subst e
            rcases hpr with e1 | ⟨e1, e2, e3⟩
            · rw [e1]; exact x5 g j (hin g y) hj hb hE
            · have hle := (hel (by omega)).1
              rcases Int.lt_or_eq_of_le hle with z | z
              · omega
              · exfalso
                have e4 : f.k = 3 ∨ f.k = 5 := by omega
                rcases e4 with e4 | e4
                · exact hpt.1 g y j ⟨hEl e4 z, hE⟩
                · exact x6 f hmem hd hbf e4 z
          · exact x5 g j (hin g y) hj hb hE
        · exfalso
          have hz : g.k = (o.k : Int) := by rw [y]; rfl
          have := hE.2.2.2.1
          omega
      · rcases hmf g hgm with y | ⟨y, y2⟩
        · exact x6 g (hin g y) hgd hgb hgk
        · exfalso
          have hz : g.k = (o.k : Int) := by rw [y]; rfl
          omega
      · rcases hmf g hgm with y | ⟨y, y2⟩
        · exact x7 g (hin g y) hgd hgt hgb hgk hga
        · subst y
          have hz : (o.k : Int) = 4 := hgk
          obtain ⟨e1, e2⟩ := hok4 (by omega)
          have hlt := x5 f i hmem hi hbi (hEl e1 hga)
          show o.yes = true
          rw [e2]
          have hga2 : f.a = A := hga
          exact decide_eq_true (by omega)
    · -- the lead prepares
      by_cases hpf : ∃ v, isPr d q A v i f ∧ (v = 4 ∨ v = 5)
      · obtain ⟨v, hv, hv45⟩ := hpf
        cases hfin : finB (stN (V.nd i) d).ph with
        | true => exact .inl (hFz ⟨i, hi, hbi, hfin⟩)
        | false =>
          right; right; left
          have hle := h.pr i hi hbi
          have e4 : f.a = A := hv.2.2.2.2.1
          have ho : o = ⟨⟨f.ph.toNat, f.a.toNat, f.a.toNat⟩, 6, true⟩ := by
            rw [hg, hv.2.2.2.1]
            unfold hearL
            rw [if_neg (by decide), if_neg (by decide), if_pos (by decide), if_pos (by have := hv.2.2.2.2.2; omega), if_pos ⟨by omega, hfin⟩]
          refine ⟨P, by show (W.nd q).ld d = _; rw [hWd]; exact x1, x2, x3, x4, fun j hj hb => ?_⟩
          rcases x5 j hj hb with y | ⟨g, y1, y2⟩ | ⟨g, y1, y2⟩
          · exact .inl y
          · by_cases e : g = f
            · subst e
              have hji : j = i := by have := y2.2.1; omega
              subst hji
              exact .inr (.inr ⟨ansF j g o, hnew (by rw [ho]; exact (by decide : (6 : Nat) ≠ 0)), rfl, hv.1, hd, by rw [ho]; rfl, e4, by rw [ho]; rfl⟩)
            · exact .inr (.inl ⟨g, hkeep g y1 e, y2⟩)
          · exact .inr (.inr ⟨g, hkeep g y1 (fun e => by rw [e] at y2; have := y2.2.2.2.1; omega), y2⟩)
      · right; right; left
        refine ⟨P, by show (W.nd q).ld d = _; rw [hWd]; exact x1, x2, x3, x4, fun j hj hb => ?_⟩
        rcases x5 j hj hb with y | ⟨g, y1, y2⟩ | ⟨g, y1, y2⟩
        · exact .inl y
        · refine .inr (.inl ⟨g, hkeep g y1 (fun e => ?_), y2⟩)
          subst e
          have hji : j = i := by have := y2.2.1; omega
          subst hji
          exact hpf ⟨_, y2, x3⟩
        · exact .inr (.inr ⟨g, hkeep g y1 (fun e => by rw [e] at y2; have := y2.2.2.2.1; omega), y2⟩)
    · -- it decides
      by_cases e : g = f
      · subst e
        left
        cases hfin : finB (stN (V.nd i) d).ph with
        | true => exact hFz ⟨i, hi, hbi, hfin⟩
        | false =>
          refine hFi ?_
          have hfp : finB g.ph.toNat = true := decide_eq_true (by omega)
          have ho : o = ⟨⟨g.ph.toNat, (stN (V.nd i) d).pr, (stN (V.nd i) d).at_⟩, 0, false⟩ := by
            rw [hg, x5]
            unfold hearL
            rw [if_neg (by decide), if_neg (by decide), if_neg (by decide), if_pos (by decide), if_pos ⟨hfp, hfin⟩]
          rw [ho]
          exact hfp
      · exact .inr (.inr (.inr ⟨g, hkeep g x1 e, x2, x3, x4, x5, x6⟩))
end
end Go.Proofs.YtadhpkopkkjmfaaGreatDoor
