/-
  On the way to WEndsProof, WWaitsProof: GA GB GC GD GV.
-/
import Derived.Test.YtadhpkopkkjmfaaGreatDoorBz63
set_option maxHeartbeats 8000000
set_option maxRecDepth 100000
namespace Go.Proofs.YtadhpkopkkjmfaaGreatDoor
open Go.RowKit
def ticksX (zs : List Int) (set : Int) : Nat → PX → PX
  | 0, V => V
  | k + 1, V => if bit set k = true ∧ upN ((ticksX zs set k V).nd k) = true then tickX zs k 6 0 (ticksX zs set k V) else ticksX zs set k V
def delX (zs : List Int) : Nat → PX → PX
  | 0, V => V
  | k + 1, V => match V.fly with
    | [] => V
    | f :: _ => delX zs k (deliverX zs V 0 f)
def flyX (zs : List Int) (V : PX) : PX := delX zs (pot zs V) V
def roundX (zs : List Int) (set : Int) (V : PX) : PX := flyX zs (ticksX zs set zs.length V)
section
variable {zs : List Int} {set : Int} {V V' : PX} {m M : Nat}
theorem del_nil {k : Nat} (h : V.fly = []) : delX zs k V = V := by
  cases k with
  | zero => rfl
  | succ k => unfold delX; rw [h]
theorem del_cons {k : Nat} {f : F9} {rest : List F9} (h : V.fly = f :: rest) : delX zs (k + 1) V = delX zs k (deliverX zs V 0 f) := by
  show (match V.fly with | [] => V | f :: _ => delX zs k (deliverX zs V 0 f)) = _
  rw [h]
theorem pot_zero (h : pot zs V = 0) : V.fly = [] := by
  unfold pot at h
  cases hf : V.fly with
  | nil => rfl
  | cons f r =>
    rw [hf] at h
    have := wtF_pos f
    have h2 : wtL (f :: r) = wtF f + wtL r := by simp [wtL]
    omega
theorem XI.deliver {k : Nat} {f : F9} (hX : XI zs V m) (hm : m < 4000000000) (hf : f ∈ V.fly) : XI zs (deliverX zs V k f) (m + 2) := by
  have hF := hX.fr f hf
  have hX1 : XI zs (takeX V k) m := hX.take
  have t0 := hF.t0; have t1 := hF.t1
  have hd6 : 0 ≤ f.d ∧ f.d ≤ 5 := hF.ok.2.2.1
  unfold deliverX
  split
  · rename_i hr
    have hu : ((takeX V k).nd f.t.toNat).l ≠ -2 := by
      show (V.nd f.t.toNat).l ≠ -2
      unfold reachB at hr
      rw [Bool.and_eq_true] at hr
      have := hr.1
      unfold upN at this
      simpa using this
    unfold arriveX arriveO
    split
    · exact (hX1.lead hF (by omega) (by omega)).mono (by omega)
    · rename_i ha
      have h2 := hX1.hear hu hF hm (by omega)
      have hle : (ansN f.t.toNat ((takeX V k).nd f.t.toNat) f).length ≤ 1000 := by
        unfold ansN
        split
        · show 1 ≤ 1000; decide
        · show 0 ≤ 1000; decide
      exact h2.send (ansN_fi (hX1.nd _ (by omega)) hu hF hm (by omega)) hle
  · exact hX1.mono (by omega)
theorem del_inv {I : PX → Prop} (hI : ∀ V f rest m, XI zs V m → m < M → I V → V.fly = f :: rest → I (deliverX zs V 0 f)) (hM : M ≤ 4000000000) : ∀ (k : Nat) (V : PX) (m : Nat), XI zs V m → m + 2 * k ≤ M → pot zs V ≤ k → I V → I (delX zs k V) ∧ XI zs (delX zs k V) (m + 2 * k) ∧ (delX zs k V).fly = []
  | 0, V, m, hX, hm, hp, h => ⟨h, hX, pot_zero (zs := zs) (V := V) (Nat.le_zero.1 hp)⟩
  | k + 1, V, m, hX, hm, hp, h => by
    cases hf : V.fly with
    | nil => rw [del_nil hf]; exact ⟨h, hX.mono (by omega), hf⟩
    | cons f r =>
      rw [del_cons hf]
      have hk : V.fly[0]? = some f := by rw [hf]; rfl
      have hp2 := pot_deliver hX hk
      have hX2 := hX.deliver (k := 0) (f := f) (by omega) (by rw [hf]; exact List.mem_cons_self)
      have := del_inv hI hM k (deliverX zs V 0 f) (m + 2) hX2 (by omega) (by omega) (hI V f r m hX (by omega) h hf)
      exact ⟨this.1, this.2.1.mono (by omega), this.2.2⟩
theorem del_more : ∀ (k : Nat) (V : PX) (m : Nat), XI zs V m → m + 2 * k < 4000000000 → pot zs V ≤ k → delX zs k V = flyX zs V
  | 0, V, m, hX, hm, hp => by
    have : pot zs V = 0 := by omega
    unfold flyX
    rw [this]
  | k + 1, V, m, hX, hm, hp => by
    cases hf : V.fly with
    | nil =>
      unfold flyX
      rw [del_nil hf, del_nil hf]
    | cons f r =>
      have hk : V.fly[0]? = some f := by rw [hf]; rfl
      have hp2 := pot_deliver hX hk
      have hX2 := hX.deliver (k := 0) (f := f) (by omega) (by rw [hf]; exact List.mem_cons_self)
      rw [del_cons hf, del_more k _ (m + 2) hX2 (by omega) (by omega)]
      obtain ⟨j, hj⟩ : ∃ j, pot zs V = j + 1 := ⟨pot zs V - 1, by omega⟩
      unfold flyX
      rw [hj, del_cons hf]
      exact (del_more j _ (m + 2) hX2 (by omega) (by omega)).symm
theorem fly_step {f : F9} {rest : List F9} (hX : XI zs V m) (hm : m + 2 * pot zs V < 4000000000) (hf : V.fly = f :: rest) : flyX zs (deliverX zs V 0 f) = flyX zs V := by
  have hk : V.fly[0]? = some f := by rw [hf]; rfl
  have hp2 := pot_deliver hX hk
  have hX2 := hX.deliver (k := 0) (f := f) (by omega) (by rw [hf]; exact List.mem_cons_self)
  obtain ⟨j, hj⟩ : ∃ j, pot zs V = j + 1 := ⟨pot zs V - 1, by omega⟩
  rw [← del_more j (deliverX zs V 0 f) (m + 2) hX2 (by omega) (by omega), ← del_cons hf, ← hj]
  rfl
theorem XI.tick {s : Nat} (hs : s < zs.length) : ∀ (k d : Nat) (V : PX) (m : Nat), d + k ≤ 6 → XI zs V m → (V.nd s).l ≠ -2 → m + 7 * k < 1000000 → XI zs (tickX zs s k d V) (m + 7 * k)
  | 0, _, _, _, _, hX, _, _ => hX
  | k + 1, d, V, m, hk, hX, hu, hm => by
    have hX1 := hX.ticks hs (d := d) (by omega) hu (by omega)
    unfold tickX
    split
    · rename_i hup
      exact (XI.tick hs k (d + 1) _ (m + 7) (by omega) hX1 (by unfold upN at hup; simpa using hup) (by omega)).mono (by omega)
    · exact hX1.mono (by omega)
theorem ticks_inv {I : PX → Prop} (hI : ∀ V s e m, s < zs.length → bit set s = true → e < 6 → (V.nd s).l ≠ -2 → XI zs V m → m < 1000000 → I V → I (tickD zs V s e)) {s : Nat} (hs : s < zs.length) (hb : bit set s = true) : ∀ (k e : Nat) (V : PX) (m : Nat), e + k ≤ 6 → XI zs V m → (V.nd s).l ≠ -2 → m + 7 * k < 1000000 → I V → I (tickX zs s k e V)
  | 0, _, _, _, _, _, _, _, h => h
  | k + 1, e, V, m, hk, hX, hu, hm, h => by
    have hX1 := hX.ticks hs (d := e) (by omega) hu (by omega)
    have h1 := hI V s e m hs hb (by omega) hu hX (by omega) h
    unfold tickX
    split
    · rename_i hup
      exact ticks_inv hI hs hb k (e + 1) _ (m + 7) (by omega) hX1 (by unfold upN at hup; simpa using hup) (by omega) h1
    · exact h1
theorem all_inv {I : PX → Prop} (hI : ∀ V s e m, s < zs.length → bit set s = true → e < 6 → (V.nd s).l ≠ -2 → XI zs V m → m < 1000000 → I V → I (tickD zs V s e)) (hX : XI zs V m) (h : I V) : ∀ k, k ≤ zs.length → m + 42 * k < 1000000 → I (ticksX zs set k V) ∧ XI zs (ticksX zs set k V) (m + 42 * k)
  | 0, _, _ => ⟨h, hX⟩
  | k + 1, hk, hm => by
    have ih := all_inv hI hX h k (by omega) (by omega)
    unfold ticksX
    split
    · rename_i hc
      have hu : ((ticksX zs set k V).nd k).l ≠ -2 := by have := hc.2; unfold upN at this; simpa using this
      exact ⟨ticks_inv hI (by omega) hc.1 6 0 _ (m + 42 * k) (by decide) ih.2 hu (by omega) ih.1, (XI.tick (by omega) 6 0 _ (m + 42 * k) (by decide) ih.2 hu (by omega)).mono (by omega)⟩
    · exact ⟨ih.1, ih.2.mono (by omega)⟩
theorem pot_all : ∀ k, pot zs (ticksX zs set k V) ≤ pot zs V + k * (30 * zs.length)
  | 0 => by show pot zs V ≤ _; omega
  | k + 1 => by
    have ih := pot_all k
    have e : (k + 1) * (30 * zs.length) = k * (30 * zs.length) + 30 * zs.length := Nat.succ_mul _ _
    unfold ticksX
    split
    · have := pot_tick (zs := zs) k 6 0 (ticksX zs set k V)
      omega
    · omega
structure UpI (zs : List Int) (set : Int) (V : PX) : Prop where
  up : ∀ i, i < zs.length → bit set i = true → (V.nd i).l = -1
  br : ∀ a b, a < zs.length → b < zs.length → a ≠ b → (brX V a b = true ↔ ¬ (bit set a = true ∧ bit set b = true))
theorem UpI.keep (h : UpI zs set V) (hu : ∀ i, i < zs.length → bit set i = true → (V'.nd i).l = -1) (hb : V'.br = V.br) : UpI zs set V' :=
  ⟨hu, fun x y hx hy hxy => by
    have := h.br x y hx hy hxy
    unfold brX at this ⊢
    rw [hb]; exact this⟩
theorem UpI.ticks {s e : Nat} (h : UpI zs set V) (hX : XI zs V m) (hm : m < 1000000) (hs : s < zs.length) (hb : bit set s = true) (he : e < 6) : UpI zs set (tickD zs V s e) := by
  have n7 := (errW_zero hX.he).2.1
  have hbd := aboveN_bd (hX.nd s hs) he
  have hat := attemptX_bd zs.length s (aboveN (V.nd s) e) (by omega)
  unfold tickD
  split
  · exact h
  · split
    · exact h.keep h.up rfl
    · generalize attemptX zs.length s (aboveN (V.nd s) e) = a at *
      by_cases hf : 1048576 < a
      · unfold tryX
        rw [if_pos hf]
        exact h
      · obtain ⟨k1, k2, k3, k4, -⟩ := try_out (a := a) hX hm hs he (h.up s hs hb) (by omega)
        refine h.keep (fun i hi hbi => ?_) k2
        by_cases c : i = s
        · rw [c]; exact k4
        · rw [k3 i c]; exact h.up i hi hbi
theorem UpI.deliver {f : F9} {k : Nat} (h : UpI zs set V) (hX : XI zs V m) (hm : m < 1000000) (hf : f ∈ V.fly) : UpI zs set (deliverX zs V k f) := by
  have hF := hX.fr f hf
  have t0 := hF.t0; have t1 := hF.t1
  have hX1 : XI zs (takeX V k) m := hX.take
  unfold deliverX
  split
  · refine h.keep (fun i hi hb => ?_) ?_
    · show ((arriveX zs (takeX V k) f).nd i).l = -1
      unfold arriveX leadX
      split
      · split
        · exact h.up i hi hb
        · by_cases c : i = f.t.toNat
          · subst c; rw [nd_at]; exact h.up _ hi hb
          · rw [nd_ne _ _ _ c]; exact h.up i hi hb
      · show ((setNd (takeX V k) f.t.toNat (hearN ((takeX V k).nd f.t.toNat) f)).nd i).l = -1
        by_cases c : i = f.t.toNat
        · subst c; rw [nd_at]; exact (hear_free (hX1.nd _ hi) (h.up _ hi hb) hF hm).2.1
        · rw [nd_ne _ _ _ c]; exact h.up i hi hb
    · show (arriveX zs (takeX V k) f).br = V.br
      unfold arriveX leadX
      split
      · split <;> rfl
      · rfl
  · exact h.keep h.up rfl
end
theorem top_of (p : Nat → Prop) (g : Nat → Int) : ∀ n, (∃ i, i < n ∧ p i) → ∃ q, q < n ∧ p q ∧ ∀ i, i < n → p i → g i ≤ g q
  | 0, ⟨i, hi, _⟩ => absurd hi (Nat.not_lt_zero _)
  | n + 1, ⟨i, hi, hp⟩ => by
    by_cases c : ∃ j, j < n ∧ p j
    · obtain ⟨q, q1, q2, q3⟩ := top_of p g n c
      by_cases c2 : p n ∧ g q < g n
      · refine ⟨n, by omega, c2.1, fun j hj hpj => ?_⟩
        by_cases e : j = n
        · rw [e]; exact Int.le_refl _
        · have := q3 j (by omega) hpj; have := c2.2; omega
      · refine ⟨q, by omega, q2, fun j hj hpj => ?_⟩
        by_cases e : j = n
        · subst e
          by_cases c3 : g q < g j
          · exact absurd ⟨hpj, c3⟩ c2
          · omega
        · exact q3 j (by omega) hpj
    · have hin : i = n := by
        by_cases e : i = n
        · exact e
        · exact absurd ⟨i, by omega, hp⟩ c
      subst hin
      refine ⟨i, by omega, hp, fun j hj hpj => ?_⟩
      by_cases e : j = i
      · rw [e]; exact Int.le_refl _
      · exact absurd ⟨j, by omega, hpj⟩ c
section
variable {zs : List Int} {set : Int} {d q m T : Nat} {A : Int} {V V' : PX} {f : F9} {rest : List F9}
theorem TkI.start (hX : XI zs V m) (hB : FB zs V T) (hT : T + 7 ≤ 1048576) (hU : UpI zs set V) (hd : d < 6) (hno : ∀ i, i < zs.length → bit set i = true → (V.nd i).ld d = none)
    (hk : ∃ i, i < zs.length ∧ bit set i = true ∧ stN (V.nd i) d ≠ St.zero) (hz : ¬ Fz zs set d V) : ∃ q A, q < zs.length ∧ bit set q = true ∧ (0 < A ∧ A ≤ 1048576) ∧ TkI zs set d q A V 0 := by
  have n7 := (errW_zero hX.he).2.1
  obtain ⟨q, q1, ⟨q2, q3⟩, q4⟩ := top_of (fun i => bit set i = true ∧ stN (V.nd i) d ≠ St.zero) (fun i => attemptX zs.length i ((stN (V.nd i) d).pr : Int)) zs.length hk
  have hbd : ∀ i, ((stN (V.nd i) d).pr : Int) + 1 ≤ attemptX zs.length i ((stN (V.nd i) d).pr : Int) ∧ attemptX zs.length i ((stN (V.nd i) d).pr : Int) ≤ ((stN (V.nd i) d).pr : Int) + zs.length := fun i => attemptX_bd zs.length i _ (by omega)
  have hTq := hB.st q d q1 hd
  have hq := hbd q
  have hmod := fun i (hi : i < zs.length) => attempt_mod (n := zs.length) (s := i) ⟨by omega, n7⟩ hi (a := ((stN (V.nd i) d).pr : Int)) (by omega)
  have hlt : ∀ i, i < zs.length → bit set i = true → ((stN (V.nd i) d).pr : Int) < attemptX zs.length q ((stN (V.nd q) d).pr : Int) := fun i hi hb => by
    by_cases c : stN (V.nd i) d = St.zero
    · rw [c]
      show ((0 : Nat) : Int) < _
      omega
    · have h1 : attemptX zs.length i ((stN (V.nd i) d).pr : Int) ≤ attemptX zs.length q ((stN (V.nd q) d).pr : Int) := q4 i hi ⟨hb, c⟩
      have := hbd i
      omega
  have hfr : ∀ f, f ∈ V.fly → f.d = (d : Int) → bit set f.f.toNat = true → (f.k = 3 ∨ f.k = 5) → f.a < attemptX zs.length q ((stN (V.nd q) d).pr : Int) := fun f hf hfd hb hk => by
    have hF := hX.fr f hf
    have f0 := hF.f0; have f1 := hF.f1
    have h1 := (hB.fr f hf).2.1 hk
    rw [hfd, Int.toNat_natCast] at h1
    have h2 := hlt f.f.toNat (by omega) hb
    omega
  refine ⟨q, attemptX zs.length q ((stN (V.nd q) d).pr : Int), q1, q2, by omega, hU.up, hU.br, fun i hi hb _ => ⟨hno i hi hb, hlt i hi hb, ?_, fun hne => ⟨q4 i hi ⟨hb, hne⟩, fun e => ?_⟩, fun e => (by subst e; exact ⟨q3, rfl⟩)⟩, fun i _ _ h => absurd h (Nat.not_lt_zero _), fun i x hi hb hx => (by rw [hno i hi hb] at hx; cases hx), fun f hf hfd hb hk => ?_, fun f hf hfd ht hk => ?_, ?_, fun h => absurd h (Nat.not_lt_zero _)⟩
  · cases c : finB (stN (V.nd i) d).ph with
    | false => rfl
    | true => exact absurd ⟨i, hi, hb, c⟩ hz
  · have h1 := hmod i hi
    have h2 := hmod q q1
    rw [e, h2] at h1
    exact h1.symm
  · have := hfr f hf hfd hb hk
    exact ⟨by omega, fun e => by omega⟩
  · have h1 := (hB.fr f hf).2.2 hk
    rw [hfd, ht, Int.toNat_natCast, Int.toNat_natCast] at h1
    have := hlt q q1 q2
    omega
  · refine List.Pairwise.imp_of_mem (R := fun _ _ => True) (fun {a b} ha _ _ i hi => ?_) (List.pairwise_of_forall (fun _ _ => trivial))
    have := hfr a ha hi.1.2.2.1 (by rw [hi.1.1, Int.toNat_natCast]; exact q2) (.inl hi.1.2.2.2.1)
    have := hi.1.2.2.2.2
    omega
theorem TkI.all (hX : XI zs V m) (hd : d < 6) (hq : q < zs.length) (hbq : bit set q = true) (hA : 0 < A ∧ A ≤ 1048576) (h : TkI zs set d q A V 0) : ∀ k, k ≤ zs.length → m + 42 * k < 1000000 → TkI zs set d q A (ticksX zs set k V) k ∧ XI zs (ticksX zs set k V) (m + 42 * k)
  | 0, _, _ => ⟨h, hX⟩
  | k + 1, hk, hm => by
    have ih := TkI.all hX hd hq hbq hA h k (by omega) (by omega)
    unfold ticksX
    split
    · rename_i hc
      have hu : ((ticksX zs set k V).nd k).l ≠ -2 := by rw [ih.1.up k (by omega) hc.1]; decide
      exact ⟨TkI.tick (by omega) hc.1 hd hq hbq hA 6 0 _ (m + 42 * k) (by decide) (by rw [if_pos (Nat.zero_le _)]; exact ih.1) ih.2 (by omega), (XI.tick (by omega) 6 0 _ (m + 42 * k) (by decide) ih.2 hu (by omega)).mono (by omega)⟩
    · rename_i hc
      refine ⟨ih.1.skip hbq ?_, ih.2.mono (by omega)⟩
      cases hb : bit set k with
      | false => rfl
      | true =>
        refine absurd ⟨hb, ?_⟩ hc
        unfold upN
        rw [ih.1.up k (by omega) hb]
        decide
theorem fin_mo (h : Mo zs V V') {i : Nat} (hi : i < zs.length) (hd : d < 6) (hf : finB (stN (V.nd i) d).ph = true) : finB (stN (V'.nd i) d).ph = true := by
  have := h i d hi hd
  have h2 := of_decide_eq_true hf
  refine decide_eq_true ?_
  unfold mayN at this
  omega
theorem round_keeps (hX : XI zs V m) (hA : AX zs V) (hd : d < 6) {r : Nat} (hr : r < zs.length) (hf : finB (stN (V.nd r) d).ph = true) (hm : m + 42 * zs.length + 2 * pot zs (ticksX zs set zs.length V) < 1000000) : finB (stN ((roundX zs set V).nd r) d).ph = true := by
  obtain ⟨h1, hX1⟩ := all_inv (set := set) (I := fun U => AX zs U ∧ finB (stN (U.nd r) d).ph = true) (fun U s e m hs hb he hu hX hm h => by
    have := h.1.ticks hX hs he hu hm
    exact ⟨this.1, fin_mo this.2 hr hd h.2⟩) hX ⟨hA, hf⟩ zs.length (Nat.le_refl _) (by omega)
  have := del_inv (zs := zs) (M := 1000000) (I := fun U => AX zs U ∧ finB (stN (U.nd r) d).ph = true) (fun U f rest m hX hm h hfl => by
    have := h.1.deliver (k := 0) hX (by omega : m < 4000000000) (f := f) (by rw [hfl]; exact List.mem_cons_self)
    exact ⟨this.1, fin_mo this.2 hr hd h.2⟩) (by decide) (pot zs (ticksX zs set zs.length V)) _ _ hX1 (by omega) (Nat.le_refl _) h1
  exact this.1.2
theorem round_stands (hX : XI zs V m) (hA : AX zs V) (hU : UpI zs set V) (hm : m + 42 * zs.length + 2 * pot zs (ticksX zs set zs.length V) < 1000000) :
    AX zs (roundX zs set V) ∧ UpI zs set (roundX zs set V) ∧ XI zs (roundX zs set V) (m + 42 * zs.length + 2 * pot zs (ticksX zs set zs.length V)) ∧ (roundX zs set V).fly = [] := by
  obtain ⟨h1, hX1⟩ := all_inv (set := set) (I := fun U => AX zs U ∧ UpI zs set U) (fun U s e m hs hb he hu hX hm h => ⟨(h.1.ticks hX hs he hu hm).1, h.2.ticks hX hm hs hb he⟩) hX ⟨hA, hU⟩ zs.length (Nat.le_refl _) (by omega)
  have := del_inv (zs := zs) (M := 1000000) (I := fun U => AX zs U ∧ UpI zs set U) (fun U f rest m hX hm h hfl => ⟨(h.1.deliver (k := 0) hX (by omega : m < 4000000000) (f := f) (by rw [hfl]; exact List.mem_cons_self)).1, h.2.deliver hX hm (by rw [hfl]; exact List.mem_cons_self)⟩) (by decide) (pot zs (ticksX zs set zs.length V)) _ _ hX1 (by omega) (Nat.le_refl _) h1
  exact ⟨this.1.1, this.1.2, this.2.1, this.2.2⟩
theorem round_one (hX : XI zs V m) (hAx : AX zs V) (hB : FB zs V T) (hT : T + 7 ≤ 1048576) (hU : UpI zs set V) (hd : d < 6) (hno : ∀ i, i < zs.length → bit set i = true → (V.nd i).ld d = none)
    (hk : ∃ i, i < zs.length ∧ bit set i = true ∧ stN (V.nd i) d ≠ St.zero) (hen : enoughB zs set = true) (hm : m + 42 * zs.length + 2 * pot zs (ticksX zs set zs.length V) < 1000000) : Fz zs set d (roundX zs set V) := by
  by_cases hz : Fz zs set d V
  · obtain ⟨r, h1, h2, h3⟩ := hz
    exact ⟨r, h1, h2, round_keeps hX hAx hd h1 h3 hm⟩
  · obtain ⟨q, A, q1, q2, hA, ht⟩ := TkI.start hX hB hT hU hd hno hk hz
    obtain ⟨h1, hX1⟩ := TkI.all hX hd q1 q2 hA ht zs.length (Nat.le_refl _) (by omega)
    have := del_inv (zs := zs) (M := 1000000) (I := fun U => EnI zs set d q A U) (fun U f rest m hX hm h hfl => h.deliver hX hm q1 q2 hA.1 hfl) (by decide) (pot zs (ticksX zs set zs.length V)) _ _ hX1 (by omega) (Nat.le_refl _) (h1.end q1)
    exact this.1.done hX.he hen this.2.2
def SentE (zs : List Int) (set : Int) (d r : Nat) (V : PX) : Prop := ∀ i, i < zs.length → bit set i = true → finB (stN (V.nd i) d).ph = true ∨ ∃ f, f ∈ V.fly ∧ f.f = (r : Int) ∧ f.t = (i : Int) ∧ f.d = (d : Int) ∧ f.k = 7 ∧ (f.ph = 2 ∨ f.ph = 3)
theorem ticks_grow (s e : Nat) : ∀ g, g ∈ V.fly → g ∈ (tickD zs V s e).fly := fun g hg => by
  unfold tickD
  split
  · exact hg
  · split
    · exact List.mem_append.2 (.inl hg)
    · unfold tryX
      split
      · exact hg
      · split
        · exact hg
        · exact List.mem_append.2 (.inl hg)
theorem SentE.ticks {s e r : Nat} (h : SentE zs set d r V) (hA : AX zs V) (hX : XI zs V m) (hd : d < 6) (hs : s < zs.length) (he : e < 6) (hu : (V.nd s).l ≠ -2) (hm : m < 1000000) : SentE zs set d r (tickD zs V s e) := fun i hi hb => by
  rcases h i hi hb with x | ⟨f, x1, x2⟩
  · exact .inl (fin_mo (hA.ticks hX hs he hu hm).2 hi hd x)
  · exact .inr ⟨f, ticks_grow s e f x1, x2⟩
theorem tick_sent {r : Nat} (hr : r < zs.length) (hbr : bit set r = true) (hd : d < 6) : ∀ (k e : Nat) (V : PX) (m : Nat), e + k = 6 → e ≤ d → AX zs V → UpI zs set V → finB (stN (V.nd r) d).ph = true → XI zs V m → m + 7 * k < 1000000 → SentE zs set d r (tickX zs r k e V)
  | 0, e, _, _, hk, he, _, _, _, _, _ => by omega
  | k + 1, e, V, m, hk, he, hA, hU, hf, hX, hm => by
    have hl := hU.up r hr hbr
    have hu : (V.nd r).l ≠ -2 := by rw [hl]; decide
    have hX1 := hX.ticks hr (d := e) (by omega) hu (by omega)
    have hA1 := hA.ticks hX hr (d := e) (by omega) hu (by omega)
    have hU1 := hU.ticks (e := e) hX (by omega) hr hbr (by omega)
    have hl1 := hU1.up r hr hbr
    unfold tickX
    rw [if_pos (by unfold upN; rw [hl1]; decide)]
    by_cases c : e = d
    · subst c
      have h1 : SentE zs set e r (tickD zs V r e) := fun i hi hb => by
        refine .inr ⟨⟨r, i, e, 7, (stN (V.nd r) e).pr, false, (stN (V.nd r) e).ph, 0, 0⟩, ?_, rfl, rfl, rfl, rfl, ?_⟩
        · unfold tickD
          rw [if_neg (fun z => by rw [z] at hf; cases hf), if_pos hf]
          exact List.mem_append.2 (.inr (toL_has hi))
        · have := of_decide_eq_true hf
          show ((stN (V.nd r) e).ph : Int) = 2 ∨ ((stN (V.nd r) e).ph : Int) = 3
          omega
      exact (ticks_inv (set := set) (I := fun U => AX zs U ∧ SentE zs set e r U) (fun U s c m hs hb hc hu hX hm h => ⟨(h.1.ticks hX hs hc hu hm).1, h.2.ticks h.1 hX hd hs hc hu hm⟩) hr hbr k (e + 1) _ (m + 7) (by omega) hX1 (by rw [hl1]; decide) (by omega) ⟨hA1.1, h1⟩).2
    · exact tick_sent hr hbr hd k (e + 1) _ (m + 7) (by omega) (by omega) hA1.1 hU1 (fin_mo hA1.2 hr hd hf) hX1 (by omega)
theorem all_sent {r : Nat} (hr : r < zs.length) (hbr : bit set r = true) (hd : d < 6) (hA : AX zs V) (hU : UpI zs set V) (hf : finB (stN (V.nd r) d).ph = true) (hX : XI zs V m) : ∀ k, k ≤ zs.length → m + 42 * k < 1000000 → (r < k → SentE zs set d r (ticksX zs set k V))
  | 0, _, _ => fun h => absurd h (Nat.not_lt_zero _)
  | k + 1, hk, hm => fun hrk => by
    obtain ⟨⟨i1, i2, i3⟩, hXk⟩ := all_inv (set := set) (I := fun U => AX zs U ∧ UpI zs set U ∧ finB (stN (U.nd r) d).ph = true) (fun U s e m hs hb he hu hX hm h => ⟨(h.1.ticks hX hs he hu hm).1, h.2.1.ticks hX hm hs hb he, fin_mo (h.1.ticks hX hs he hu hm).2 hr hd h.2.2⟩) hX ⟨hA, hU, hf⟩ k (by omega) (by omega)
    unfold ticksX
    by_cases c : r = k
    · subst c
      rw [if_pos ⟨hbr, by unfold upN; rw [i2.up r hr hbr]; decide⟩]
      exact tick_sent hr hbr hd 6 0 _ (m + 42 * r) (by decide) (Nat.zero_le _) i1 i2 i3 hXk (by omega)
    · have ih := all_sent hr hbr hd hA hU hf hX k (by omega) (by omega) (by omega)
      split
      · rename_i hc
        exact (ticks_inv (set := set) (I := fun U => AX zs U ∧ SentE zs set d r U) (fun U s c m hs hb hc hu hX hm h => ⟨(h.1.ticks hX hs hc hu hm).1, h.2.ticks h.1 hX hd hs hc hu hm⟩) (by omega) hc.1 6 0 _ (m + 42 * k) (by decide) hXk (by rw [i2.up k (by omega) hc.1]; decide) (by omega) ⟨i1, ih⟩).2
      · exact ih
theorem UpI.reach (h : UpI zs set V) (hF : FI zs.length f) (hf : bit set f.f.toNat = true) (ht : bit set f.t.toNat = true) : reachB V f = true := by
  have f0 := hF.f0; have f1 := hF.f1; have t0 := hF.t0; have t1 := hF.t1
  unfold reachB upN
  rw [h.up _ (by omega) ht]
  by_cases e : f.f = f.t
  · rw [e]; simp
  · have hne : f.f.toNat ≠ f.t.toNat := by omega
    have := h.br f.f.toNat f.t.toNat (by omega) (by omega) hne
    cases hb : brX V f.f.toNat f.t.toNat with
    | true => exact absurd ⟨hf, ht⟩ (this.1 hb)
    | false => simp
theorem deliver_grow (hfl : V.fly = f :: rest) : ∀ g, g ∈ rest → g ∈ (deliverX zs V 0 f).fly := fun g hg => by
  have hr := (fly_out hfl).2.2
  have hg2 : g ∈ (takeX V 0).fly := by rw [hr]; exact hg
  unfold deliverX
  split
  · refine List.mem_append.2 (.inl ?_)
    unfold arriveX leadX
    split
    · split <;> exact hg2
    · exact hg2
  · exact hg2
theorem SentE.deliver {r : Nat} (h : SentE zs set d r V) (hA : AX zs V) (hU : UpI zs set V) (hX : XI zs V m) (hd : d < 6) (hbr : bit set r = true) (hm : m < 1000000) (hfl : V.fly = f :: rest) : SentE zs set d r (deliverX zs V 0 f) := fun i hi hb => by
  have hmem : f ∈ V.fly := by rw [hfl]; exact List.mem_cons_self
  rcases h i hi hb with x | ⟨g, x1, x2, x3, x4, x5, x6⟩
  · exact .inl (fin_mo (hA.deliver (k := 0) hX (by omega) hmem).2 hi hd x)
  · by_cases c : g = f
    · subst c
      left
      have hF := hX.fr g hmem
      have hr := hU.reach hF (by rw [x2, Int.toNat_natCast]; exact hbr) (by rw [x3, Int.toNat_natCast]; exact hb)
      have hti : g.t.toNat = i := by omega
      have hdi : g.d.toNat = d := by omega
      unfold deliverX
      rw [if_pos hr]
      unfold arriveX arriveO
      rw [if_neg (by rw [x5]; decide), if_neg (by rw [x5]; decide), hti]
      have hX1 : XI zs (takeX V 0) m := hX.take
      have hl1 : ((takeX V 0).nd i).l = -1 := hU.up i hi hb
      have hu : ((takeX V 0).nd i).l ≠ -2 := by rw [hl1]; decide
      have hh := hearN_hf (hX1.nd i hi) hu hF (by omega : m < 4000000000)
      obtain ⟨hc, -, -⟩ := hear_free (hX1.nd i hi) hl1 hF hm
      have hst : stN ((hearX (takeX V 0) i g).nd i) d = (gHN ((takeX V 0).nd i) g).st := by
        have h2 := congrFun (hearX_st (V := takeX V 0) (i := i) hh hc) i
        rw [hdi, upd_at] at h2
        exact h2
      show finB (stN ((hearX (takeX V 0) i g).nd i) d).ph = true
      rw [hst]
      have hg : gHN ((takeX V 0).nd i) g = hearL (stN (V.nd i) d) ((V.nd i).R d) g.k.toNat g.a.toNat g.ph.toNat := by unfold gHN; rw [hdi]; rfl
      rw [hg, x5]
      have hfp : finB g.ph.toNat = true := decide_eq_true (by omega)
      unfold hearL
      rw [if_neg (by decide), if_neg (by decide), if_neg (by decide), if_pos (by decide)]
      split
      · exact hfp
      · rename_i hn
        cases hq : finB (stN (V.nd i) d).ph with
        | true => rfl
        | false => exact absurd ⟨hfp, hq⟩ hn
    · exact .inr ⟨g, deliver_grow hfl g ((fly_out hfl).2.1 g x1 c), x2, x3, x4, x5, x6⟩
theorem round_two (hX : XI zs V m) (hAx : AX zs V) (hU : UpI zs set V) (hd : d < 6) (hz : Fz zs set d V) (hm : m + 42 * zs.length + 2 * pot zs (ticksX zs set zs.length V) < 1000000) : ∀ i, i < zs.length → bit set i = true → finB (stN ((roundX zs set V).nd i) d).ph = true := by
  obtain ⟨r, hr, hbr, hf⟩ := hz
  obtain ⟨⟨i1, i2⟩, hX1⟩ := all_inv (set := set) (I := fun U => AX zs U ∧ UpI zs set U) (fun U s e m hs hb he hu hX hm h => ⟨(h.1.ticks hX hs he hu hm).1, h.2.ticks hX hm hs hb he⟩) hX ⟨hAx, hU⟩ zs.length (Nat.le_refl _) (by omega)
  have hs := all_sent hr hbr hd hAx hU hf hX zs.length (Nat.le_refl _) (by omega) hr
  have := del_inv (zs := zs) (M := 1000000) (I := fun U => AX zs U ∧ UpI zs set U ∧ SentE zs set d r U) (fun U f rest m hX hm h hfl => ⟨(h.1.deliver (k := 0) hX (by omega : m < 4000000000) (f := f) (by rw [hfl]; exact List.mem_cons_self)).1, h.2.1.deliver hX hm (by rw [hfl]; exact List.mem_cons_self), h.2.2.deliver h.1 h.2.1 hX hd hbr hm hfl⟩) (by decide) (pot zs (ticksX zs set zs.length V)) _ _ hX1 (by omega) (Nat.le_refl _) ⟨i1, i2, hs⟩
  intro i hi hb
  rcases this.1.2.2 i hi hb with x | ⟨f, x1, -⟩
  · exact x
  · rw [this.2.2] at x1
    cases x1
end
section
variable {zs : List Int} {set : Int} {d m a b : Nat} {V V0 V' : PX}
structure Bare (zs : List Int) (set : Int) (V0 V : PX) (a b : Nat) : Prop where
  st : ∀ i d, stN (V.nd i) d = stN (V0.nd i) d
  ld : ∀ i d x, (V.nd i).ld d = some x → (V0.nd i).ld d = some x
  fly : V.fly = V0.fly
  evs : V.evs = V0.evs
  br : ∀ x y, (x < a ∧ y < zs.length) ∨ (x = a ∧ y < b) → brX V x y = !(bit set x && bit set y)
  up : ∀ i, i < a → bit set i = true → (V.nd i).l = -1 ∧ ∀ d, (V.nd i).ld d = none
theorem Bare.start (V : PX) : Bare zs set V V 0 0 :=
  ⟨fun _ _ => rfl, fun _ _ _ h => h, rfl, rfl, fun x y h => by omega, fun i h => absurd h (Nat.not_lt_zero _)⟩
theorem link_br (V : PX) (a b x y : Nat) (w : Bool) : brX (linkX V a b w) x y = if min x y = min a b ∧ max x y = max a b then !w else brX V x y := rfl
theorem Bare.link (h : Bare zs set V0 V a b) : Bare zs set V0 (linkX V a b (bit set a && bit set b)) a (b + 1) := by
  refine ⟨h.st, h.ld, h.fly, h.evs, fun x y hxy => ?_, h.up⟩
  rw [link_br]
  split
  · rename_i e
    have : (x = a ∧ y = b) ∨ (x = b ∧ y = a) := by omega
    rcases this with ⟨rfl, rfl⟩ | ⟨rfl, rfl⟩
    · rfl
    · rw [Bool.and_comm]
  · rename_i e
    refine h.br x y ?_
    rcases hxy with z | ⟨z1, z2⟩
    · exact .inl z
    · by_cases c : y = b
      · rw [z1, c] at e; exact absurd ⟨rfl, rfl⟩ e
      · exact .inr ⟨z1, by omega⟩
theorem Bare.row (h : Bare zs set V0 V a zs.length) (hb : bit set a = false) : Bare zs set V0 V (a + 1) 0 :=
  ⟨h.st, h.ld, h.fly, h.evs, fun x y hxy => h.br x y (by omega), fun i hi hbi => h.up i (by
    by_cases c : i = a
    · rw [c, hb] at hbi; cases hbi
    · omega) hbi⟩
theorem Bare.down (h : Bare zs set V0 V a b) : Bare zs set V0 (downX V a) a b ∧ ∀ d, ((downX V a).nd a).ld d = none := by
  refine ⟨⟨fun i d => ?_, fun i d x hx => ?_, h.fly, h.evs, h.br, fun i hi hb => ?_⟩, fun d => by unfold downX; rw [nd_at]; rfl⟩
  · have := nd_keep (V := V) (s := a) (N := fallN (V.nd a)) (fun _ => rfl) i d
    show stN ((setNd V a _).nd i) d = _
    rw [this]; exact h.st i d
  · have hx2 : ((setNd V a (fallN (V.nd a))).nd i).ld d = some x := hx
    by_cases c : i = a
    · subst c; rw [nd_at] at hx2; cases hx2
    · rw [nd_ne _ _ _ c] at hx2; exact h.ld i d x hx2
  · show ((setNd V a (fallN (V.nd a))).nd i).l = -1 ∧ ∀ d, ((setNd V a (fallN (V.nd a))).nd i).ld d = none
    rw [nd_ne _ _ _ (show i ≠ a by omega)]
    exact h.up i hi hb
theorem Bare.wake (h : Bare zs set V0 V a zs.length) (hl : ∀ d, (V.nd a).ld d = none) : Bare zs set V0 (upX V a) (a + 1) 0 := by
  refine ⟨fun i d => ?_, fun i d x hx => ?_, h.fly, h.evs, fun x y hxy => h.br x y (by omega), fun i hi hb => ?_⟩
  · have := nd_keep (V := V) (s := a) (N := { V.nd a with l := -1, over := false, R := fun _ => false }) (fun _ => rfl) i d
    show stN ((setNd V a _).nd i) d = _
    rw [this]; exact h.st i d
  · have hx2 := ld_keep (V := V) (s := a) (N := { V.nd a with l := -1, over := false, R := fun _ => false }) (fun _ _ y => y) i d x hx
    exact h.ld i d x hx2
  · show ((setNd V a _).nd i).l = -1 ∧ ∀ d, ((setNd V a _).nd i).ld d = none
    by_cases c : i = a
    · subst c; rw [nd_at]; exact ⟨rfl, hl⟩
    · rw [nd_ne _ _ _ c]; exact h.up i (by omega) hb
theorem Bare.end (h : Bare zs set V0 V zs.length 0) : UpI zs set V ∧ (∀ i d, i < zs.length → bit set i = true → (V.nd i).ld d = none) := by
  refine ⟨⟨fun i hi hb => (h.up i hi hb).1, fun x y hx hy _ => ?_⟩, fun i d hi hb => (h.up i hi hb).2 d⟩
  rw [h.br x y (.inl ⟨hx, hy⟩)]
  cases bit set x <;> cases bit set y <;> simp
theorem Bare.ax (h : Bare zs set V0 V a b) (hA : AX zs V0) : AX zs V := hA.quiet h.st (fun i d x _ => h.ld i d x) (fun f hf => by rw [← h.fly]; exact hf) h.evs
theorem Bare.fb {T : Nat} (h : Bare zs set V0 V a b) (hB : FB zs V0 T) : FB zs V T := hB.quiet h.st h.ld (fun f hf => by rw [← h.fly]; exact hf)
theorem Bare.pot (h : Bare zs set V0 V a b) : pot zs V ≤ pot zs V0 := by
  unfold Go.Proofs.YtadhpkopkkjmfaaGreatDoor.pot
  rw [h.fly]
  refine Nat.add_le_add_left (sumN_le fun i _ => ?_) _
  unfold potN
  refine sumN_le fun e _ => ?_
  cases hx : (V.nd i).ld e with
  | none => exact Nat.zero_le _
  | some x => rw [h.ld i e x hx]; exact Nat.le_refl _
theorem WaI.start (hU : UpI zs set V) (hl : ∀ i, i < zs.length → bit set i = true → (V.nd i).ld d = none) (hf : V.fly = []) (hn : ∀ i, i < zs.length → bit set i = true → finB (stN (V.nd i) d).ph = false) : WaI zs set d V ∧ WaX zs set V := by
  refine ⟨⟨hn, fun f h => (by rw [hf] at h; cases h), fun i x hi hb hx => (by rw [hl i hi hb] at hx; cases hx)⟩, ⟨fun f h => (by rw [hf] at h; cases h), fun x y hx hy hxy hne => (hU.br x y hx hy hxy).2 hne⟩⟩
theorem WaI.round (h : WaI zs set d V) (hW : WaX zs set V) (hX : XI zs V m) (hen : enoughB zs set = false) (hm : m + 42 * zs.length + 2 * Go.Proofs.YtadhpkopkkjmfaaGreatDoor.pot zs (ticksX zs set zs.length V) < 1000000) :
    WaI zs set d (roundX zs set V) ∧ WaX zs set (roundX zs set V) := by
  obtain ⟨h1, hX1⟩ := all_inv (set := set) (I := fun U => WaI zs set d U ∧ WaX zs set U) (fun U s e m hs hb he hu hX hm h => ⟨h.1.ticks hX hen hs hb he hu hm, h.2.ticks hb⟩) hX ⟨h, hW⟩ zs.length (Nat.le_refl _) (by omega)
  have := del_inv (zs := zs) (M := 1000000) (I := fun U => WaI zs set d U ∧ WaX zs set U) (fun U f rest m hX hm h hfl => ⟨h.1.deliver h.2 hX hen (by omega) (by rw [hfl]; exact List.mem_cons_self), h.2.deliver hX (by rw [hfl]; exact List.mem_cons_self)⟩) (by decide) (Go.Proofs.YtadhpkopkkjmfaaGreatDoor.pot zs (ticksX zs set zs.length V)) _ _ hX1 (by omega) (Nat.le_refl _) h1
  exact this.1
theorem hears_len (s e : Nat) (c : Int) (f : F9) (P : PL) : (hearsL zs s e c P [f]).2.length ≤ zs.length := by
  show (outL s e c zs.length (phear zs s e c P f).2 ++ []).length ≤ _
  rw [List.append_nil]
  exact outL_le _ _ _ _ _
theorem try_len (s e : Nat) (c : Int) : (tryX zs V s e c).fly.length ≤ V.fly.length + 2 * zs.length := by
  unfold tryX
  split
  · omega
  · split
    · show V.fly.length ≤ _
      omega
    · show (V.fly ++ (electL s e c zs.length ++ (hearsL zs s e c P0 (ansN s (V.nd s) (electF s e c))).2)).length ≤ _
      rw [List.length_append, List.length_append]
      have h1 : (electL s e c zs.length).length ≤ zs.length := by
        have h2 := (List.eraseIdx_sublist (toL s e 3 c 0 zs.length) s).length_le
        rw [toL_length] at h2
        exact h2
      have h2 : (hearsL zs s e c P0 (ansN s (V.nd s) (electF s e c))).2.length ≤ zs.length := by
        unfold ansN
        split
        · exact hears_len _ _ _ _ _
        · exact Nat.zero_le _
      omega
theorem tick_len (s : Nat) : ∀ (k e : Nat) (V : PX), (tickX zs s k e V).fly.length ≤ V.fly.length + k * (2 * zs.length)
  | 0, _, V => by show V.fly.length ≤ _; omega
  | k + 1, e, V => by
    have h1 : (tickD zs V s e).fly.length ≤ V.fly.length + 2 * zs.length := by
      unfold tickD
      split
      · omega
      · split
        · show (V.fly ++ _).length ≤ _
          rw [List.length_append, toL_length]; omega
        · exact try_len s e _
    have e2 : (k + 1) * (2 * zs.length) = k * (2 * zs.length) + 2 * zs.length := Nat.succ_mul _ _
    unfold tickX
    split
    · have h2 := tick_len s k (e + 1) (tickD zs V s e)
      omega
    · omega
theorem Stp.len (h : Stp zs V V') (hX : XI zs V m) : V'.fly.length ≤ V.fly.length + 84 := by
  have n7 := (errW_zero hX.he).2.1
  rcases h with rfl | ⟨s, d, hs, hd, hc, rfl⟩ | ⟨s, d, hs, hu, rfl⟩ | ⟨s, hs, hu, rfl⟩ | ⟨s, hs, hu, rfl⟩ | ⟨s, hs, hu, rfl⟩ | ⟨k, rfl⟩ | ⟨k, f, hf, rfl⟩ | ⟨a, b, x, rfl⟩ | ⟨s, n, hs, rfl⟩ | ⟨k, f, hk, rfl⟩
  · omega
  · show (V.fly ++ toL s d 1 0 0 zs.length).length ≤ _
    rw [List.length_append, toL_length]; omega
  · show V.fly.length ≤ _; omega
  · have := tick_len (zs := zs) s 6 0 V; omega
  · show V.fly.length ≤ _; omega
  · show V.fly.length ≤ _; omega
  · show (V.fly.eraseIdx k).length ≤ _
    have := (List.eraseIdx_sublist V.fly k).length_le; omega
  · show (V.fly.take k ++ f :: V.fly.drop k).length ≤ _
    have h1 : V.fly.length = (V.fly.take k).length + (V.fly.drop k).length := by rw [← List.length_append, List.take_append_drop]
    rw [List.length_append, List.length_cons]; omega
  · show V.fly.length ≤ _; omega
  · show V.fly.length ≤ _; omega
  · have h1 := (List.eraseIdx_sublist V.fly k).length_le
    unfold deliverX
    split
    · have h2 : (arriveX zs (takeX V k) f).fly = V.fly.eraseIdx k := by
        unfold arriveX leadX
        split
        · split <;> rfl
        · rfl
      show ((arriveX zs (takeX V k) f).fly ++ arriveO zs (takeX V k) f).length ≤ _
      rw [List.length_append, h2]
      have h3 : (arriveO zs (takeX V k) f).length ≤ 7 := by
        unfold arriveO leadO
        split
        · split
          · exact Nat.zero_le _
          · exact Nat.le_trans (outL_le _ _ _ _ _) n7
        · unfold ansN
          split
          · show 1 ≤ 7; decide
          · exact Nat.zero_le _
      omega
    · show (V.fly.eraseIdx k).length ≤ _
      omega
end
def roundsX (zs : List Int) (set : Int) : Nat → PX → PX
  | 0, V => V
  | k + 1, V => roundsX zs set k (roundX zs set V)
section
variable {zs : List Int} {set : Int} {d m T : Nat} {V : PX}
theorem pot_round (hX : XI zs V m) (hm : m + 42 * zs.length + 2 * pot zs (ticksX zs set zs.length V) < 1000000) : pot zs (roundX zs set V) ≤ pot zs V + 1470 := by
  have n7 := (errW_zero hX.he).2.1
  obtain ⟨-, hX1⟩ := all_inv (set := set) (I := fun _ => True) (fun _ _ _ _ _ _ _ _ _ _ _ => trivial) hX trivial zs.length (Nat.le_refl _) (by omega)
  have h1 := del_inv (zs := zs) (M := 1000000) (I := fun U => pot zs U ≤ pot zs (ticksX zs set zs.length V)) (fun U f rest m hX hm h hfl => by
    have := pot_deliver hX (k := 0) (f := f) (by rw [hfl]; rfl)
    omega) (by decide) (pot zs (ticksX zs set zs.length V)) _ _ hX1 (by omega) (Nat.le_refl _) (Nat.le_refl _)
  have h2 := pot_all (zs := zs) (set := set) (V := V) zs.length
  have h3 : zs.length * (30 * zs.length) ≤ 1470 := Nat.le_trans (Nat.mul_le_mul n7 (Nat.mul_le_mul_left 30 n7)) (by decide)
  have h4 : pot zs (roundX zs set V) ≤ pot zs (ticksX zs set zs.length V) := h1.1
  omega
theorem pot_ticks_le (hX : XI zs V m) : pot zs (ticksX zs set zs.length V) ≤ pot zs V + 1470 := by
  have n7 := (errW_zero hX.he).2.1
  have h2 := pot_all (zs := zs) (set := set) (V := V) zs.length
  have h3 : zs.length * (30 * zs.length) ≤ 1470 := Nat.le_trans (Nat.mul_le_mul n7 (Nat.mul_le_mul_left 30 n7)) (by decide)
  omega
theorem ends_all (hX : XI zs V m) (hA : AX zs V) (hB : FB zs V T) (hT : T + 7 ≤ 1048576) (hU : UpI zs set V) (hno : ∀ i d, i < zs.length → bit set i = true → (V.nd i).ld d = none) (hen : enoughB zs set = true) (hm : m + 4 * pot zs V + 12348 < 1000000) :
    AX zs (roundsX zs set 2 V) ∧ (roundsX zs set 2 V).fly = [] ∧ ∀ d, d < 6 → (∃ i, i < zs.length ∧ bit set i = true ∧ stN (V.nd i) d ≠ St.zero) → ∀ i, i < zs.length → bit set i = true → finB (stN ((roundsX zs set 2 V).nd i) d).ph = true := by
  have n7 := (errW_zero hX.he).2.1
  have p1 := pot_ticks_le (set := set) hX
  obtain ⟨a1, u1, x1, -⟩ := round_stands hX hA hU (by omega)
  have q1 := pot_round (set := set) hX (by omega)
  have p2 := pot_ticks_le (set := set) x1
  obtain ⟨a2, -, -, f2⟩ := round_stands x1 a1 u1 (by omega)
  exact ⟨a2, f2, fun d hd hk => round_two x1 a1 u1 hd (round_one hX hA hB hT hU hd (fun i hi hb => hno i d hi hb) hk hen (by omega)) (by omega)⟩
theorem waits_all (hen : enoughB zs set = false) : ∀ (k : Nat) (V : PX) (m : Nat), XI zs V m → WaI zs set d V → WaX zs set V → m + k * (294 + 2 * (pot zs V + 1470 * k)) < 1000000 → WaI zs set d (roundsX zs set k V)
  | 0, _, _, _, h, _, _ => h
  | k + 1, V, m, hX, h, hW, hm => by
    have n7 := (errW_zero hX.he).2.1
    have p1 := pot_ticks_le (set := set) hX
    have e1 : (k + 1) * (294 + 2 * (pot zs V + 1470 * (k + 1))) = k * (294 + 2 * (pot zs V + 1470 * (k + 1))) + (294 + 2 * (pot zs V + 1470 * (k + 1))) := Nat.succ_mul _ _
    have hm1 : m + 42 * zs.length + 2 * pot zs (ticksX zs set zs.length V) < 1000000 := by omega
    obtain ⟨h1, w1⟩ := h.round hW hX hen hm1
    have q1 := pot_round (set := set) hX hm1
    obtain ⟨-, hX1⟩ := all_inv (set := set) (I := fun _ => True) (fun _ _ _ _ _ _ _ _ _ _ _ => trivial) hX trivial zs.length (Nat.le_refl _) (by omega)
    have x1 := (del_inv (zs := zs) (M := 1000000) (I := fun _ => True) (fun _ _ _ _ _ _ _ _ => trivial) (by decide) (pot zs (ticksX zs set zs.length V)) _ _ hX1 (by omega) (Nat.le_refl _) trivial).2.1
    have hle : k * (294 + 2 * (pot zs (roundX zs set V) + 1470 * k)) ≤ k * (294 + 2 * (pot zs V + 1470 * (k + 1))) := Nat.mul_le_mul_left k (by omega)
    exact waits_all hen k (roundX zs set V) _ x1 h1 w1 (by omega)
end
theorem WOut.trans {w0 w w1 w2 : World} {C : Nat → Nat} {X : XB} {zs : List Int} {V1 V2 : PX} {m1 m2 : Nat} (h : WOut w0 w w1 C X zs V1 m1) (g : ∀ C1 X1, WD w0 w1 C1 X1 zs V1 m1 → key X1 = key X → WOut w0 w1 w2 C1 X1 zs V2 m2) : WOut w0 w w2 C X zs V2 m2 := by
  obtain ⟨C1, X1, h1, h2, h3, h4⟩ := h
  exact WOut.step h2 h3 h4 (g C1 X1 h1 h2)
section
variable {w0 w : World} {C : Nat → Nat} {X : XB} {m : Nat} {zs : List Int} {V : PX} {A : Nat → Addr} {set : Int}
theorem ticks_step (k : Nat) (hb : bit set k = true) : ticksX zs set (min (k + 1) zs.length) V = if cUp zs.length (ticksX zs set (min k zs.length) V) (k : Int) = 0 then tickX zs k 6 0 (ticksX zs set (min k zs.length) V) else ticksX zs set (min k zs.length) V := by
  by_cases hk : k < zs.length
  · rw [show min (k + 1) zs.length = k + 1 by omega, show min k zs.length = k by omega]
    show (if bit set k = true ∧ upN ((ticksX zs set k V).nd k) = true then _ else _) = _
    have hc : cUp zs.length (ticksX zs set k V) (k : Int) = if upN ((ticksX zs set k V).nd k) = true then 0 else 6 := by unfold cUp; rw [if_pos (by omega), Int.toNat_natCast]
    by_cases hu : upN ((ticksX zs set k V).nd k) = true
    · rw [if_pos ⟨hb, hu⟩, hc, if_pos hu, if_pos rfl]
    · rw [if_neg (fun h => hu h.2), hc, if_neg hu, if_neg (by decide)]
  · rw [show min (k + 1) zs.length = zs.length by omega, show min k zs.length = zs.length by omega]
    have hc : cUp zs.length (ticksX zs set zs.length V) (k : Int) = 2 := by unfold cUp; rw [if_neg (by omega)]
    rw [hc, if_neg (by decide)]
theorem ticks_skip (k : Nat) (hb : bit set k = false) : ticksX zs set (min (k + 1) zs.length) V = ticksX zs set (min k zs.length) V := by
  by_cases hk : k < zs.length
  · rw [show min (k + 1) zs.length = k + 1 by omega, show min k zs.length = k by omega]
    show (if bit set k = true ∧ _ then _ else _) = _
    rw [if_neg (fun h => by rw [hb] at h; cases h.1)]
  · rw [show min (k + 1) zs.length = zs.length by omega, show min k zs.length = zs.length by omega]
theorem tickAll_any (h : WD w0 w C X zs V m) (hE : Held9 w0 A) (h0 : 0 ≤ set) (h1 : set ≤ 9223372036854775807) (hm : m + 294 < 900000) :
    Calls Tryz.prog 84 #[.pointer (some ⟨X.xb, 0, none⟩), .int .i64 set] w fun e w' => e = .returned (.tuple #[]) ∧ WOut w0 w w' C X zs (ticksX zs set zs.length V) (m + 294) := by
  have H := hid h
  have HE := hid hE
  have n7 := h.n7.2
  clear h hE
  go_enter Tryz.func84, Tryz.ntmps84
  go_wp2_with fail
  go_loopw [5] (fun v wr => ∃ k : Nat, k ≤ 7 ∧ v = .int .i64 (k : Int) ∧ Hid (WOut w0 w wr C X zs (ticksX zs set (min k zs.length) V) (m + 42 * k))) (fun v _ => 7 - (intOf v).toNat)
  case atStart => exact ⟨0, Nat.zero_le _, rfl, by rw [show min 0 zs.length = 0 by omega]; exact H.out.out (Below.refl _ _) (by omega)⟩
  case round =>
    obtain ⟨k, hk, rfl, HI⟩ := hrel
    by_cases hlt : k < 7
    · have hlt2 : (k : Int) < 7 := by omega
      have hk0 : ¬ ((k : Int) < 0) := by omega
      obtain ⟨b, Hb⟩ : ∃ b, Hid (bit set k = b) := ⟨_, rfl⟩
      have hbit : (bits BinOp.and IntKind.i64 (set / 2 ^ k) 1 == 1) = b := (bit_and k h0 (by omega)).trans Hb.out
      cases b with
      | true =>
        obtain ⟨C1, X1, g1, g2, g3, g4⟩ := HI.out
        have HT := hid (tick_any (k : Int) _ g1 HE.out (by omega) rfl)
        rw [key_xb g2, Int.toNat_natCast, ← ticks_step k Hb.out] at HT
        have HG := hid (And.intro g2 (And.intro g3 g4))
        clear g1 g2 g3 g4
        go_wp2_with fail
        refine HT.out.mono ?_
        rintro e w1 ⟨rfl, ho⟩
        have HO := hid (WOut.step HG.out.1 HG.out.2.1 HG.out.2.2 ho)
        clear ho
        go_wp2_with fail
        go_roundw
        case rel => exact ⟨k + 1, by omega, by go_num, by rw [show m + 42 * (k + 1) = m + 42 * k + 42 by omega]; exact HO.out⟩
        case measure => simp [intOf]; omega
      | false =>
        have HO : Hid (WOut w0 w wr C X zs (ticksX zs set (min (k + 1) zs.length) V) (m + 42 * (k + 1))) := by rw [ticks_skip k Hb.out]; exact HI.out.mono (by omega)
        go_wp2_with fail
        go_roundw
        case rel => exact ⟨k + 1, by omega, by go_num, HO.out⟩
        case measure => simp [intOf]; omega
    · obtain rfl : k = 7 := by omega
      have HO : Hid (WOut w0 w wr C X zs (ticksX zs set zs.length V) (m + 294)) := by have := HI.out; rw [show min 7 zs.length = zs.length by omega] at this; exact this
      go_wp2_with fail
      go_end0
      exact ⟨rfl, HO.out⟩
def DlI (w0 w wr : World) (C : Nat → Nat) (X : XB) (zs : List Int) (V : PX) (m j : Nat) : Prop := ∃ C' X' U, WD w0 wr C' X' zs U (m + 3 * j) ∧ key X' = key X ∧ Kept (OwnX C) w wr ∧ (∀ x, x < w.heap.size → C' x = C x) ∧ flyX zs U = flyX zs V ∧ pot zs U + j ≤ pot zs V
theorem deliverAll_any (h : WD w0 w C X zs V m) (hE : Held9 w0 A) (hm : m + 3 * pot zs V < 900000) :
    Calls Tryz.prog 85 #[.pointer (some ⟨X.xb, 0, none⟩)] w fun e w' => ∃ c : Nat, e = .returned (.int .i64 (c : Int)) ∧ c ≤ pot zs V ∧ (flyX zs V).fly = [] ∧ WOut w0 w w' C X zs (flyX zs V) (m + 3 * pot zs V) := by
  have HI0 : Hid (DlI w0 w w C X zs V m 0) := ⟨C, X, V, h, rfl, Kept.refl _ _, fun _ _ => rfl, rfl, Nat.le_refl _⟩
  have HE := hid hE
  obtain ⟨P, HP⟩ : ∃ P, Hid (pot zs V = P) := ⟨_, rfl⟩
  rw [HP.out] at hm ⊢
  clear h hE
  go_enter Tryz.func85, Tryz.ntmps85
  go_wp2_with fail
  go_loopw [3] (fun v wr => ∃ j : Nat, j ≤ P ∧ v = .int .i64 (j : Int) ∧ Hid (DlI w0 w wr C X zs V m j)) (fun v _ => P - (intOf v).toNat)
  case atStart => exact ⟨0, Nat.zero_le _, rfl, HI0.out⟩
  case round =>
    obtain ⟨j, hj, rfl, HI⟩ := hrel
    obtain ⟨C1, X1, U, g1, g2, g3, g4, g5, g6⟩ := HI.out
    rw [HP.out] at g6
    cases hfl : U.fly with
    | nil =>
      have HD := hid (deliver_no (0 : Int) g1 HE.out (by rw [hfl]; simp))
      rw [key_xb g2] at HD
      have hU : flyX zs V = U := by rw [← g5]; exact del_nil hfl
      have HO : Hid ((flyX zs V).fly = [] ∧ WOut w0 w wr C X zs (flyX zs V) (m + 3 * P)) := by
        rw [hU]; exact ⟨hfl, C1, X1, g1.mono (by omega), g2, g3, g4⟩
      clear g1 g2 g3 g4 g5 g6 hU hfl
      go_wp2_with fail
      refine HD.out.mono ?_
      rintro e w1 ⟨rfl, hx⟩
      subst w1
      unfold ev
      go_wp2_with fail
      go_ret
      exact ⟨j, rfl, hj, HO.out.1, HO.out.2⟩
    | cons f rest =>
      have h0l : 0 < U.fly.length := by rw [hfl]; simp
      have hf0 : U.fly[0]'h0l = f := by simp [hfl]
      have HD := hid (deliver_ok 0 f g1 HE.out h0l hf0 (by omega))
      rw [key_xb g2, show ((0 : Nat) : Int) = 0 from rfl] at HD
      have hp := pot_deliver g1.inv (k := 0) (f := f) (by rw [hfl]; rfl)
      have hst := fly_step g1.inv (by omega) hfl
      have HN : Hid (∀ w1, WOut w0 wr w1 C1 X1 zs (deliverX zs U 0 f) (m + 3 * j + 3) → DlI w0 w w1 C X zs V m (j + 1)) := by
        intro w1 ho
        obtain ⟨C2, X2, y1, y2, y3, y4⟩ := WOut.step g2 g3 g4 ho
        exact ⟨C2, X2, _, by rw [show m + 3 * (j + 1) = m + 3 * j + 3 by omega]; exact y1, y2, y3, y4, hst.trans g5, by rw [HP.out]; omega⟩
      have hjP : j + 1 ≤ P := by omega
      clear g1 g2 g3 g4 g5 g6 hfl hf0 hp hst h0l
      go_wp2_with fail
      refine HD.out.mono ?_
      rintro e w1 ⟨rfl, ho⟩
      have HO := hid (HN.out w1 ho)
      clear ho
      go_wp2_with fail
      go_roundw
      case rel => exact ⟨j + 1, hjP, by go_num, HO.out⟩
      case measure => simp [intOf]; omega
def RdI (w0 w wr : World) (C : Nat → Nat) (X : XB) (zs : List Int) (set : Int) (V : PX) (m k B i : Nat) (c : Nat) : Prop := ∃ C' X' U m', WD w0 wr C' X' zs U m' ∧ key X' = key X ∧ Kept (OwnX C) w wr ∧ (∀ x, x < w.heap.size → C' x = C x) ∧ roundsX zs set (k - i) U = roundsX zs set k V ∧ pot zs U ≤ pot zs V + 1470 * i ∧ m' + (k - i) * B ≤ m + k * B ∧ c ≤ 700000 * i ∧ (0 < i → U.fly = [])
theorem rounds_any (k : Nat) (h : WD w0 w C X zs V m) (hE : Held9 w0 A) (h0 : 0 ≤ set) (h1 : set ≤ 9223372036854775807) (hk : k ≤ 10) (hm : m + k * (294 + 3 * (pot zs V + 1470 * k)) < 700000) :
    Calls Tryz.prog 36 #[.pointer (some ⟨X.xb, 0, none⟩), .int .i64 set, .int .i64 (k : Int)] w fun e w' => ∃ c : Nat, e = .returned (.tuple #[.int .i64 (c : Int), .nilIface]) ∧ (0 < k → (roundsX zs set k V).fly = []) ∧ WOut w0 w w' C X zs (roundsX zs set k V) 700000 := by
  obtain ⟨B, HB⟩ : ∃ B, Hid (294 + 3 * (pot zs V + 1470 * k) = B) := ⟨_, rfl⟩
  rw [HB.out] at hm
  have HI0 : Hid (RdI w0 w w C X zs set V m k B 0 0) := ⟨C, X, V, m, h, rfl, Kept.refl _ _, fun _ _ => rfl, rfl, Nat.le_refl _, Nat.le_refl _, Nat.le_refl _, fun h => absurd h (Nat.lt_irrefl _)⟩
  have HE := hid hE
  obtain ⟨kB, HkB⟩ : ∃ kB, Hid (k * B = kB) := ⟨_, rfl⟩
  rw [HkB.out] at hm
  have e1 : ¬ (set < 0) := by omega
  have e2 : ¬ ((k : Int) < 0) := by omega
  have e3 : ¬ ((10 : Int) < (k : Int)) := by omega
  clear h hE
  go_enter Tryz.func36, Tryz.ntmps36
  go_wp2_with fail
  go_loopw [8, 21] (fun u v wr => ∃ i c : Nat, i ≤ k ∧ u = .int .i64 (c : Int) ∧ v = .int .i64 (i : Int) ∧ Hid (RdI w0 w wr C X zs set V m k B i c)) (fun _ v _ => k - (intOf v).toNat)
  case atStart => exact ⟨0, 0, Nat.zero_le _, rfl, rfl, HI0.out⟩
  case round =>
    obtain ⟨i, c, hi, rfl, rfl, HI⟩ := hrel
    obtain ⟨C1, X1, U, m1, g1, g2, g3, g4, g5, g6, g7, g8, g9⟩ := HI.out
    rw [HkB.out] at g7
    by_cases hlt : i < k
    · have hlt2 : (i : Int) < (k : Int) := by omega
      obtain ⟨j, hj⟩ : ∃ j, k - i = j + 1 := ⟨k - i - 1, by omega⟩
      rw [hj, Nat.succ_mul] at g7
      rw [hj] at g5
      obtain ⟨jB, HjB⟩ : ∃ jB, Hid (j * B = jB) := ⟨_, rfl⟩
      rw [HjB.out] at g7
      have hBv := HB.out
      have hpt := pot_ticks_le (set := set) g1.inv
      have h14 : 1470 * i + 1470 ≤ 1470 * k := by omega
      have HT := hid (tickAll_any (set := set) g1 HE.out h0 h1 (by omega))
      rw [key_xb g2] at HT
      have hU := pot_round (set := set) g1.inv (by
        have n7 := g1.n7.2
        omega)
      have HG := hid (And.intro g2 (And.intro g3 g4))
      have HH := hid (And.intro g5 (And.intro g6 (And.intro g7 (And.intro hpt (And.intro hU hj)))))
      clear g1 g2 g3 g4 g5 g6 g7 g9 hpt hU hj
      go_wp2_with fail
      refine HT.out.mono ?_
      rintro e w1 ⟨rfl, C2, X2, y1, y2, y3, y4⟩
      have HD := hid (deliverAll_any y1 HE.out (by have := HH.out; omega))
      rw [key_xb y2, key_xb HG.out.1] at HD
      have HY := hid (And.intro y2 (And.intro y3 y4))
      clear y1 y2 y3 y4
      go_wp2_with fail
      refine HD.out.mono ?_
      rintro e w2 ⟨d, rfl, hd, hfl, ho⟩
      have ho2 := WOut.step HG.out.1 HG.out.2.1 HG.out.2.2 (WOut.step HY.out.1 HY.out.2.1 HY.out.2.2 ho)
      have hd7 : d ≤ 700000 := by have := HH.out; omega
      have HN : Hid (RdI w0 w w2 C X zs set V m k B (i + 1) (c + d)) := by
        obtain ⟨C3, X3, z1, z2, z3, z4⟩ := ho2
        obtain ⟨q5, q6, q7, q8, q9, q10⟩ := HH.out
        have ekj : k - (i + 1) = j := by omega
        refine ⟨C3, X3, roundX zs set U, m1 + B, z1.mono (by omega), z2, z3, z4, ?_, by omega, ?_, by omega, fun _ => hfl⟩
        · rw [ekj]; exact q5
        · rw [ekj, HkB.out, HjB.out]; omega
      have hcw : IntKind.i64.wrap ((c : Int) + (d : Int)) = (c : Int) + (d : Int) := by rw [IntKind.wrap_i64]; omega
      clear hfl ho ho2 hd
      go_wp2_with fail
      go_roundw
      case rel => exact ⟨i + 1, c + d, by omega, by go_num, by go_num, HN.out⟩
      case measure => simp [intOf]; omega
    · obtain rfl : i = k := by omega
      have hlt2 : ¬ ((i : Int) < (i : Int)) := by omega
      rw [Nat.sub_self] at g5 g7
      have hU : U = roundsX zs set i V := g5
      have HO : Hid ((0 < i → (roundsX zs set i V).fly = []) ∧ WOut w0 w wr C X zs (roundsX zs set i V) 700000) := by
        rw [← hU]; exact ⟨g9, C1, X1, g1.mono (by omega), g2, g3, g4⟩
      clear g1 g2 g3 g4 g5 g6 g7 g8 g9 hU
      go_wp2_with fail
      go_ret2
      exact ⟨⟨c, rfl⟩, HO.out.1, HO.out.2⟩
end
end Go.Proofs.YtadhpkopkkjmfaaGreatDoor
