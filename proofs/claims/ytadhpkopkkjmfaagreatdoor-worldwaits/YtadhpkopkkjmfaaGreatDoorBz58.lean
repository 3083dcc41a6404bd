/-
  On the way to WEndsProof, WWaitsProof: YY GI WR.
-/
import Derived.Test.YtadhpkopkkjmfaaGreatDoorBz54
import Derived.Test.YtadhpkopkkjmfaaGreatDoorBz55
set_option maxHeartbeats 8000000
set_option maxRecDepth 100000
namespace Go.Proofs.YtadhpkopkkjmfaaGreatDoor
open Go.RowKit
section
variable {zs : List Int} {V V' : PX} {m : Nat}
theorem pot_send (L : List F9) : pot zs (sendX V L) = pot zs V + wtL L := by
  show wtL (V.fly ++ L) + _ = wtL V.fly + _ + _
  rw [wtL_append]
  show wtL V.fly + wtL L + sumN (fun i => potN zs.length (V.nd i)) zs.length = _
  omega
theorem sumN_set {g h : Nat → Nat} {j c : Nat} (hl : ∀ i, i ≠ j → g i ≤ h i) (hj : g j ≤ h j + c) : ∀ k, sumN g k ≤ sumN h k + c := fun k => by
  by_cases e : j < k
  · have := sumN_one (g := g) (h := h) (j := j) (a := 0) (b := c) (k := k) e (fun i _ hne => hl i hne) (by omega)
    omega
  · have := sumN_le (g := g) (h := h) (k := k) fun i hi => hl i (by omega)
    omega
theorem pot_node {i c : Nat} {N : PN} (h : potN zs.length N ≤ potN zs.length (V.nd i) + c) : pot zs (setNd V i N) ≤ pot zs V + c := by
  show wtL V.fly + sumN (fun k => potN zs.length ((setNd V i N).nd k)) zs.length ≤ wtL V.fly + sumN (fun k => potN zs.length (V.nd k)) zs.length + c
  have := sumN_set (g := fun k => potN zs.length ((setNd V i N).nd k)) (h := fun k => potN zs.length (V.nd k)) (j := i) (c := c) (fun k hk => by show potN _ _ ≤ potN _ _; rw [nd_ne _ _ _ hk]; exact Nat.le_refl _) (by show potN _ _ ≤ potN _ _ + c; rw [nd_at]; exact h) zs.length
  omega
theorem pot_hearX (i : Nat) (f : F9) : pot zs (hearX V i f) ≤ pot zs V :=
  pot_node (V := V) (i := i) (c := 0) (N := hearN (V.nd i) f) (pot_hear _ _ _)
theorem pot_setLd (n : Nat) (N : PN) (d : Nat) (x : Int × PL) : potN n (setLd N d x) ≤ potN n N + potL n (some x) := by
  unfold potN
  refine sumN_set (j := d) (fun i hi => ?_) ?_ 6
  · show potL n ((setLd N d x).ld i) ≤ _
    rw [ld_ne _ _ _ hi]; exact Nat.le_refl _
  · show potL n ((setLd N d x).ld d) ≤ _
    rw [ld_at]; exact Nat.le_add_left _ _
theorem pot_hears (s d : Nat) (a : Int) : ∀ (L : List F9) (P : PL), potL zs.length (some (a, (hearsL zs s d a P L).1)) + wtL (hearsL zs s d a P L).2 ≤ potL zs.length (some (a, P))
  | [], P => Nat.le_refl _
  | f :: r, P => by
    have h1 := pot_hears s d a r (phear zs s d a P f).1
    have h2 := pot_lead (zs := zs) (i := s) (d := d) (att := a) (P := P) (f := f) zs.length rfl
    unfold hearsL
    show potL zs.length (some (a, (hearsL zs s d a (phear zs s d a P f).1 r).1)) + wtL (outL s d a zs.length (phear zs s d a P f).2 ++ (hearsL zs s d a (phear zs s d a P f).1 r).2) ≤ _
    rw [wtL_append]
    omega
theorem wtL_less (L : List F9) (k : Nat) : wtL (L.eraseIdx k) ≤ wtL L := by
  cases h : L[k]? with
  | none => rw [List.eraseIdx_of_length_le (List.getElem?_eq_none_iff.1 h)]; exact Nat.le_refl _
  | some f => have := wtL_erase L k f h; omega
theorem pot_try (s d : Nat) (a : Int) : pot zs (tryX zs V s d a) ≤ pot zs V + 5 * zs.length := by
  unfold tryX
  split
  · omega
  · split
    · have := pot_hearX (zs := zs) (V := V) s (electF s d a); omega
    · rw [pot_send, wtL_append]
      have h1 := pot_hearX (zs := zs) (V := V) s (electF s d a)
      have h2 := pot_hears (zs := zs) s d a (ansN s (V.nd s) (electF s d a)) P0
      have h3 : potL zs.length (some (a, P0)) = 3 * zs.length := rfl
      have h4 := wtL_less (toL s d 3 a 0 zs.length) s
      have h5 : wtL (toL s d 3 a 0 zs.length) = zs.length * 2 := by rw [wtL_to, if_pos (by decide)]
      have h6 := pot_setLd zs.length (hearN (V.nd s) (electF s d a)) d (a, (hearsL zs s d a P0 (ansN s (V.nd s) (electF s d a))).1)
      have h7 := pot_node (zs := zs) (V := hearX V s (electF s d a)) (i := s) (c := potL zs.length (some (a, (hearsL zs s d a P0 (ansN s (V.nd s) (electF s d a))).1))) (N := setLd (hearN (V.nd s) (electF s d a)) d (a, (hearsL zs s d a P0 (ansN s (V.nd s) (electF s d a))).1)) (by
        have e : (hearX V s (electF s d a)).nd s = hearN (V.nd s) (electF s d a) := nd_at V s _
        rw [e]; exact h6)
      have h8 : wtL (electL s d a zs.length) ≤ zs.length * 2 := by rw [← h5]; exact h4
      omega
theorem pot_ticks (s d : Nat) : pot zs (tickD zs V s d) ≤ pot zs V + 5 * zs.length := by
  unfold tickD
  split
  · omega
  · split
    · rw [pot_send, wtL_to, if_neg (by decide)]; omega
    · exact pot_try s d _
theorem pot_tick (s : Nat) : ∀ (k d : Nat) (V : PX), pot zs (tickX zs s k d V) ≤ pot zs V + k * (5 * zs.length)
  | 0, _, V => by show pot zs V ≤ _; omega
  | k + 1, d, V => by
    have h1 := pot_ticks (zs := zs) (V := V) s d
    have e : (k + 1) * (5 * zs.length) = k * (5 * zs.length) + 5 * zs.length := Nat.succ_mul _ _
    unfold tickX
    split
    · have h2 := pot_tick s k (d + 1) (tickD zs V s d)
      omega
    · omega
theorem Stp.pot (h : Stp zs V V') (hX : XI zs V m) : pot zs V' ≤ pot zs V + 210 := by
  have n7 := (errW_zero hX.he).2.1
  rcases h with rfl | ⟨s, d, hs, hd, hc, rfl⟩ | ⟨s, d, hs, hu, rfl⟩ | ⟨s, hs, hu, rfl⟩ | ⟨s, hs, hu, rfl⟩ | ⟨s, hs, hu, rfl⟩ | ⟨k, rfl⟩ | ⟨k, f, hf, rfl⟩ | ⟨a, b, x, rfl⟩ | ⟨s, n, hs, rfl⟩ | ⟨k, f, hk, rfl⟩
  · omega
  · unfold beginX
    rw [pot_send, wtL_to, if_pos (by decide)]
    have h6 := pot_setLd zs.length (V.nd s) d (0, P0)
    have h3 : potL zs.length (some ((0 : Int), P0)) = 3 * zs.length := rfl
    have := pot_node (zs := zs) (V := V) (i := s) h6
    omega
  · have := pot_node (zs := zs) (V := V) (i := s) (c := 0) (N := { V.nd s with R := updR (V.nd s).R d }) (Nat.le_refl _)
    show pot zs (setNd V s _) ≤ _
    omega
  · have := pot_tick (zs := zs) s 6 0 V
    omega
  · have := pot_node (zs := zs) (V := V) (i := s) (c := 0) (N := fallN (V.nd s)) (Nat.zero_le _)
    show pot zs (setNd V s _) ≤ _
    omega
  · have := pot_node (zs := zs) (V := V) (i := s) (c := 0) (N := { V.nd s with l := -1, over := false, R := fun _ => false }) (Nat.le_refl _)
    show pot zs (setNd V s _) ≤ _
    omega
  · show wtL (V.fly.eraseIdx k) + sumN (fun i => potN zs.length (V.nd i)) zs.length ≤ wtL V.fly + sumN (fun i => potN zs.length (V.nd i)) zs.length + 210
    have := wtL_less V.fly k
    omega
  · show wtL (V.fly.take k ++ f :: V.fly.drop k) + sumN (fun i => potN zs.length (V.nd i)) zs.length ≤ wtL V.fly + sumN (fun i => potN zs.length (V.nd i)) zs.length + 210
    have h1 : wtL V.fly = wtL (V.fly.take k) + wtL (V.fly.drop k) := by rw [← wtL_append, List.take_append_drop]
    have h2 : wtL (f :: V.fly.drop k) = wtF f + wtL (V.fly.drop k) := by simp [wtL]
    have h3 : wtF f ≤ 2 := by unfold wtF; split <;> omega
    rw [wtL_append, h2]
    omega
  · show pot zs V ≤ _
    omega
  · have := pot_node (zs := zs) (V := V) (i := s) (c := 0) (N := { V.nd s with l := cL (V.nd s).l n }) (Nat.le_refl _)
    show pot zs (setNd V s _) ≤ _
    omega
  · have := pot_deliver hX hk
    omega
end
theorem wpList_append_e1 {w : World} {ops : Array Oper} {rest : List Oper} {o : Oper} {a : Act} {Q : Exit → Act → World → Prop} (hgd : o.guard = none) (s x : Operand)
    (ho : o.op = .call { callee := .builtin .append, args := #[s, x], argTypes := #[22, 22] })
    (base n : Nat) (v : Value) (xs : List Value) (ad : Addr) (c : Nat) (F : Int) (hs : a.eval s = v) (hx : a.eval x = .slice (some ad) 1 c) (hown : w.ownsRow base 3 1 v n xs) (hu : ∀ j u, [Value.int .i64 F][j]? = some u → w.cell? (ad.add j) = some u) (hn : n ≤ 1000000000000) (hb : base ≤ w.heap.size)
    (h : ∀ ad' cap' w', w'.ownsRow base 3 1 (.slice ad' (n + 1) cap') (n + 1) (xs ++ [Value.int .i64 F]) → w.grownBy w' v.ownBlock → ((Value.slice ad' (n + 1) cap').ownBlock = v.ownBlock ∨ (Value.slice ad' (n + 1) cap').ownBlock = some w.heap.size) → wpList Tryz.prog ops Q rest (a.put o.dst (.slice ad' (n + 1) cap')) w') :
    wpList Tryz.prog ops Q (o :: rest) a w := by
  refine wpList_plain hgd fun K hK => ?_
  obtain ⟨i0, hi0, hz0, hz1, hz2⟩ := info_parts Tryz.infoInt
  obtain ⟨v', w', hr, h2, h3, -, h5⟩ := run_append_own_at (P := Tryz.prog) w base 22 o.type 3 i0 _ 1 8 Tryz.underlying22 hi0 hz0 hz1 hz2 rfl (by decide) v n xs hown ad 1 c [.int .i64 F] rfl hu (by intro u hu; simp at hu; subst hu; rfl) (by unfold maxLen; omega) (by omega) hb
  obtain ⟨ad', cap', rfl⟩ : ∃ ad' cap', v' = .slice ad' (n + 1) cap' := by
    rcases h2.2 with ⟨e, h0⟩ | ⟨g, cap, cur, e, -⟩
    · omega
    · exact ⟨_, _, e⟩
  unfold Oper.wp execOp
  simp only [ho, resolve, invoke, builtin, Sem.run_bind, Sem.run_pure, Result.andThen_ok, List.map_toArray, List.map_cons, List.map_nil, hs, hx, hr]
  exact hK _ _ (h ad' cap' w' h2 h3 h5)
theorem own_ints_e {w : World} {base n g cap : Nat} {vs : List Int} (h : w.ownsRow base 3 1 (.slice (some ⟨g, 0, none⟩) n cap) n (vs.map (Value.int .i64))) {i : Nat} (hi : i < n) : w.cell? ⟨g, i, none⟩ = some (.int .i64 (vs.getD i 0)) := by
  have hl : vs.length = n := by have := h.1; simpa using this
  have := h.cellAt i (by omega)
  rw [this, List.getElem?_map, List.getElem?_eq_getElem (by omega)]
  simp [List.getD, hl, hi]
theorem rSetErr_any (v : Value) (zs : List Int) (s : Int) (w : World) (hv : IsSl w v zs) :
    Calls Tryz.prog 31 #[v, .int .i64 s] w fun e w' => e = .returned (.int .i64 (errS zs s)) ∧ w' = w := by
  have H := hid (rErr_any v zs w hv)
  obtain ⟨a, cap, rfl, hm, -, -⟩ := hv
  unfold maxLen at hm
  unfold errS
  by_cases h : errW zs = 0
  · rw [h] at H
    rw [if_pos h]
    have hl := (errW_zero h).2.1
    have hp := pow_le7 hl
    clear h
    by_cases c1 : s < 0
    · rw [if_pos (Or.inl c1)]
      go_enter Tryz.func31, Tryz.ntmps31
      go_wp2_with (first | (go_at_call 12; refine H.out.mono ?_; rintro e w' ⟨rfl, rfl⟩) | (go_at_call 13; refine (two_any zs.length _ (by omega)).mono ?_; rintro e w' ⟨rfl, rfl⟩))
      go_ret
      exact ⟨rfl, rfl⟩
    · by_cases c2 : 2 ^ zs.length ≤ s
      · rw [if_pos (Or.inr c2)]
        go_enter Tryz.func31, Tryz.ntmps31
        go_wp2_with (first | (go_at_call 12; refine H.out.mono ?_; rintro e w' ⟨rfl, rfl⟩) | (go_at_call 13; refine (two_any zs.length _ (by omega)).mono ?_; rintro e w' ⟨rfl, rfl⟩))
        go_ret
        exact ⟨rfl, rfl⟩
      · rw [if_neg (by omega)]
        go_enter Tryz.func31, Tryz.ntmps31
        go_wp2_with (first | (go_at_call 12; refine H.out.mono ?_; rintro e w' ⟨rfl, rfl⟩) | (go_at_call 13; refine (two_any zs.length _ (by omega)).mono ?_; rintro e w' ⟨rfl, rfl⟩))
        go_ret
        exact ⟨rfl, rfl⟩
  · rw [if_neg h]
    obtain ⟨c, hc⟩ : ∃ c, errW zs = c + 1 := ⟨errW zs - 1, by omega⟩
    rw [hc] at H ⊢
    clear h hc
    have hc : (((c + 1 : Nat) : Int) == 0) = false := beq_eq_false_iff_ne.2 (by omega)
    go_enter Tryz.func31, Tryz.ntmps31
    go_wp2_with (go_at_call 12; refine H.out.mono ?_; rintro e w' ⟨rfl, rfl⟩)
    go_ret
    exact ⟨rfl, rfl⟩
end Go.Proofs.YtadhpkopkkjmfaaGreatDoor
