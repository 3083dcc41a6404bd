/-
  On the way to WStepsProof: VN UG.
-/
import Derived.Test.YtbaamegnmeohoacGreatDoorBs18
import Derived.Test.YtbaamegnmeohoacGreatDoorBs15
import Derived.Laws.Externs
import Derived.Deep.RegionLaw
namespace Go.Proofs.YtbaamegnmeohoacGreatDoor
open Go.RowKit
theorem Held9.to3 {w : World} {A : Nat → Addr} (h : Held9 w A) : Held3 w A := fun i h1 h3 => by
  have hi : i = 1 ∨ i = 2 ∨ i = 3 := by omega
  rcases hi with rfl | rfl | rfl
  · exact h.var 1 (by decide)
  · exact h.var 2 (by decide)
  · exact h.var 3 (by decide)
theorem seeP_seen {P : PL} {p M : Int} (h0 : 0 ≤ P.seen) (h1 : P.seen ≤ M) (p0 : 0 ≤ p) (p1 : p ≤ M) : 0 ≤ (seeP P p).seen ∧ (seeP P p).seen ≤ M := by
  unfold seeP
  split
  · exact ⟨p0, p1⟩
  · exact ⟨h0, h1⟩
theorem phear_seen {zs : List Int} {id : Nat} {deal att : Int} {P : PL} {f : F9} {M : Int} (h0 : 0 ≤ P.seen) (h1 : P.seen ≤ M) (p0 : 0 ≤ f.pr) (p1 : f.pr ≤ M) : 0 ≤ (phear zs id deal att P f).1.seen ∧ (phear zs id deal att P f).1.seen ≤ M := by
  have hn : (noteP P f).seen = P.seen := rfl
  have hs := seeP_seen (P := noteP P f) (p := f.pr) (M := M) (by rw [hn]; exact h0) (by rw [hn]; exact h1) p0 p1
  unfold phear
  split
  · unfold takenP
    split
    · unfold voteP
      split
      · exact ⟨h0, h1⟩
      · split
        · exact ⟨h0, h1⟩
        · exact ⟨h0, h1⟩
    · split
      · exact hs
      · split
        · unfold tellP
          split
          · exact hs
          · split
            · exact hs
            · exact hs
        · unfold ackP
          split
          · exact hs
          · exact hs
  · exact ⟨h0, h1⟩
theorem phear_out {zs : List Int} {id : Nat} {deal att : Int} {P : PL} {f : F9} {x : Int × Int} (h : (phear zs id deal att P f).2 = some x) : (x.1 = 7 ∨ x.1 = 5) ∧ 0 ≤ x.2 ∧ x.2 ≤ 5 := by
  unfold phear at h
  split at h
  · unfold takenP at h
    split at h
    · unfold voteP at h
      split at h
      · obtain rfl := Option.some.inj h; exact ⟨.inl rfl, by decide, by decide⟩
      · split at h
        · obtain rfl := Option.some.inj h; exact ⟨.inr rfl, by decide, by decide⟩
        · cases h
    · split at h
      · cases h
      · split at h
        · unfold tellP at h
          split at h
          · cases h
          · generalize hc : chooseL _ = c at h
            have := choose_ways (toldS (seeP (noteP P f) f.pr).told f.f.toNat ⟨f.ph, f.pr, f.pa⟩)
            rw [hc] at this
            split at h
            · obtain rfl := Option.some.inj h
              refine ⟨.inl rfl, ?_⟩
              rcases this with rfl | rfl | rfl | rfl <;> exact ⟨by decide, by decide⟩
            · obtain rfl := Option.some.inj h
              refine ⟨.inr rfl, ?_⟩
              rcases this with rfl | rfl | rfl | rfl <;> exact ⟨by decide, by decide⟩
        · unfold ackP at h
          split at h
          · cases h
          · obtain rfl := Option.some.inj h
            refine ⟨.inl rfl, ?_⟩
            show 0 ≤ afterI _ ∧ afterI _ ≤ 5
            unfold afterI
            split
            · decide
            · split <;> decide
  · cases h
theorem toL_fi {n : Nat} {id d : Nat} {k a ph : Int} (hid : id < n) (hn : n ≤ 7) (hd : d < 6) (hk : 1 ≤ k ∧ k ≤ 7) (ha : 0 ≤ a ∧ a ≤ 1048576) (hp : 0 ≤ ph ∧ ph ≤ 5) : ∀ m, m ≤ n → ∀ f, f ∈ toL id d k a ph m → FI n f
  | 0, _, f, hf => by cases hf
  | m + 1, hm, f, hf => by
    rw [toL, List.mem_append] at hf
    rcases hf with hf | hf
    · exact toL_fi hid hn hd hk ha hp m (by omega) f hf
    · rw [List.mem_singleton] at hf
      subst hf
      refine ⟨by show (0 : Int) ≤ id; omega, by show (id : Int) < n; omega, by show (0 : Int) ≤ m; omega, by show (m : Int) < n; omega, ⟨?_, ?_, ?_, hk, ha, hp, by show (0 : Int) ≤ 0 ∧ (0 : Int) ≤ 1048576; decide, by show (0 : Int) ≤ 0 ∧ (0 : Int) ≤ 1048576; decide⟩⟩
      · show (0 : Int) ≤ id ∧ (id : Int) ≤ 6; omega
      · show (0 : Int) ≤ m ∧ (m : Int) ≤ 6; omega
      · show (0 : Int) ≤ d ∧ (d : Int) ≤ 5; omega
theorem outL_fi {zs : List Int} {id d : Nat} {att : Int} {P : PL} {f : F9} (hid : id < zs.length) (hn : zs.length ≤ 7) (hd : d < 6) (ha : 0 ≤ att ∧ att ≤ 1048576) : ∀ x, x ∈ outL id d att zs.length (phear zs id d att P f).2 → FI zs.length x := by
  intro x hx
  cases h : (phear zs id d att P f).2 with
  | none => rw [h] at hx; cases hx
  | some y =>
    rw [h] at hx
    have := phear_out h
    exact toL_fi hid hn hd (by omega) ha this.2 _ (Nat.le_refl _) x hx
section
variable {w0 w w' : World} {C : Nat → Nat} {K : NB} {X : XB} {i m m' : Nat} {zs : List Int} {N : PN} {V V' : PX} {A : Nat → Addr}
theorem ldV_set {d e : Nat} {x y : Int × PL} (h : N.ld d = some x) : ldV K (setLd N d y) e = ldV K N e := by
  unfold ldV setLd
  by_cases g : e = d
  · subst g; simp [h]
  · simp [g]
theorem ND.leadHear {d : Nat} {x : Int × PL} {P : PL} (h : ND w0 w C K i zs N m) (hd : d < 6) (hl : N.ld d = some x) (hL : LD w' (K.lb d) (K.b d) (K.cap d) i d x.1 zs P) (hk : Kept (In1 (K.lb d)) w w') (hlo : w0.heap.size ≤ K.lb d) : ND w0 w' C K i zs (setLd N d (x.1, P)) m := by
  have e1 := h.cs; have e2 := h.cj; have e3 := h.cm; have e4 := h.cp; have e5 := h.cq; have e6 := h.cn
  have g0 := h.cl d hd x hl
  have nS : ∀ y, C y ≠ 100 * i + 10 + d → ¬ In1 (K.lb d) y := fun y g hy => by rw [show y = K.lb d from hy] at g; exact g g0.1
  have hlo' : ∀ y, In1 (K.lb d) y → w0.heap.size ≤ y := fun y hy => by rw [show y = K.lb d from hy]; exact hlo
  have hrow : ndC K (setLd N d (x.1, P)) = ndC K N := by unfold ndC; simp only [ldV_set hl]
  refine ⟨by rw [hrow]; exact hk.row h.row (nS _ (by omega)), h.sp.far hk hlo' (fun y hy => nS y (by rcases hy with rfl | rfl | rfl <;> omega)) (nS _ (by omega)) (nS _ (by omega)), fun e he y hy => ?_, h.cn, h.cs, h.cj, h.cm, h.cp, h.cq, fun e he y hy => ?_, h.n0⟩
  · by_cases g : e = d
    · subst g
      have hy' : (x.1, P) = y := by simpa [setLd] using hy
      subst hy'
      exact hL
    · have hy' : N.ld e = some y := by simpa [setLd, g] using hy
      have g1 := h.cl e he y hy'
      exact (h.lds e he y hy').kept hk (nS _ (by omega)) (nS _ (by omega))
  · by_cases g : e = d
    · subst g; exact h.cl e he x hl
    · exact h.cl e he y (by simpa [setLd, g] using hy)
theorem NI.leadHear {n d : Nat} {x : Int × PL} {P : PL} (h : NI n N m) (hl : N.ld d = some x) (h1 : P.stt < 4) (h2 : 0 ≤ P.seen ∧ P.seen ≤ 1048576) (h3 : PW n P) : NI n (setLd N d (x.1, P)) m := by
  refine ⟨h.gd, h.nm, h.sz, h.up, h.l0, h.l1, fun e y hy => ?_⟩
  by_cases g : e = d
  · subst g
    have hy' : (x.1, P) = y := by simpa [setLd] using hy
    subst hy'
    have := h.ld e x hl
    exact ⟨this.1, this.2.1, h1, h2, h3⟩
  · exact h.ld e y (by simpa [setLd, g] using hy)
theorem lead_out {W2 w3 : World} {d : Nat} {x : Int × PL} {F : F9} {v : Value} (h : WD w0 w C X zs V m) (hb : Below w.heap.size w W2) (hi : i < zs.length) (hd : d < 6) (hl : (V.nd i).ld d = some x) (hf : FrB W2.heap.size w3 v (outL i d x.1 zs.length (phear zs i d x.1 x.2 F).2)) (hL : LD w3 ((X.K i).lb d) ((X.K i).b d) ((X.K i).cap d) i d x.1 zs (phear zs i d x.1 x.2 F).1) (hk : Kept (In1 ((X.K i).lb d)) W2 w3) (hF : FI zs.length F) :
    WOutF w0 w w3 C X zs (leadX zs V i d F) (m + 1) v (leadO zs V i d F) := by
  have h2 := h.later hb
  have g0 := (h2.nds i hi).cl d hd x hl
  have hlo : w0.heap.size ≤ (X.K i).lb d := h.low _ (by have := h.n7.2; omega)
  have hni := (h.inv.nd i hi).ld d x hl
  have hp := hF.ok.2.2.2.2.2.2.1
  have hkc : Kept (fun y => C y / 100 = i) W2 w3 := hk.mono (fun y hy => by rw [show y = _ from hy]; show C _ / 100 = i; omega)
  have hI := (h.inv.nd i hi).leadHear hl (phear_st hni.2.2.1) (phear_seen (zs := zs) (id := i) (deal := d) (att := x.1) hni.2.2.2.1.1 hni.2.2.2.1.2 hp.1 hp.2) hL.pw
  have e1 : leadX zs V i d F = setNd V i (setLd (V.nd i) d (x.1, (phear zs i d x.1 x.2 F).1)) := by unfold leadX; rw [hl]
  have e2 : leadO zs V i d F = outL i d x.1 zs.length (phear zs i d x.1 x.2 F).2 := by unfold leadO; rw [hl]
  rw [e1, e2]
  have n7 := h.n7.2
  refine ⟨C, _, h2.node hkc hi (fun y hy => hy) (fun _ _ => rfl) (fun y hy hc => by have := h2.lt y hc; omega) (((h2.nds i hi).leadHear hd hl hL hk hlo).mono (Nat.le_succ _)) rfl (Nat.le_succ _) (h2.inv.node (hI.mono (Nat.le_succ _)) (Nat.le_succ _)), key_K rfl, (Kept.of_below hb).trans (hkc.mono (fun y hy => by show C y < 2000; omega)), fun _ _ => rfl, (FrF.of_b hf (fun y hy => ?_)).mono hb.size⟩
  rcases Nat.lt_or_ge (C y) 2000 with q | q
  · have := h.lt y q
    have := hb.size
    omega
  · exact q
set_option maxRecDepth 100000 in
theorem arrive_none (f d k a ph pr pa : Nat) (y : Bool) (hl : (V.nd i).ld d = none) (h : WD w0 w C X zs V m) (hE : Held9 w0 A) (hi : i < zs.length) (hf : FI zs.length (frN f i d k a y ph pr pa)) (hk : ((k : Int) == 2) = true ∨ (((k : Int) == 2) = false ∧ ((k : Int) == 4) = true) ∨ (((k : Int) == 2) = false ∧ ((k : Int) == 4) = false ∧ ((k : Int) == 6) = true)) (hd : d < 6) :
    Calls Tryz.prog 123 #[.pointer (some ⟨X.xb, 0, none⟩), frV (f : Int) (i : Int) (d : Int) (k : Int) (a : Int) y (ph : Int) (pr : Int) (pa : Int)] w fun e w' => ∃ v, e = .returned v ∧ WOutF w0 w w' C X zs V (m + 1) v [] := by
  obtain ⟨W, HW⟩ : ∃ W, Hid (w.alloc (.cells #[.int .i64 (f : Int), .int .i64 (i : Int), .int .i64 (d : Int), .int .i64 (k : Int), .int .i64 (a : Int), .bool y, .int .i64 (ph : Int), .int .i64 (pr : Int), .int .i64 (pa : Int)] 130) = W) := ⟨_, rfl⟩
  have HB : Hid (Below w.heap.size w W) := by rw [← HW.out]; exact (Below.refl _ _).alloc (Nat.le_refl _) _
  have HR : Hid (W.heap[w.heap.size]? = some (.cells #[.int .i64 (f : Int), .int .i64 (i : Int), .int .i64 (d : Int), .int .i64 (k : Int), .int .i64 (a : Int), .bool y, .int .i64 (ph : Int), .int .i64 (pr : Int), .int .i64 (pa : Int)] 130 (0, 0))) := by rw [← HW.out]; exact heap_alloc_new w _
  obtain ⟨b0, b1, b2, b3, b4, b5, b6, b7, b8⟩ := nine HR.out
  have H0 := hid h
  have H1 := hid (h.later HB.out)
  have HE := hid hE
  have HI := hid hi
  have HFI := hid hf
  obtain ⟨-, c1, -, -, -⟩ := H1.out.cells
  have c2 := H1.out.ns i hi
  have c3 := (H1.out.nds i hi).lead hd
  obtain ⟨n, hn7⟩ : ∃ n, Hid (zs.length = n) := ⟨_, rfl⟩
  have n7 := h.n7
  rw [hn7.out] at c1 hi n7
  have hW := HW.out
  rw [ldV_none hl] at c3
  clear h hE hf hl
  rcases hk with hk | hk | hk
  all_goals
    go_enter Tryz.func123, Tryz.ntmps123
    go_wp2_with fail
    go_quiet (fail)
    rename_i nq
    obtain ⟨W2, HW2⟩ : ∃ W2, Hid (W.drewN nq = W2) := ⟨_, rfl⟩
    have HB2 : Hid (Below w.heap.size w W2) := by rw [← HW2.out]; exact below_drewN HB.out nq
    have hW2 := HW2.out
    rw [hW2]
    have HR2 : Hid (W2.heap[w.heap.size]? = some (.cells #[.int .i64 (f : Int), .int .i64 (i : Int), .int .i64 (d : Int), .int .i64 (k : Int), .int .i64 (a : Int), .bool y, .int .i64 (ph : Int), .int .i64 (pr : Int), .int .i64 (pa : Int)] 130 (0, 0))) := by rw [← HW2.out]; exact HR.out
    clear hW2 b0 b1 b2 b3 b4 b5 b6 b7 b8 c1 c2 c3 hW
    obtain ⟨b0, b1, b2, b3, b4, b5, b6, b7, b8⟩ := nine HR2.out
    have H2 := hid (H0.out.later HB2.out)
    go_wp2_with fail
    go_ret
    refine ⟨_, rfl, ?_⟩
    exact ⟨C, X, H2.out.mono (Nat.le_succ _), rfl, Kept.of_below HB2.out, fun _ _ => rfl, FrF.nil _ _ _⟩
set_option maxRecDepth 100000 in
theorem arrive_some (f d k a ph pr pa : Nat) (y : Bool) (x : Int × PL) (hl : (V.nd i).ld d = some x) (h : WD w0 w C X zs V m) (hE : Held9 w0 A) (hi : i < zs.length) (hf : FI zs.length (frN f i d k a y ph pr pa)) (hk : ((k : Int) == 2) = true ∨ (((k : Int) == 2) = false ∧ ((k : Int) == 4) = true) ∨ (((k : Int) == 2) = false ∧ ((k : Int) == 4) = false ∧ ((k : Int) == 6) = true)) (hd : d < 6) :
    Calls Tryz.prog 123 #[.pointer (some ⟨X.xb, 0, none⟩), frV (f : Int) (i : Int) (d : Int) (k : Int) (a : Int) y (ph : Int) (pr : Int) (pa : Int)] w fun e w' => ∃ v, e = .returned v ∧ WOutF w0 w w' C X zs (leadX zs V i d (frN f i d k a y ph pr pa)) (m + 1) v (leadO zs V i d (frN f i d k a y ph pr pa)) := by
  obtain ⟨W, HW⟩ : ∃ W, Hid (w.alloc (.cells #[.int .i64 (f : Int), .int .i64 (i : Int), .int .i64 (d : Int), .int .i64 (k : Int), .int .i64 (a : Int), .bool y, .int .i64 (ph : Int), .int .i64 (pr : Int), .int .i64 (pa : Int)] 130) = W) := ⟨_, rfl⟩
  have HB : Hid (Below w.heap.size w W) := by rw [← HW.out]; exact (Below.refl _ _).alloc (Nat.le_refl _) _
  have HR : Hid (W.heap[w.heap.size]? = some (.cells #[.int .i64 (f : Int), .int .i64 (i : Int), .int .i64 (d : Int), .int .i64 (k : Int), .int .i64 (a : Int), .bool y, .int .i64 (ph : Int), .int .i64 (pr : Int), .int .i64 (pa : Int)] 130 (0, 0))) := by rw [← HW.out]; exact heap_alloc_new w _
  obtain ⟨b0, b1, b2, b3, b4, b5, b6, b7, b8⟩ := nine HR.out
  have H0 := hid h
  have H1 := hid (h.later HB.out)
  have HE := hid hE
  have HI := hid hi
  have HFI := hid hf
  obtain ⟨-, c1, -, -, -⟩ := H1.out.cells
  have c2 := H1.out.ns i hi
  have c3 := (H1.out.nds i hi).lead hd
  obtain ⟨n, hn7⟩ : ∃ n, Hid (zs.length = n) := ⟨_, rfl⟩
  have n7 := h.n7
  rw [hn7.out] at c1 hi n7
  have hW := HW.out
  have HLd := hid hl
  have HP := hid ((h.inv.nd i (by rw [hn7.out]; exact hi)).ld d x hl).2.2.1
  rw [ldV_some hl] at c3
  clear h hE hf hl
  rcases hk with hk | hk | hk
  all_goals
    go_enter Tryz.func123, Tryz.ntmps123
    go_wp2_with fail
    go_quiet (fail)
    rename_i nq
    obtain ⟨W2, HW2⟩ : ∃ W2, Hid (W.drewN nq = W2) := ⟨_, rfl⟩
    have HB2 : Hid (Below w.heap.size w W2) := by rw [← HW2.out]; exact below_drewN HB.out nq
    have hW2 := HW2.out
    rw [hW2]
    have HR2 : Hid (W2.heap[w.heap.size]? = some (.cells #[.int .i64 (f : Int), .int .i64 (i : Int), .int .i64 (d : Int), .int .i64 (k : Int), .int .i64 (a : Int), .bool y, .int .i64 (ph : Int), .int .i64 (pr : Int), .int .i64 (pa : Int)] 130 (0, 0))) := by rw [← HW2.out]; exact HR.out
    clear hW2 b0 b1 b2 b3 b4 b5 b6 b7 b8 c1 c2 c3 hW
    obtain ⟨b0, b1, b2, b3, b4, b5, b6, b7, b8⟩ := nine HR2.out
    have H2 := hid (H0.out.later HB2.out)
    go_wp2_with fail
    refine (ldhear_any A (f : Int) (i : Int) (d : Int) (k : Int) (a : Int) y (ph : Int) (pr : Int) (pa : Int) H0.out.inv.he HP.out (H2.out.held HE.out).to3 ((H2.out.nds i HI.out).lds d hd x HLd.out)).mono ?_
    rintro e w3 ⟨v, rfl, hf3, hl3, hk3⟩
    have HA3 := hid (And.intro hf3 (And.intro hl3 hk3))
    clear hf3 hl3 hk3
    go_wp2_with fail
    go_ret
    refine ⟨_, rfl, ?_⟩
    exact lead_out H0.out HB2.out HI.out hd HLd.out HA3.out.1 HA3.out.2.1 HA3.out.2.2 HFI.out
set_option maxRecDepth 100000 in
theorem arrive_hear (f d k a ph pr pa : Nat) (y : Bool) (h : WD w0 w C X zs V m) (hE : Held9 w0 A) (hi : i < zs.length) (hf : FI zs.length (frN f i d k a y ph pr pa)) (hk : ((k : Int) == 2) = false ∧ ((k : Int) == 4) = false ∧ ((k : Int) == 6) = false) (hd : d < 6) (hu : (V.nd i).l ≠ -2) (hm : m < 1000000) :
    Calls Tryz.prog 123 #[.pointer (some ⟨X.xb, 0, none⟩), frV (f : Int) (i : Int) (d : Int) (k : Int) (a : Int) y (ph : Int) (pr : Int) (pa : Int)] w fun e w' => ∃ v, e = .returned v ∧ WOutF w0 w w' C X zs (hearX V i (frN f i d k a y ph pr pa)) (m + 2) v (ansN i (V.nd i) (frN f i d k a y ph pr pa)) := by
  obtain ⟨W, HW⟩ : ∃ W, Hid (w.alloc (.cells #[.int .i64 (f : Int), .int .i64 (i : Int), .int .i64 (d : Int), .int .i64 (k : Int), .int .i64 (a : Int), .bool y, .int .i64 (ph : Int), .int .i64 (pr : Int), .int .i64 (pa : Int)] 130) = W) := ⟨_, rfl⟩
  have HB : Hid (Below w.heap.size w W) := by rw [← HW.out]; exact (Below.refl _ _).alloc (Nat.le_refl _) _
  have HR : Hid (W.heap[w.heap.size]? = some (.cells #[.int .i64 (f : Int), .int .i64 (i : Int), .int .i64 (d : Int), .int .i64 (k : Int), .int .i64 (a : Int), .bool y, .int .i64 (ph : Int), .int .i64 (pr : Int), .int .i64 (pa : Int)] 130 (0, 0))) := by rw [← HW.out]; exact heap_alloc_new w _
  obtain ⟨b0, b1, b2, b3, b4, b5, b6, b7, b8⟩ := nine HR.out
  have H0 := hid h
  have H1 := hid (h.later HB.out)
  have HE := hid hE
  have HI := hid hi
  have HFI := hid hf
  obtain ⟨-, c1, -, -, -⟩ := H1.out.cells
  have c2 := H1.out.ns i hi
  have c3 := (H1.out.nds i hi).lead hd
  obtain ⟨n, hn7⟩ : ∃ n, Hid (zs.length = n) := ⟨_, rfl⟩
  have n7 := h.n7
  rw [hn7.out] at c1 hi n7
  have hW := HW.out
  obtain ⟨hk, hk4, hk6⟩ := hk
  have HU := hid hu
  clear h hE hf hu
  go_enter Tryz.func123, Tryz.ntmps123
  go_wp2_with fail
  refine (whear_any f d k a ph pr pa y _ rfl H1.out HE.out HI.out HU.out HFI.out hm).mono ?_
  rintro e w3 ⟨v, rfl, ho⟩
  have HO := hid ho
  clear ho
  go_wp2_with fail
  go_ret
  refine ⟨_, rfl, ?_⟩
  obtain ⟨C', X', x1, x2, x3, x4, x5⟩ := HO.out
  exact ⟨C', X', x1, x2, (Kept.of_below HB.out).trans x3, fun x hx => x4 x (Nat.lt_of_lt_of_le hx HB.out.size), x5.mono HB.out.size⟩
theorem WOutF.mono {v : Value} {L : List F9} (h : WOutF w0 w w' C X zs V m v L) (hm : m ≤ m') : WOutF w0 w w' C X zs V m' v L := by
  obtain ⟨C', X', x1, x2, x3, x4, x5⟩ := h
  exact ⟨C', X', x1.mono hm, x2, x3, x4, x5⟩
theorem arrive_any (f d k a ph pr pa : Nat) (y : Bool) (F : F9) (hF : F = frN f i d k a y ph pr pa) (h : WD w0 w C X zs V m) (hE : Held9 w0 A) (hi : i < zs.length) (hu : (V.nd i).l ≠ -2) (hf : FI zs.length F) (hm : m < 1000000) :
    Calls Tryz.prog 123 #[.pointer (some ⟨X.xb, 0, none⟩), frV (f : Int) (i : Int) (d : Int) (k : Int) (a : Int) y (ph : Int) (pr : Int) (pa : Int)] w fun e w' => ∃ v, e = .returned v ∧ WOutF w0 w w' C X zs (arriveX zs V F) (m + 2) v (arriveO zs V F) := by
  subst hF
  have hd : d < 6 := by have : (0 : Int) ≤ d ∧ (d : Int) ≤ 5 := hf.ok.2.2.1; omega
  by_cases hk : k = 2 ∨ k = 4 ∨ k = 6
  · have e1 : arriveX zs V (frN f i d k a y ph pr pa) = leadX zs V i d (frN f i d k a y ph pr pa) := by
      unfold arriveX isAns
      rw [if_pos (by show decide ((k : Int) = 2 ∨ (k : Int) = 4 ∨ (k : Int) = 6) = true; exact decide_eq_true (by omega))]
      rfl
    have e2 : arriveO zs V (frN f i d k a y ph pr pa) = leadO zs V i d (frN f i d k a y ph pr pa) := by
      unfold arriveO isAns
      rw [if_pos (by show decide ((k : Int) = 2 ∨ (k : Int) = 4 ∨ (k : Int) = 6) = true; exact decide_eq_true (by omega))]
      rfl
    rw [e1, e2]
    cases hl : (V.nd i).ld d with
    | none =>
      have e3 : leadX zs V i d (frN f i d k a y ph pr pa) = V := by unfold leadX; rw [hl]
      have e4 : leadO zs V i d (frN f i d k a y ph pr pa) = [] := by unfold leadO; rw [hl]
      rw [e3, e4]
      have hk' : ((k : Int) == 2) = true ∨ (((k : Int) == 2) = false ∧ ((k : Int) == 4) = true) ∨ (((k : Int) == 2) = false ∧ ((k : Int) == 4) = false ∧ ((k : Int) == 6) = true) := by rcases hk with rfl | rfl | rfl <;> decide
      refine (arrive_none f d k a ph pr pa y hl h hE hi hf hk' hd).mono ?_
      rintro e w1 ⟨v, h1, h2⟩
      exact ⟨v, h1, h2.mono (Nat.le_succ _)⟩
    | some x =>
      have hk' : ((k : Int) == 2) = true ∨ (((k : Int) == 2) = false ∧ ((k : Int) == 4) = true) ∨ (((k : Int) == 2) = false ∧ ((k : Int) == 4) = false ∧ ((k : Int) == 6) = true) := by rcases hk with rfl | rfl | rfl <;> decide
      refine (arrive_some f d k a ph pr pa y x hl h hE hi hf hk' hd).mono ?_
      rintro e w1 ⟨v, h1, h2⟩
      exact ⟨v, h1, h2.mono (Nat.le_succ _)⟩
  · have e1 : arriveX zs V (frN f i d k a y ph pr pa) = hearX V i (frN f i d k a y ph pr pa) := by
      unfold arriveX isAns
      rw [if_neg (by show ¬ decide ((k : Int) = 2 ∨ (k : Int) = 4 ∨ (k : Int) = 6) = true; rw [decide_eq_true_iff]; omega)]
      rfl
    have e2 : arriveO zs V (frN f i d k a y ph pr pa) = ansN i (V.nd i) (frN f i d k a y ph pr pa) := by
      unfold arriveO isAns
      rw [if_neg (by show ¬ decide ((k : Int) = 2 ∨ (k : Int) = 4 ∨ (k : Int) = 6) = true; rw [decide_eq_true_iff]; omega)]
      rfl
    rw [e1, e2]
    exact arrive_hear f d k a ph pr pa y h hE hi hf ⟨beq_eq_false_iff_ne.2 (by omega), beq_eq_false_iff_ne.2 (by omega), beq_eq_false_iff_ne.2 (by omega)⟩ hd hu hm
theorem arriveO_fi {F : F9} (h : XI zs V m) (hu : (V.nd F.t.toNat).l ≠ -2) (hf : FI zs.length F) (hm : m < 1000000) : (∀ x, x ∈ arriveO zs V F → FI zs.length x) ∧ (arriveO zs V F).length ≤ 7 := by
  have ht : F.t.toNat < zs.length := by have := hf.t0; have := hf.t1; omega
  have hd : F.d.toNat < 6 := by have := hf.ok.2.2.1; omega
  have n7 := (errW_zero h.he).2.1
  unfold arriveO
  split
  · unfold leadO
    cases hl : (V.nd F.t.toNat).ld F.d.toNat with
    | none => exact ⟨fun x hx => (by cases hx), Nat.zero_le _⟩
    | some x => exact ⟨outL_fi ht n7 hd ((h.nd _ ht).ld _ x hl).2.1, Nat.le_trans (outL_le _ _ _ _ _) n7⟩
  · exact ⟨ansN_fi (h.nd _ ht) hu hf (by omega) (by have := hf.t0; omega), Nat.le_trans ansN_len (by decide)⟩
end
theorem run_copy_frs (w : World) (sT ty : TypeId) (b o dLen dCap : Nat) (a : Addr) (sLen sCap n : Nat) (cs : List Value) (hn : Nat.min sLen dLen = n) (hl : cs.length = n * 9)
    (hsrc : ∀ j v, cs[j]? = some v → w.cell? (a.add j) = some v) (hc : ∀ j, j < cs.length → (w.cell? ⟨b, o + j, none⟩).isSome = true) (hf : ∀ j, j < cs.length → w.frozen? ⟨b, o + j, none⟩ = false) (h1 : ∀ v ∈ cs, v.oneCell' = true) :
    (Builtin.copy_ #[49, sT] ty #[.slice (some ⟨b, o, none⟩) dLen dCap, .slice (some a) sLen sCap]).run Tryz.prog w = .ok (goInt n) (w.setCells b o cs) := by
  obtain ⟨i0, hi0, hz0, hz1, hz2⟩ := info_parts Tryz.infoFq
  have hl2 := run_firstCells_some (P := Tryz.prog) w 9 n a sLen sCap cs hl hsrc
  have hst := run_storeCells_cells (P := Tryz.prog) b o cs 0 w (by simpa using hc) (by simpa using hf) h1
  simp only [Nat.add_zero] at hst
  simp [Builtin.copy_, run_underlying Tryz.underlying49, Builtin.lenOf, Go.sizeOf, typeInfo, hi0, hz1, hn, hl2, hst]
theorem wp_copy_runF (w : World) {o : Oper} {a : Act} {K : Act → World → Prop} {Q : Exit → Act → World → Prop} (d s : Operand) (t t' : TypeId)
    (ho : o.op = .call { callee := .builtin .copy, args := #[d, s], argTypes := #[t, t'] }) (v u : Value) (hd : a.eval d = v) (hs : a.eval s = u) {v' : Value} {w' : World}
    (hr : (Builtin.copy_ #[t, t'] o.type #[v, u]).run Tryz.prog w = .ok v' w') (h : K (a.put o.dst v') w') : o.wp Tryz.prog a w K Q := by
  unfold Oper.wp execOp
  simp only [ho, resolve, invoke, builtin, Sem.run_bind, Sem.run_pure, Result.andThen_ok, List.map_toArray, List.map_cons, List.map_nil, hd, hs, hr]
  exact h
theorem wpList_copy_runF (w : World) {ops : Array Oper} {rest : List Oper} {o : Oper} {a : Act} {Q : Exit → Act → World → Prop} (hgd : o.guard = none) (d s : Operand) (t t' : TypeId)
    (ho : o.op = .call { callee := .builtin .copy, args := #[d, s], argTypes := #[t, t'] }) (v u : Value) (hd : a.eval d = v) (hs : a.eval s = u) {v' : Value} {w' : World}
    (hr : (Builtin.copy_ #[t, t'] o.type #[v, u]).run Tryz.prog w = .ok v' w') (h : wpList Tryz.prog ops Q rest (a.put o.dst v') w') : wpList Tryz.prog ops Q (o :: rest) a w :=
  wpList_plain hgd fun _ hK => wp_copy_runF w d s t t' ho v u hd hs hr (hK _ _ h)
theorem step_copy_runF {ops : Array Oper} {o : Oper} {a : Act} {w : World} {K : Act → World → Prop} {Q : Exit → Act → World → Prop} {E : Prop}
    (hg : o.guard = none) (d x : Operand) (dT sT : TypeId) (hop : o.op = Op.call { callee := Callee.builtin Builtin.copy, args := #[d, x], argTypes := #[dT, sT] })
    (v u : Value) (hd : a.eval d = v) (hx : a.eval x = u) {v' : Value} {w' : World} (hr : (Builtin.copy_ #[dT, sT] o.type #[v, u]).run Tryz.prog w = .ok v' w') (hK : K (a.put o.dst v') w') :
    if Region.wanted o (yielded ops a.tmps) = true then Oper.wp Tryz.prog o a w K Q else E := by
  have hw : Region.wanted o (yielded ops a.tmps) = true := by simp [Region.wanted, hg]
  rw [if_pos hw]
  exact wp_copy_runF w d x dT sT hop v u hd hx hr hK
theorem sizeFr (w : World) : (Go.sizeOf 130).run Tryz.prog w = .ok 9 w := by kernel_rfl
end Go.Proofs.YtbaamegnmeohoacGreatDoor
