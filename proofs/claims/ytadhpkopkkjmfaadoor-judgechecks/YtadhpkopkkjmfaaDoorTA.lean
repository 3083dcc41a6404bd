/-
  PLAIN: what states decide: the greatest attempt of a phase, the program's choice, the document's choice; they are the same, and only which states there are makes a difference.
-/
import Derived.Test.YtadhpkopkkjmfaaDoorZ0
namespace Go.Proofs.YtadhpkopkkjmfaaDoor

/-- A state: its phase, its promise, its attempt, whatever numbers they are. -/
structure S3 where
  p : Int
  r : Int
  a : Int
def hasP (p : Int) (L : List S3) : Bool := L.any fun s => decide (s.p = p)
theorem hasP_iff (p : Int) (L : List S3) : hasP p L = true ↔ ∃ s, s ∈ L ∧ s.p = p := by simp [hasP]
/-- One state more in the search for the greatest attempt of a phase. -/
def grS (p : Int) (x : Int × Bool) (s : S3) : Int × Bool := if s.p = p ∧ (x.2 = false ∨ x.1 < s.a) then (s.a, true) else x
def gr (p : Int) (L : List S3) : Int × Bool := L.foldl (grS p) (0, false)
theorem gr_snoc (p : Int) (L : List S3) (s : S3) : gr p (L ++ [s]) = grS p (gr p L) s := by simp [gr, List.foldl_append]
/-- What the search has found. -/
def GrOf (p : Int) (L : List S3) (x : Int × Bool) : Prop :=
  (x.2 = true ∧ (∃ s, s ∈ L ∧ s.p = p ∧ s.a = x.1) ∧ ∀ s, s ∈ L → s.p = p → s.a ≤ x.1) ∨ (x = (0, false) ∧ ∀ s, s ∈ L → s.p ≠ p)
theorem grS_of {p : Int} {L : List S3} {x : Int × Bool} (s : S3) (h : GrOf p L x) : GrOf p (L ++ [s]) (grS p x s) := by
  obtain ⟨m, is⟩ := x
  unfold grS
  rcases h with ⟨h1, ⟨t, ht, hp, ha⟩, h3⟩ | ⟨h1, h2⟩
  · simp only at h1 ha h3
    subst h1
    by_cases hc : s.p = p ∧ ((true : Bool) = false ∨ m < s.a)
    · rw [if_pos hc]
      refine .inl ⟨rfl, ⟨s, by simp, hc.1, rfl⟩, fun u hu hup => ?_⟩
      rcases List.mem_append.1 hu with hu | hu
      · have := h3 u hu hup
        rcases hc.2 with h | h
        · cases h
        · show u.a ≤ s.a; omega
      · obtain rfl : u = s := by simpa using hu
        exact Int.le_refl _
    · rw [if_neg hc]
      refine .inl ⟨rfl, ⟨t, by simp [ht], hp, ha⟩, fun u hu hup => ?_⟩
      rcases List.mem_append.1 hu with hu | hu
      · exact h3 u hu hup
      · obtain rfl : u = s := by simpa using hu
        have : ¬ m < u.a := fun h => hc ⟨hup, .inr h⟩
        show u.a ≤ m; omega
  · obtain ⟨rfl, rfl⟩ : m = 0 ∧ is = false := by simpa using h1
    by_cases hc : s.p = p
    · rw [if_pos ⟨hc, .inl rfl⟩]
      refine .inl ⟨rfl, ⟨s, by simp, hc, rfl⟩, fun u hu hup => ?_⟩
      rcases List.mem_append.1 hu with hu | hu
      · exact absurd hup (h2 u hu)
      · obtain rfl : u = s := by simpa using hu
        exact Int.le_refl _
    · rw [if_neg (fun h => hc h.1)]
      refine .inr ⟨rfl, fun u hu => ?_⟩
      rcases List.mem_append.1 hu with hu | hu
      · exact h2 u hu
      · obtain rfl : u = s := by simpa using hu
        exact hc
theorem snoc_rec {α : Type} {C : List α → Prop} (h0 : C []) (h1 : ∀ l x, C l → C (l ++ [x])) (l : List α) : C l := by
  have : ∀ n, ∀ l : List α, l.length = n → C l := by
    intro n
    induction n with
    | zero => intro l hl; cases l with
      | nil => exact h0
      | cons x r => simp at hl
    | succ n ih =>
      intro l hl
      have hne : l ≠ [] := by intro h; subst h; simp at hl
      have e := List.dropLast_concat_getLast hne
      rw [← e]
      exact h1 _ _ (ih _ (by rw [List.length_dropLast]; omega))
  exact this _ l rfl
theorem gr_of (p : Int) (L : List S3) : GrOf p L (gr p L) := by
  refine snoc_rec (C := fun L => GrOf p L (gr p L)) ?_ ?_ L
  · exact .inr ⟨rfl, fun s hs => by cases hs⟩
  · intro l s ih
    rw [gr_snoc]
    exact grS_of s ih
theorem gr_has (p : Int) (L : List S3) : (gr p L).2 = hasP p L := by
  rcases gr_of p L with ⟨h1, ⟨t, ht, hp, -⟩, -⟩ | ⟨h1, h2⟩
  · rw [h1]; exact ((hasP_iff p L).2 ⟨t, ht, hp⟩).symm
  · rw [h1]
    refine (Bool.eq_false_iff.2 fun h => ?_).symm
    obtain ⟨s, hs, hp⟩ := (hasP_iff p L).1 h
    exact h2 s hs hp
/-- Only which states there are makes a difference. -/
theorem gr_same (p : Int) (L M : List S3) (h : ∀ s, s ∈ L ↔ s ∈ M) : gr p L = gr p M := by
  rcases gr_of p L with ⟨h1, ⟨t, ht, hp, ha⟩, h3⟩ | ⟨h1, h2⟩
  · rcases gr_of p M with ⟨g1, ⟨u, hu, up, ua⟩, g3⟩ | ⟨g1, g2⟩
    · have a1 := g3 t ((h t).1 ht) hp
      have a2 := h3 u ((h u).2 hu) up
      refine Prod.ext ?_ (h1.trans g1.symm)
      omega
    · exact absurd hp (g2 t ((h t).1 ht))
  · rcases gr_of p M with ⟨g1, ⟨u, hu, up, ua⟩, g3⟩ | ⟨g1, g2⟩
    · exact absurd up (h2 u ((h u).2 hu))
    · rw [h1, g1]
/-- The program's choice. -/
def chooseL (L : List S3) : Int × Bool :=
  if (gr 2 L).2 = true then (2, true) else if (gr 3 L).2 = true then (3, true)
  else if (gr 4 L).2 = true ∧ ((gr 5 L).2 = false ∨ (gr 5 L).1 ≤ (gr 4 L).1) then (4, false) else (5, false)
theorem choose_same (L M : List S3) (h : ∀ s, s ∈ L ↔ s ∈ M) : chooseL L = chooseL M := by
  unfold chooseL
  rw [gr_same 2 L M h, gr_same 3 L M h, gr_same 4 L M h, gr_same 5 L M h]
theorem choose_turned (L : List S3) (k : Nat) : chooseL (L.drop k ++ L) = chooseL L := by
  refine choose_same _ _ fun s => ?_
  rw [List.mem_append]
  exact ⟨fun h => h.elim (fun h => List.mem_of_mem_drop h) id, .inr⟩
/-- The document's choice: the greatest attempt of all that are prepared first. -/
def beS (x : Bool × Int) (s : S3) : Bool × Int := if s.p = 4 ∨ s.p = 5 then (false, if x.1 = true ∨ x.2 < s.a then s.a else x.2) else x
def be (L : List S3) : Bool × Int := L.foldl beS (true, 0)
theorem be_snoc (L : List S3) (s : S3) : be (L ++ [s]) = beS (be L) s := by simp [be, List.foldl_append]
def BeOf (L : List S3) (x : Bool × Int) : Prop :=
  (x.1 = false ∧ (∃ s, s ∈ L ∧ (s.p = 4 ∨ s.p = 5) ∧ s.a = x.2) ∧ ∀ s, s ∈ L → (s.p = 4 ∨ s.p = 5) → s.a ≤ x.2) ∨ (x = (true, 0) ∧ ∀ s, s ∈ L → ¬ (s.p = 4 ∨ s.p = 5))
theorem beS_of {L : List S3} {x : Bool × Int} (s : S3) (h : BeOf L x) : BeOf (L ++ [s]) (beS x s) := by
  obtain ⟨is, m⟩ := x
  unfold beS
  by_cases hc : s.p = 4 ∨ s.p = 5
  · rw [if_pos hc]
    rcases h with ⟨h1, ⟨t, ht, hp, ha⟩, h3⟩ | ⟨h1, h2⟩
    · simp only at h1 ha h3
      subst h1
      by_cases hm : m < s.a
      · rw [if_pos (.inr hm)]
        refine .inl ⟨rfl, ⟨s, by simp, hc, rfl⟩, fun u hu hup => ?_⟩
        rcases List.mem_append.1 hu with hu | hu
        · have := h3 u hu hup
          show u.a ≤ s.a; omega
        · obtain rfl : u = s := by simpa using hu
          exact Int.le_refl _
      · rw [if_neg (by simpa using hm)]
        refine .inl ⟨rfl, ⟨t, by simp [ht], hp, ha⟩, fun u hu hup => ?_⟩
        rcases List.mem_append.1 hu with hu | hu
        · exact h3 u hu hup
        · obtain rfl : u = s := by simpa using hu
          show u.a ≤ m; omega
    · obtain ⟨rfl, rfl⟩ : is = true ∧ m = 0 := by simpa using h1
      rw [if_pos (.inl rfl)]
      refine .inl ⟨rfl, ⟨s, by simp, hc, rfl⟩, fun u hu hup => ?_⟩
      rcases List.mem_append.1 hu with hu | hu
      · exact absurd hup (h2 u hu)
      · obtain rfl : u = s := by simpa using hu
        exact Int.le_refl _
  · rw [if_neg hc]
    rcases h with ⟨h1, ⟨t, ht, hp, ha⟩, h3⟩ | ⟨h1, h2⟩
    · refine .inl ⟨h1, ⟨t, by simp [ht], hp, ha⟩, fun u hu hup => ?_⟩
      rcases List.mem_append.1 hu with hu | hu
      · exact h3 u hu hup
      · obtain rfl : u = s := by simpa using hu
        exact absurd hup hc
    · refine .inr ⟨h1, fun u hu => ?_⟩
      rcases List.mem_append.1 hu with hu | hu
      · exact h2 u hu
      · obtain rfl : u = s := by simpa using hu
        exact hc
theorem be_of (L : List S3) : BeOf L (be L) := by
  refine snoc_rec (C := fun L => BeOf L (be L)) ?_ ?_ L
  · exact .inr ⟨rfl, fun s hs => by cases hs⟩
  · intro l s ih
    rw [be_snoc]
    exact beS_of s ih
def preL (b : Int) (L : List S3) : Bool := L.any fun s => decide (s.p = 4 ∧ s.a = b)
theorem preL_iff (b : Int) (L : List S3) : preL b L = true ↔ ∃ s, s ∈ L ∧ s.p = 4 ∧ s.a = b := by simp [preL]
def refL (L : List S3) : Int × Bool := if hasP 2 L = true then (2, true) else if hasP 3 L = true then (3, true) else if preL (be L).2 L = true then (4, false) else (5, false)
/-- What the program chooses is what the document asks for. -/
theorem choose_ref (L : List S3) : chooseL L = refL L := by
  unfold chooseL refL
  rw [gr_has 2, gr_has 3]
  have key : ((gr 4 L).2 = true ∧ ((gr 5 L).2 = false ∨ (gr 5 L).1 ≤ (gr 4 L).1)) ↔ preL (be L).2 L = true := by
    rw [preL_iff]
    rcases gr_of 4 L with ⟨h1, ⟨t, ht, tp, ta⟩, h3⟩ | ⟨h1, h2⟩
    · rcases gr_of 5 L with ⟨g1, ⟨u, hu, up, ua⟩, g3⟩ | ⟨g1, g2⟩
      · rcases be_of L with ⟨-, ⟨v, hv, vp, va⟩, b3⟩ | ⟨-, b2⟩
        · constructor
          · rintro ⟨-, h | h⟩
            · rw [g1] at h; cases h
            · refine ⟨t, ht, tp, ?_⟩
              have e1 := b3 t ht (.inl tp)
              rcases vp with vp | vp
              · have := h3 v hv vp; omega
              · have := g3 v hv vp; omega
          · rintro ⟨s, hs, sp, sa⟩
            refine ⟨h1, .inr ?_⟩
            have e1 := b3 u hu (.inr up)
            have e2 := h3 s hs sp
            omega
        · exact absurd (.inl tp) (b2 t ht)
      · rcases be_of L with ⟨-, ⟨v, hv, vp, va⟩, b3⟩ | ⟨-, b2⟩
        · refine ⟨fun _ => ⟨v, hv, ?_, va⟩, fun _ => ⟨h1, .inl (by rw [g1])⟩⟩
          rcases vp with vp | vp
          · exact vp
          · exact absurd vp (g2 v hv)
        · exact absurd (.inl tp) (b2 t ht)
    · refine ⟨fun h => ?_, fun ⟨s, hs, sp, _⟩ => absurd sp (h2 s hs)⟩
      have := h.1
      rw [h1] at this
      cases this
  by_cases k2 : hasP 2 L = true
  · rw [if_pos k2, if_pos k2]
  · rw [if_neg k2, if_neg k2]
    by_cases k3 : hasP 3 L = true
    · rw [if_pos k3, if_pos k3]
    · rw [if_neg k3, if_neg k3]
      by_cases k4 : preL (be L).2 L = true
      · rw [if_pos k4, if_pos (key.2 k4)]
      · rw [if_neg k4, if_neg (fun h => k4 (key.1 h))]
/-- May one go from a phase to another one? -/
def mayB (a b : Int) : Bool :=
  decide (0 ≤ a ∧ a ≤ 5 ∧ 0 ≤ b ∧ b ≤ 5 ∧ (a = b ∨ a = 0 ∨ (a = 1 ∧ b ≠ 0) ∨ ((a = 4 ∨ a = 5) ∧ b ≠ 0 ∧ b ≠ 1)))
theorem may_twice {a b c : Int} (h1 : mayB a b = true) (h2 : mayB b c = true) : mayB a c = true := by
  unfold mayB at *
  have := of_decide_eq_true h1
  have := of_decide_eq_true h2
  apply decide_eq_true
  omega
def afterI (a : Int) : Int := if a = 4 then 2 else if a = 5 then 3 else 0
theorem choose_ways (L : List S3) : chooseL L = (2, true) ∨ chooseL L = (3, true) ∨ chooseL L = (4, false) ∨ chooseL L = (5, false) := by
  unfold chooseL
  repeat' split
  · exact .inl rfl
  · exact .inr (.inl rfl)
  · exact .inr (.inr (.inl rfl))
  · exact .inr (.inr (.inr rfl))
end Go.Proofs.YtadhpkopkkjmfaaDoor
