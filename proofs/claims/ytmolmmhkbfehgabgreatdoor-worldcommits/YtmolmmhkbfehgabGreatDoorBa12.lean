/-
  WALKS of package judge: Outcome, Agree.
  WALKS: errors.As at an api.Fault; plain.Code of an api.Fault round one of package api's errors.
  THE CONTRACT of plain.Code at an api.Fault round an error of errors.New's make: its number, and its place.
  THE DOCUMENT's EventsFault; a fault as a value; the law's 'faulted'.
  WALKS of the laws' states, backEvents.
  WALKS of package world: Flying, Events.
  WALKS of package world: New.
-/
import Derived.Test.YtmolmmhkbfehgabGreatDoorBa11
import Derived.Test.YtmolmmhkbfehgabGreatDoorBa2
import Derived.Test.YtmolmmhkbfehgabGreatDoorBa8
import Derived.Test.YtmolmmhkbfehgabGreatDoorBa10
import Derived.Deep.RegionLaw
namespace Go.Proofs.YtmolmmhkbfehgabGreatDoor
open Go.RowKit

/-- The phase of a deal's first event. -/
def outE (d : Int) : List E3 → Int
  | [] => 0
  | e :: r => if e.d = d then e.p else outE d r
theorem outE_at (d : Int) : ∀ (L : List E3) (k : Nat) (h : k < L.length), (∀ j (hj : j < L.length), j < k → (L[j]'hj).d ≠ d) → (L[k]'h).d = d → outE d L = (L[k]'h).p
  | [], _, h, _, _ => absurd h (Nat.not_lt_zero _)
  | e :: r, 0, _, _, hd => if_pos hd
  | e :: r, k + 1, h, hn, hd => by
    have h0 : e.d ≠ d := hn 0 (Nat.succ_pos _) (Nat.succ_pos _)
    rw [outE, if_neg h0]
    exact outE_at d r k (by simpa using h) (fun j hj hlt => hn (j + 1) (by simpa using hj) (by omega)) hd
theorem outE_none (d : Int) : ∀ (L : List E3), (∀ j (hj : j < L.length), (L[j]'hj).d ≠ d) → outE d L = 0
  | [], _ => rfl
  | e :: r, hn => by
    have h0 : e.d ≠ d := hn 0 (Nat.succ_pos _)
    rw [outE, if_neg h0]
    exact outE_none d r (fun j hj => hn (j + 1) (by simpa using hj))
set_option maxHeartbeats 1000000 in
set_option maxRecDepth 100000 in
theorem joutcome_any (ad : Option Addr) (cap : Nat) (L : List E3) (d : Int) (w : World) (hL : EL w ad L) (hl : L.length ≤ 100000) :
    Calls Tryz.prog 19 #[.slice ad L.length cap, .int .i64 d] w fun e w' => e = .returned (.int .i64 (outE d L)) ∧ Below w.heap.size w w' := by
  have HL := hid hL
  clear hL
  go_enter Tryz.func19, Tryz.ntmps19
  go_wp2_with fail
  go_loopw [9] (fun v wr => ∃ k : Nat, k ≤ L.length ∧ v = .int .i64 (k : Int) ∧ Hid (∀ j (hj : j < L.length), j < k → (L[j]'hj).d ≠ d) ∧ Below w.heap.size w wr) (fun v _ => L.length - (intOf v).toNat)
  case atStart => exact ⟨0, Nat.zero_le _, rfl, fun j _ h => absurd h (Nat.not_lt_zero _), Below.refl _ _⟩
  case round =>
    obtain ⟨k, hk, rfl, HN, hb⟩ := hrel
    have HB := hid hb
    by_cases hlt : k < L.length
    · obtain ⟨b, o, rfl, y0, y1, y2⟩ := HL.out k hlt
      obtain ⟨⟨s, dd, p⟩, HS⟩ : ∃ e, Hid (L[k]'hlt = e) := ⟨_, rfl⟩
      rw [HS.out] at y0 y1 y2
      replace y0 := cell_later hb y0
      replace y1 := cell_later hb y1
      replace y2 := cell_later hb y2
      have HBn : ∀ o, Hid (Below w.heap.size w (wr.alloc o)) := fun o => hid (HB.out.alloc HB.out.size o)
      clear hb
      by_cases hd : dd = d
      · subst hd
        have HO : Hid (outE dd L = p) := by have := outE_at dd L k hlt HN.out (by rw [HS.out]); rw [HS.out] at this; exact this
        go_wp2_with fail
        go_ret
        exact ⟨ret_int HO.out.symm, (HBn _).out⟩
      · have HN2 : Hid (∀ j (hj : j < L.length), j < k + 1 → (L[j]'hj).d ≠ d) := fun j hj h => by
          rcases Nat.lt_succ_iff_lt_or_eq.1 h with x | rfl
          · exact HN.out j hj x
          · rw [HS.out]; exact hd
        go_wp2_with fail
        go_roundw
        case rel => exact ⟨k + 1, by omega, by go_num, HN2.out, (HBn _).out⟩
        case measure => simp [intOf]; omega
    · have HO : Hid (outE d L = 0) := outE_none d L (fun j hj => HN.out j hj (by omega))
      have hk2 : ¬ ((k : Int) < (L.length : Int)) := by omega
      go_wp2_with fail
      go_ret
      exact ⟨ret_int HO.out.symm, HB.out⟩
/-- Is a state final? -/
def finS (s : S3) : Bool := decide (s.p = 2 ∨ s.p = 3)
/-- The end that the first k states tell. -/
def endS (L : List S3) : Int := L.foldl (fun x s => if x = 0 ∧ finS s = true then s.p else x) 0
theorem endS_snoc (L : List S3) (s : S3) : endS (L ++ [s]) = if endS L = 0 ∧ finS s = true then s.p else endS L := by unfold endS; rw [List.foldl_append]; rfl
/-- Does a state disagree with those ahead of it? -/
def disB (P : List S3) (s : S3) : Bool := finS s && P.any fun q => finS q && decide (q.p ≠ s.p)
/-- The first state that disagrees; the list's length: none. -/
def AgF (L : List S3) (c k : Nat) : Prop := (∀ j (h : j < L.length), j < k → disB (L.take j) (L[j]'h) = false) ∧ ((c = 0 ∧ k = L.length) ∨ ∃ h : k < L.length, c = 9 ∧ disB (L.take k) (L[k]'h) = true)
theorem agF_ex (L : List S3) : ∃ c k, AgF L c k := by
  have gen : ∀ r k, k + r = L.length → (∀ j (h : j < L.length), j < k → disB (L.take j) (L[j]'h) = false) → ∃ c k, AgF L c k := by
    intro r
    induction r with
    | zero => intro k hk hw; exact ⟨0, k, hw, .inl ⟨rfl, hk⟩⟩
    | succ r ih =>
      intro k hk hw
      have hlt : k < L.length := by omega
      cases hc : disB (L.take k) (L[k]'hlt) with
      | false =>
        refine ih (k + 1) (by omega) fun j hj h => ?_
        rcases Nat.lt_succ_iff_lt_or_eq.1 h with x | rfl
        · exact hw j hj x
        · exact hc
      | true => exact ⟨9, k, hw, .inr ⟨hlt, rfl, hc⟩⟩
  exact gen L.length 0 (by omega) (fun j _ h => absurd h (Nat.not_lt_zero _))
/-- What stands of states that agree. -/
structure AgK (P : List S3) : Prop where
  i0 : endS P = 0 → ∀ q, q ∈ P → finS q = false
  i1 : endS P ≠ 0 → (∃ q, q ∈ P ∧ finS q = true) ∧ ∀ q, q ∈ P → finS q = true → q.p = endS P
theorem AgK.nil : AgK [] := ⟨fun _ _ h => (by cases h), fun h => absurd rfl h⟩
theorem AgK.dis {P : List S3} (h : AgK P) (s : S3) : disB P s = (finS s && (endS P != 0 && s.p != endS P)) := by
  unfold disB
  cases hs : finS s with
  | false => rfl
  | true =>
    rw [Bool.true_and, Bool.true_and, Bool.eq_iff_iff, List.any_eq_true, Bool.and_eq_true, bne_iff_ne, bne_iff_ne]
    constructor
    · rintro ⟨q, hq, hx⟩
      rw [Bool.and_eq_true, decide_eq_true_eq] at hx
      by_cases e : endS P = 0
      · have := h.i0 e q hq; rw [hx.1] at this; cases this
      · have := (h.i1 e).2 q hq hx.1
        exact ⟨e, by omega⟩
    · rintro ⟨h1, h2⟩
      obtain ⟨⟨q, hq, hf⟩, h3⟩ := h.i1 h1
      refine ⟨q, hq, ?_⟩
      rw [Bool.and_eq_true, decide_eq_true_eq]
      exact ⟨hf, by have := h3 q hq hf; omega⟩
theorem AgK.snoc {P : List S3} {s : S3} (h : AgK P) (hd : disB P s = false) : AgK (P ++ [s]) := by
  rw [h.dis] at hd
  have hfs : finS s = true → s.p = 2 ∨ s.p = 3 := fun x => of_decide_eq_true x
  refine ⟨fun e q hq => ?_, fun e => ?_⟩
  · rw [endS_snoc] at e
    split at e
    · rename_i hc; have := hfs hc.2; omega
    · rename_i hc
      rcases List.mem_append.1 hq with x | x
      · exact h.i0 e q x
      · rw [List.mem_singleton] at x
        subst x
        cases hq2 : finS q with
        | false => rfl
        | true => exact absurd ⟨e, hq2⟩ hc
  · rw [endS_snoc] at e ⊢
    split
    · rename_i hc
      refine ⟨⟨s, by simp, hc.2⟩, fun q hq hf => ?_⟩
      rcases List.mem_append.1 hq with x | x
      · have := h.i0 hc.1 q x; rw [hf] at this; cases this
      · rw [List.mem_singleton] at x; rw [x]
    · rename_i hc
      rw [if_neg hc] at e
      obtain ⟨⟨q, hq, hf⟩, h3⟩ := h.i1 e
      refine ⟨⟨q, by simp [hq], hf⟩, fun r hr hrf => ?_⟩
      rcases List.mem_append.1 hr with x | x
      · exact h3 r x hrf
      · rw [List.mem_singleton] at x
        subst x
        rw [hrf, Bool.true_and, Bool.and_eq_false_iff, bne_eq_false_iff_eq, bne_eq_false_iff_eq] at hd
        rcases hd with x | x
        · exact absurd x e
        · exact x
theorem AgF.kept {L : List S3} : ∀ {k : Nat}, k ≤ L.length → (∀ j (h : j < L.length), j < k → disB (L.take j) (L[j]'h) = false) → AgK (L.take k)
  | 0, _, _ => by rw [List.take_zero]; exact AgK.nil
  | k + 1, hk, h => by
    rw [take_snoc L k hk]
    exact (AgF.kept (Nat.le_of_succ_le hk) (fun j hj hlt => h j hj (Nat.lt_succ_of_lt hlt))).snoc (h k hk (Nat.lt_succ_self _))
set_option maxHeartbeats 2000000 in
set_option maxRecDepth 100000 in
theorem jagree_any (A : Nat → Addr) (ad : Option Addr) (cap : Nat) (L : List S3) (c kk : Nat) (w : World) (hE : Held9 w A) (hL : SL w ad L) (hl : L.length ≤ 100000) (hF : AgF L c kk) :
    Calls Tryz.prog 22 #[.slice ad L.length cap] w fun e w' => ∃ v, e = .returned v ∧ FltV w' A c kk v w.heap.size ∧ Below w.heap.size w w' := by
  have HE := hid hE
  have HL := hid hL
  have HF := hid hF
  clear hE hL hF
  go_enter Tryz.func22, Tryz.ntmps22
  go_wp2_with fail
  go_loopw [3, 8] (fun u v wr => ∃ k : Nat, k ≤ kk ∧ u = .int .i64 (endS (L.take k)) ∧ v = .int .i64 (k : Int) ∧ Below w.heap.size w wr) (fun _ v _ => L.length - (intOf v).toNat)
  case atStart => exact ⟨0, Nat.zero_le _, rfl, rfl, Below.refl _ _⟩
  case round =>
    obtain ⟨k, hk, rfl, rfl, hb⟩ := hrel
    have HB := hid hb
    by_cases hlt : k < L.length
    · obtain ⟨b, o, rfl, y0, y1, y2⟩ := HL.out k hlt
      obtain ⟨⟨p, r, a⟩, HS⟩ : ∃ e, Hid (L[k]'hlt = e) := ⟨_, rfl⟩
      rw [HS.out] at y0 y1 y2
      replace y0 := cell_later hb y0
      replace y1 := cell_later hb y1
      replace y2 := cell_later hb y2
      obtain ⟨W2, HW2⟩ : ∃ W2, Hid (wr.alloc (.cells #[.int .i64 p, .int .i64 r, .int .i64 a] 43) = W2) := ⟨_, rfl⟩
      have hW2 := HW2.out
      have HB2 : Hid (Below w.heap.size w W2) := by rw [← HW2.out]; exact HB.out.alloc HB.out.size _
      have HRe : Hid (W2.heap[wr.heap.size]? = some (.cells #[.int .i64 p, .int .i64 r, .int .i64 a] 43 (0, 0))) := by rw [← HW2.out]; exact heap_alloc_new wr _
      obtain ⟨r0, r1, r2⟩ := threeE HRe.out
      have HK : Hid (AgK (L.take k)) := AgF.kept (by omega) (fun j hj hjk => HF.out.1 j hj (by omega))
      have HSn : Hid (L.take (k + 1) = L.take k ++ [⟨p, r, a⟩]) := by show _ = _; rw [take_snoc L k hlt, HS.out]
      have HD := hid (HK.out.dis ⟨p, r, a⟩)
      have HEs := hid (endS_snoc (L.take k) ⟨p, r, a⟩)
      rw [← HSn.out] at HEs
      obtain ⟨eN, HEn⟩ : ∃ x, Hid (endS (L.take (k + 1)) = x) := ⟨_, rfl⟩
      rw [HEn.out] at HEs
      obtain ⟨en, HEo⟩ : ∃ x, Hid (endS (L.take k) = x) := ⟨_, rfl⟩
      rw [HEo.out] at HEs HD ⊢
      have c8 := (HE.out.later HB2.out).cells.2.2.2.2.2.2.2.2
      clear hb
      cases hfin : finS ⟨p, r, a⟩ with
      | false =>
        have HP : Hid (decide (p = 2 ∨ p = 3) = false) := hfin
        have HX : Hid (eN = en) := HEs.out.trans (if_neg fun x => by have y := x.2; rw [hfin] at y; cases y)
        have hkk : k < kk := by
          rcases Nat.lt_or_ge k kk with x | x
          · exact x
          · obtain rfl : k = kk := by omega
            rcases HF.out.2 with ⟨-, h⟩ | ⟨h1, -, h3⟩
            · omega
            · rw [HS.out, HD.out, hfin] at h3; cases h3
        go_wp2_with fail
        refine (jisEnd_is p false _ HP.out).mono ?_
        rintro e w3 ⟨rfl, hx⟩
        subst w3
        go_wp2_with fail
        go_roundw
        case rel => exact ⟨k + 1, by omega, by rw [HEn.out, HX.out], by go_num, HB2.out⟩
        case measure => simp [intOf]; omega
      | true =>
        have HP : Hid (decide (p = 2 ∨ p = 3) = true) := hfin
        by_cases he : en = 0
        · subst he
          have HX : Hid (eN = p) := HEs.out.trans (if_pos ⟨rfl, hfin⟩)
          have hkk : k < kk := by
            rcases Nat.lt_or_ge k kk with x | x
            · exact x
            · obtain rfl : k = kk := by omega
              rcases HF.out.2 with ⟨-, h⟩ | ⟨h1, -, h3⟩
              · omega
              · rw [HS.out, HD.out, hfin] at h3; cases h3
          go_wp2_with fail
          refine (jisEnd_is p true _ HP.out).mono ?_
          rintro e w3 ⟨rfl, hx⟩
          subst w3
          go_wp2_with fail
          go_roundw
          case rel => exact ⟨k + 1, by omega, by rw [HEn.out, HX.out], by go_num, HB2.out⟩
          case measure => simp [intOf]; omega
        · have he2 : (en == 0) = false := beq_eq_false_iff_ne.2 he
          have HX : Hid (eN = en) := HEs.out.trans (if_neg fun x => he x.1)
          by_cases hp : p = en
          · have HP2 : Hid ((p != en) = false) := by show (p != en) = false; rw [hp]; simp
            have hkk : k < kk := by
              rcases Nat.lt_or_ge k kk with x | x
              · exact x
              · obtain rfl : k = kk := by omega
                rcases HF.out.2 with ⟨-, h⟩ | ⟨h1, -, h3⟩
                · omega
                · rw [HS.out, HD.out, hfin, HP2.out, Bool.and_false, Bool.and_false] at h3; cases h3
            subst hp
            clear HP2
            go_wp2_with fail
            refine (jisEnd_is p true _ HP.out).mono ?_
            rintro e w3 ⟨rfl, hx⟩
            subst w3
            go_wp2_with fail
            go_roundw
            case rel => exact ⟨k + 1, by omega, by rw [HEn.out, HX.out], by go_num, HB2.out⟩
            case measure => simp [intOf]; omega
          · have hp2 : (p != en) = true := bne_iff_ne.2 hp
            have HKK : Hid (k = kk ∧ c = 9) := by
              have hd : disB (L.take k) (L[k]'hlt) = true := by rw [HS.out, HD.out, hfin, hp2, bne_iff_ne.2 he]; rfl
              rcases Nat.lt_or_ge k kk with x | x
              · have := HF.out.1 k hlt x; rw [hd] at this; cases this
              · obtain rfl : k = kk := by omega
                rcases HF.out.2 with ⟨-, h⟩ | ⟨h1, h2, h3⟩
                · omega
                · exact ⟨rfl, h2⟩
            go_wp2_with fail
            refine (jisEnd_is p true _ HP.out).mono ?_
            rintro e w3 ⟨rfl, hx⟩
            subst w3
            go_wp2_with fail
            go_ret
            refine ⟨_, rfl, .inr ⟨8, W2.heap.size, HKK.out.2, HB2.out.size, rfl, ?_, ?_⟩, HB2.out.alloc HB2.out.size _⟩
            · rw [cell_of_row _ _ _ _ _ _ (heap_alloc_new W2 _), ← HKK.out.1]; rfl
            · rw [cell_of_row _ _ _ _ _ _ (heap_alloc_new W2 _)]; rfl
    · have HC0 : Hid (c = 0) := by
        rcases HF.out.2 with ⟨h1, -⟩ | ⟨h1, -⟩
        · exact h1
        · omega
      have hk2 : ¬ ((k : Int) < (L.length : Int)) := by omega
      go_wp2_with fail
      go_ret
      exact ⟨_, rfl, .inl ⟨HC0.out, rfl⟩, HB.out⟩
end Go.Proofs.YtmolmmhkbfehgabGreatDoor
namespace Go.Proofs.YtmolmmhkbfehgabGreatDoor
open Go.RowKit Go.Extern.Stop Go.Stop Go.Extern

theorem partsFa (a : Addr) (w : World) : (ReflectliteValue.parts (.agg #[.pointer (some ⟨10, 103, none⟩), .pointer (some a), .int .u64 406])).run Tryz.prog w = .ok (some (103, a, 406)) w := by kernel_rfl
theorem partsF (a : Addr) (w : World) : (ReflectliteValue.parts (.agg #[.pointer (some ⟨10, 103, none⟩), .pointer (some a), .int .u64 150])).run Tryz.prog w = .ok (some (103, a, 150)) w := by kernel_rfl
theorem directF (w : World) : (Rtype.directlyAssignable 103 103).run Tryz.prog w = .ok true w := by kernel_rfl
/-- (Value).Set: the *api.Fault variable at ta gets what the Value's own variable b holds. -/
theorem callSetF (ta b e : Addr) (old : Value) (W : World) (hb : W.cell? b = some (.pointer (some e))) (ht : W.cell? ta = some old) (hf : W.frozen? ta = false) :
    (callFunc 126 #[.agg #[.pointer (some ⟨10, 103, none⟩), .pointer (some ta), .int .u64 406], .agg #[.pointer (some ⟨10, 103, none⟩), .pointer (some b), .int .u64 150]]).run Tryz.prog W
      = .ok (.value (.tuple #[])) (W.setCell ta (.pointer (some e))) := by
  rw [@run_callFunc_extern Tryz.prog 126 _ ReflectliteValue.set Tryz.func126 (by kernel_rfl) (by kernel_rfl) (by kernel_rfl) (by kernel_rfl)]
  change Result.andThen (Sem.run Tryz.prog (Bind.bind (ReflectliteValue.parts (.agg #[.pointer (some ⟨10, 103, none⟩), .pointer (some ta), .int .u64 406])) fun _ => Bind.bind (ReflectliteValue.parts (.agg #[.pointer (some ⟨10, 103, none⟩), .pointer (some b), .int .u64 150])) _) W) _ = _
  simp only [Sem.run_bind, partsFa, partsF, Result.andThen]
  simp [ReflectliteValue.flagAddr, loadVar, isAgg, underlying, Tryz.underlying103, hb, Result.andThen, directF, storeVar, Value.cells, storeCells, Addr.add]
  rw [run_store Tryz.prog W ta _ _ (by rfl)]
  simp [ht, hf]

/-- errors.As(f, &t), f an api.Fault: yes, and t is set. -/
theorem as_hit (e t : Addr) (old : Value) (B : Nat) (w : World) (hB : B ≤ t.block) (hg : w.cell? ⟨9, 0, none⟩ = some (.iface 188 (.agg #[.pointer (some ⟨10, 28, none⟩)]))) (ht0 : w.cell? t = some old) (hf0 : w.frozen? t = false) :
    Calls Tryz.prog 87 #[.iface 103 (.pointer (some e)), .iface 149 (.pointer (some t))] w fun ev w' => ev = .returned (.bool true) ∧ w'.cell? t = some (.pointer (some e)) ∧ Below B w w' := by
  have c1 := callValueOfT
  have c2 := callTypeT
  have c3 := methodKind
  have c4 := callKindT
  have c5 := callKindF
  have c6 := methodElem
  have c7 := callElemT
  have c8 := methodImplements
  have c9 := callImplementsF
  have d1 := methodAssignableTo
  have d2 := callAssignableF
  have d3 := callTypeOfF
  have d4 := callValueOfF
  have n8 := callIsNilT ⟨w.heap.size, 0, none⟩ t ((w.alloc (.cells #[.pointer (some t)] 149)).alloc (.cells #[.pointer (some ⟨10, 149, none⟩), .pointer (some ⟨w.heap.size, 0, none⟩), .int .u64 150] 166)) (by simp)
  have hlt : 9 < w.heap.size := cell_lt hg
  have htl : t.block < w.heap.size := cell_lt ht0
  have hg2 : ((w.alloc (.cells #[.pointer (some t)] 149)).alloc (.cells #[.pointer (some ⟨10, 149, none⟩), .pointer (some ⟨w.heap.size, 0, none⟩), .int .u64 150] 166)).cell? ⟨9, 0, none⟩ = some (.iface 188 (.agg #[.pointer (some ⟨10, 28, none⟩)])) := cell_alloc _ (cell_alloc _ hg)
  have el := callElemV ⟨w.heap.size, 0, none⟩ t (((w.alloc (.cells #[.pointer (some t)] 149)).alloc (.cells #[.pointer (some ⟨10, 149, none⟩), .pointer (some ⟨w.heap.size, 0, none⟩), .int .u64 150] 166)).alloc (.cells #[.pointer (some ⟨10, 149, none⟩), .pointer (some ⟨w.heap.size, 0, none⟩), .int .u64 150] 166)) (cell_alloc _ (by simp))
  have st := callSetF t ⟨w.heap.size + 1 + 1 + 1, 0, none⟩ e old ((((w.alloc (.cells #[.pointer (some t)] 149)).alloc (.cells #[.pointer (some ⟨10, 149, none⟩), .pointer (some ⟨w.heap.size, 0, none⟩), .int .u64 150] 166)).alloc (.cells #[.pointer (some ⟨10, 149, none⟩), .pointer (some ⟨w.heap.size, 0, none⟩), .int .u64 150] 166)).alloc (.cells #[.pointer (some e)] 103))
    (by rw [World.cell?_alloc_at _ _ _ _ (by simp)]; rfl)
    (cell_alloc _ (cell_alloc _ (cell_alloc _ (cell_alloc _ ht0))))
    (by rw [World.frozen?_alloc_old _ _ t (by simp; omega), World.frozen?_alloc_old _ _ t (by simp; omega), World.frozen?_alloc_old _ _ t (by simp; omega), World.frozen?_alloc_old _ _ t (Nat.ne_of_lt htl)]; exact hf0)
  go_enter Tryz.func87, Tryz.ntmps87
  go_wp2
  refine wp_loop_rounds 1 ?_
  rw [rounds_succ]
  go_wp2
  go_ret
  have hBs : B ≤ w.heap.size := Nat.le_trans hB (Nat.le_of_lt htl)
  refine ⟨rfl, World.cell?_setCell_same _ _ _ (cell_alloc _ (cell_alloc _ (cell_alloc _ (cell_alloc _ ht0)))), ?_⟩
  refine Below.setCell ?_ hB _
  repeat (first | exact Below.refl _ _ | refine Below.drew ?_ | refine Below.alloc ?_ (by first | omega | (simp; omega)) _)
end Go.Proofs.YtmolmmhkbfehgabGreatDoor
namespace Go.Proofs.YtmolmmhkbfehgabGreatDoor
open Go.RowKit

set_option maxRecDepth 100000 in
set_option maxHeartbeats 2000000 in
theorem code_f (A : Nat → Addr) (pb po : Nat) (at0 : Int) (x : Addr) (c : Nat) (r : Int) (w : World) (hE : Held9 w A) (hf1 : w.cell? ⟨pb, po, none⟩ = some (.int .i64 at0)) (hf2 : w.cell? ⟨pb, po + 1, none⟩ = some (.iface 219 (.pointer (some x)))) (hrow : ∃ cs t, w.heap[x.block]? = some (.cells cs t (0, 0)))
    (hc : c ≤ 9) (hlo : ∀ k, k < c → x ≠ A k) (hat : c < 9 → x = A c) (hr1 : c < 9 → r = c + 1) (hr2 : c = 9 → r = -1) :
    Calls Tryz.prog 72 #[.iface 103 (.pointer (some ⟨pb, po, none⟩))] w fun e w' => e = .returned (.tuple #[.int .i64 r, .int .i64 at0]) ∧ Below w.heap.size w w' := by
  have H := hid hE
  have F1 := hid hf1
  have F2 := hid hf2
  have HR := hid hrow
  have HLO := hid hlo
  have HAT := hid hat
  have HR1 := hid hr1
  have HR2 := hid hr2
  clear hE hf1 hf2 hrow hlo hat hr1 hr2
  have hb0 : Below w.heap.size w (w.alloc (.cells #[.pointer none] 103)) := (Below.refl _ _).alloc (Nat.le_refl _) _
  go_enter Tryz.func72, Tryz.ntmps72
  go_wp2_with (go_at_call 87; refine (as_hit ⟨pb, po, none⟩ _ (.pointer none) w.heap.size _ (Nat.le_refl _) (by exact (H.out.later hb0).hnd) (by simp) (by simp)).mono ?_; rintro e w1 ⟨rfl, ht1, hb1⟩; obtain ⟨g0, g1, g2, g3, g4, g5, g6, g7, g8⟩ := (H.out.later (hb0.trans hb1)).cells; have f1 := cell_later (hb0.trans hb1) F1.out)
  have hB : Below w.heap.size w (w1.alloc (.cells #[.iface 219 (.pointer (some (A 0))), .iface 219 (.pointer (some (A 1))), .iface 219 (.pointer (some (A 2))), .iface 219 (.pointer (some (A 3))), .iface 219 (.pointer (some (A 4))), .iface 219 (.pointer (some (A 5))), .iface 219 (.pointer (some (A 6))), .iface 219 (.pointer (some (A 7))), .iface 219 (.pointer (some (A 8)))] 28)) := (hb0.trans hb1).alloc (Nat.le_trans hb0.size hb1.size) _
  have hcell : ∀ k, k < 9 → (w1.alloc (.cells #[.iface 219 (.pointer (some (A 0))), .iface 219 (.pointer (some (A 1))), .iface 219 (.pointer (some (A 2))), .iface 219 (.pointer (some (A 3))), .iface 219 (.pointer (some (A 4))), .iface 219 (.pointer (some (A 5))), .iface 219 (.pointer (some (A 6))), .iface 219 (.pointer (some (A 7))), .iface 219 (.pointer (some (A 8)))] 28)).cell? ⟨w1.heap.size, k, none⟩ = some (.iface 219 (.pointer (some (A k)))) := fun k hk => errArr_at A k hk w1 28
  have HC := hid hcell
  have F2' := hid (cell_later hB F2.out)
  clear g0 g1 g2 g3 g4 g5 g6 g7 g8 hcell f1 ht1
  go_loop [3, 27] (fun a i => ∃ k : Nat, k ≤ c ∧ i = .int .i64 k ∧ a = .int .i64 at0) (fun _ i => 9 - (intOf i).toNat)
  case atStart => exact ⟨0, Nat.zero_le _, rfl, rfl⟩
  case round =>
    obtain ⟨k, hk, rfl, rfl⟩ := hrel
    by_cases hlt : k < 9
    · have hck := HC.out k hlt
      by_cases hkc : k = c
      · subst hkc
        have hx := HAT.out hlt
        subst hx
        have hR := HR1.out hlt
        subst hR
        go_wp2_with (go_at_call 88; refine (is_f_same pb po _ _ F2'.out).mono ?_; rintro e w' ⟨rfl, rfl⟩)
        go_ret2
        exact ⟨rfl, hB⟩
      · obtain ⟨cs, t, hr⟩ := HR.out
        obtain ⟨cs', t', hr'⟩ := H.out.row k hlt
        have hr2 := hid (row_later hB hr)
        have hr2' := hid (row_later hB hr')
        clear hr hr'
        go_wp2_with (go_at_call 88; refine (is_f_other pb po _ _ cs cs' t t' _ F2'.out (HLO.out k (by omega)) hr2.out hr2'.out).mono ?_; rintro e w' ⟨rfl, rfl⟩)
        go_round
        case rel => exact ⟨k + 1, by omega, by go_num, rfl⟩
        case measure => simp [intOf]; omega
    · have hc9 : c = 9 := by omega
      have hR := HR2.out hc9
      subst hR
      go_wp2
      go_ret2
      exact ⟨rfl, hB⟩

/-- Code of a Fault round the error number c + 1. -/
theorem codeF_at (A : Nat → Addr) (pb po : Nat) (at0 : Int) (c : Nat) (w : World) (hE : Held9 w A) (hc : c < 9) (hf1 : w.cell? ⟨pb, po, none⟩ = some (.int .i64 at0)) (hf2 : w.cell? ⟨pb, po + 1, none⟩ = some (.iface 219 (.pointer (some (A c))))) :
    Calls Tryz.prog 72 #[.iface 103 (.pointer (some ⟨pb, po, none⟩))] w fun e w' => e = .returned (.tuple #[.int .i64 ((c : Int) + 1), .int .i64 at0]) ∧ Below w.heap.size w w' :=
  code_f A pb po at0 (A c) c _ w hE hf1 hf2 (hE.row c hc) (by omega) (fun k hk => hE.ne c k hc (by omega) (by omega)) (fun _ => rfl) (fun _ => rfl) (fun h => by omega)
end Go.Proofs.YtmolmmhkbfehgabGreatDoor
namespace Go.Proofs.YtmolmmhkbfehgabGreatDoor
open Go.RowKit

theorem sizeFt : (Tryz.prog.info? 55).map (·.size) = some 2 := by kernel_rfl
def fltV (c a : Int) : Value := .agg #[.int .i64 c, .int .i64 a]
set_option maxRecDepth 100000 in
theorem rfine_any (w : World) : Calls Tryz.prog 61 #[] w fun e w' => e = .returned (fltV 0 (-1)) ∧ Below w.heap.size w w' := by
  go_enter Tryz.func61, Tryz.ntmps61
  go_wp2_with fail
  refine bodyPost_ret (results_cell_row rfl _ _ w.heap.size 55 #[.int .i64 0, .int .i64 (-1)] (0, 0) _ rfl (heap_alloc_new w _) Tryz.underlying55 rfl sizeFt) rfl ?_
  exact ⟨rfl, (Below.refl _ _).alloc (Nat.le_refl _) _⟩
set_option maxRecDepth 100000 in
theorem rbare_any (c : Int) (w : World) : Calls Tryz.prog 60 #[.int .i64 c] w fun e w' => e = .returned (fltV c (-1)) ∧ Below w.heap.size w w' := by
  go_enter Tryz.func60, Tryz.ntmps60
  go_wp2_with fail
  refine bodyPost_ret (results_cell_row rfl _ _ w.heap.size 55 #[.int .i64 c, .int .i64 (-1)] (0, 0) _ rfl (heap_alloc_new w _) Tryz.underlying55 rfl sizeFt) rfl ?_
  exact ⟨rfl, (Below.refl _ _).alloc (Nat.le_refl _) _⟩
theorem rfin_is (p : Int) (b : Bool) (w : World) (hb : decide (p = 2 ∨ p = 3) = b) : Calls Tryz.prog 33 #[.int .i64 p] w fun e w' => e = .returned (.bool b) ∧ w' = w := by
  subst hb
  by_cases h2 : p = 2
  · subst h2
    go_enter Tryz.func33, Tryz.ntmps33
    go_wp2_with fail
    go_ret
    exact ⟨rfl, rfl⟩
  · by_cases h3 : p = 3
    · subst h3
      go_enter Tryz.func33, Tryz.ntmps33
      go_wp2_with fail
      go_ret
      exact ⟨rfl, rfl⟩
    · rw [decide_eq_false (show ¬ (p = 2 ∨ p = 3) by omega)]
      have b2 : (p == 2) = false := beq_eq_false_iff_ne.2 h2
      have b3 : (p == 3) = false := beq_eq_false_iff_ne.2 h3
      go_enter Tryz.func33, Tryz.ntmps33
      go_wp2_with fail
      go_ret
      exact ⟨rfl, rfl⟩
theorem row2_set {w : World} {b : Nat} {x y : Value} {t : TypeId} (h : w.heap[b]? = some (.cells #[x, y] t (0, 0))) (u v : Value) : ((w.setCell ⟨b, 0, none⟩ u).setCell ⟨b, 1, none⟩ v).heap[b]? = some (.cells #[u, v] t (0, 0)) := by
  have e1 := heap_setCell_same w b 0 _ _ u h
  rw [heap_setCell_same _ b 1 _ _ v e1]
  rfl
theorem two_cells {w : World} {b : Nat} {a c : Value} {t : TypeId} {f : Nat × Nat} (h : w.heap[b]? = some (.cells #[a, c] t f)) : w.cell? ⟨b, 0, none⟩ = some a ∧ w.cell? ⟨b, 1, none⟩ = some c :=
  ⟨by rw [cell_of_row _ _ _ _ _ _ h]; rfl, by rw [cell_of_row _ _ _ _ _ _ h]; rfl⟩
set_option maxRecDepth 100000 in
theorem revf_no (v : Value) (n : Int) (w : World) (hn : ¬ (1 ≤ n ∧ n ≤ 7)) : Calls Tryz.prog 25 #[v, .int .i64 n] w fun e w' => e = .returned (fltV 2 (-1)) ∧ Below w.heap.size w w' := by
  have HR0 := hid (heap_alloc_new w (.cells #[.int .i64 0, .int .i64 0] 55))
  obtain ⟨W, HW⟩ : ∃ W, Hid (w.alloc (.cells #[.int .i64 0, .int .i64 0] 55) = W) := ⟨_, rfl⟩
  rw [HW.out] at HR0
  have hW := HW.out
  have HB0 : Hid (Below w.heap.size w W) := by rw [← HW.out]; exact (Below.refl _ _).alloc (Nat.le_refl _) _
  have HBa := hid (rbare_any 2 W)
  have fin : ∀ w1, Below W.heap.size W w1 → Below w.heap.size w ((w1.setCell ⟨w.heap.size, 0, none⟩ (.int .i64 2)).setCell ⟨w.heap.size, 1, none⟩ (.int .i64 (-1))) := fun w1 hb => ((below_trans HB0.out hb).setCell (Nat.le_refl _) _).setCell (Nat.le_refl _) _
  have HFin := hid fin
  clear fin
  unfold fltV at HBa ⊢
  by_cases h1 : n < 1
  · go_enter Tryz.func25, Tryz.ntmps25
    go_wp2_with fail
    refine HBa.out.mono ?_
    rintro e w1 ⟨rfl, hb⟩
    have HR1 := hid (row_later hb HR0.out)
    have HB1 := hid hb
    obtain ⟨c0, c1⟩ := two_cells HR1.out
    have f0 := frozen_of_row _ _ 0 _ _ HR1.out
    have f1 := frozen_of_row _ _ 1 _ _ HR1.out
    clear hb
    go_wp2_with fail
    refine bodyPost_ret (results_cell_row rfl _ _ w.heap.size 55 _ (0, 0) _ rfl (row2_set HR1.out _ _) Tryz.underlying55 rfl sizeFt) rfl ?_
    exact ⟨rfl, HFin.out _ HB1.out⟩
  · have h2 : 7 < n := by omega
    go_enter Tryz.func25, Tryz.ntmps25
    go_wp2_with fail
    refine HBa.out.mono ?_
    rintro e w1 ⟨rfl, hb⟩
    have HR1 := hid (row_later hb HR0.out)
    have HB1 := hid hb
    obtain ⟨c0, c1⟩ := two_cells HR1.out
    have f0 := frozen_of_row _ _ 0 _ _ HR1.out
    have f1 := frozen_of_row _ _ 1 _ _ HR1.out
    clear hb
    go_wp2_with fail
    refine bodyPost_ret (results_cell_row rfl _ _ w.heap.size 55 _ (0, 0) _ rfl (row2_set HR1.out _ _) Tryz.underlying55 rfl sizeFt) rfl ?_
    exact ⟨rfl, HFin.out _ HB1.out⟩
/-- The document's loop over those ahead: nobody has another end. -/
theorem any_take_false {L : List E3} {k : Nat} {f : E3 → Bool} (h : ∀ j (hj : j < L.length), j < k → f (L[j]'hj) = false) (hk : k ≤ L.length) : (L.take k).any f = false := by
  rw [List.any_eq_false]
  intro x hx
  obtain ⟨j, hj, rfl⟩ := List.getElem_of_mem hx
  rw [List.length_take] at hj
  rw [List.getElem_take, h j (by omega) (by omega)]
  decide
theorem any_take_true {L : List E3} {k j : Nat} {f : E3 → Bool} (hj : j < L.length) (hk : j < k) (h : f (L[j]'hj) = true) : (L.take k).any f = true := by
  rw [List.any_eq_true]
  refine ⟨L[j]'hj, ?_, h⟩
  exact List.mem_iff_getElem.2 ⟨j, by rw [List.length_take]; omega, by rw [List.getElem_take]⟩
theorem evC_9 {n : Int} {L : List E3} {k j : Nat} {s d p : Int} (hok : bdB n ⟨s, d, p⟩ = true) (hj : j < L.length) (hjk : j < k) (h : decide ((L[j]'hj).d = d ∧ (L[j]'hj).p ≠ p) = true) : evC n (L.take k) ⟨s, d, p⟩ = 9 := by
  have h2 : spB (L.take k) ⟨s, d, p⟩ = true := any_take_true hj hjk h
  unfold evC
  rw [if_neg (by rw [hok]; decide), if_pos h2]
theorem evC_8 {n : Int} {L : List E3} {k j : Nat} {s d p : Int} (hok : bdB n ⟨s, d, p⟩ = true) (hk : k ≤ L.length) (hn : ∀ q (hq : q < L.length), q < k → decide ((L[q]'hq).d = d ∧ (L[q]'hq).p ≠ p) = false) (hj : j < L.length) (hjk : j < k) (h : decide ((L[j]'hj).d = d ∧ (L[j]'hj).s = s) = true) : evC n (L.take k) ⟨s, d, p⟩ = 8 := by
  have h1 : spB (L.take k) ⟨s, d, p⟩ = false := any_take_false hn hk
  have h2 : heB (L.take k) ⟨s, d, p⟩ = true := any_take_true hj hjk h
  unfold evC
  rw [if_neg (by rw [hok]; decide), if_neg (by rw [h1]; decide), if_pos h2]
theorem evC_0 {n : Int} {L : List E3} {k : Nat} {s d p : Int} (hok : bdB n ⟨s, d, p⟩ = true) (hk : k ≤ L.length) (hn : ∀ q (hq : q < L.length), q < k → decide ((L[q]'hq).d = d ∧ (L[q]'hq).p ≠ p) = false) (hm : ∀ q (hq : q < L.length), q < k → decide ((L[q]'hq).d = d ∧ (L[q]'hq).s = s) = false) : evC n (L.take k) ⟨s, d, p⟩ = 0 := by
  have h1 : spB (L.take k) ⟨s, d, p⟩ = false := any_take_false hn hk
  have h2 : heB (L.take k) ⟨s, d, p⟩ = false := any_take_false hm hk
  unfold evC
  rw [if_neg (by rw [hok]; decide), if_neg (by rw [h1]; decide), if_neg (by rw [h2]; decide)]
set_option maxHeartbeats 4000000 in
set_option maxRecDepth 100000 in
theorem revf_ok (ad : Option Addr) (cap : Nat) (L : List E3) (n : Int) (c kk : Nat) (r1 r2 : Int) (w : World) (h1 : 1 ≤ n) (h7 : n ≤ 7) (hL : EL w ad L) (hl : L.length ≤ 100000) (hF : EvF n L c kk) (hr1 : r1 = c) (hr2 : r2 = if c = 0 then -1 else (kk : Int)) :
    Calls Tryz.prog 25 #[.slice ad L.length cap, .int .i64 n] w fun e w' => e = .returned (fltV r1 r2) ∧ Below w.heap.size w w' := by
  have HR0 := hid (heap_alloc_new w (.cells #[.int .i64 0, .int .i64 0] 55))
  obtain ⟨W, HW⟩ : ∃ W, Hid (w.alloc (.cells #[.int .i64 0, .int .i64 0] 55) = W) := ⟨_, rfl⟩
  rw [HW.out] at HR0
  have hW := HW.out
  have HB0 : Hid (Below w.heap.size w W) := by rw [← HW.out]; exact (Below.refl _ _).alloc (Nat.le_refl _) _
  have HL := hid (hL.later HB0.out)
  have HF := hid hF
  have HR := hid (And.intro hr1 hr2)
  have H7 := hid h7
  -- what a store into the result comes to
  have HSt : Hid (∀ wr, Below W.heap.size W wr → wr.cell? ⟨w.heap.size, 0, none⟩ = some (.int .i64 0) ∧ wr.cell? ⟨w.heap.size, 1, none⟩ = some (.int .i64 0) ∧ wr.frozen? ⟨w.heap.size, 0, none⟩ = false ∧ wr.frozen? ⟨w.heap.size, 1, none⟩ = false ∧
      ∀ x y : Int, ((wr.setCell ⟨w.heap.size, 0, none⟩ (.int .i64 x)).setCell ⟨w.heap.size, 1, none⟩ (.int .i64 y)).heap[w.heap.size]? = some (.cells #[.int .i64 x, .int .i64 y] 55 (0, 0)) ∧ Below w.heap.size w ((wr.setCell ⟨w.heap.size, 0, none⟩ (.int .i64 x)).setCell ⟨w.heap.size, 1, none⟩ (.int .i64 y))) := fun wr hb => by
    have hr := row_later hb HR0.out
    exact ⟨(two_cells hr).1, (two_cells hr).2, frozen_of_row _ _ 0 _ _ hr, frozen_of_row _ _ 1 _ _ hr, fun x y => ⟨row2_set hr _ _, ((below_trans HB0.out hb).setCell (Nat.le_refl _) _).setCell (Nat.le_refl _) _⟩⟩
  unfold fltV
  clear hL hF hr1 hr2
  go_enter Tryz.func25, Tryz.ntmps25
  go_wp2_with fail
  go_loopw [5] (fun v wr => ∃ k : Nat, k ≤ kk ∧ v = .int .i64 (k : Int) ∧ Below W.heap.size W wr) (fun v _ => L.length - (intOf v).toNat)
  case atStart => exact ⟨0, Nat.zero_le _, rfl, Below.refl _ _⟩
  case round =>
    obtain ⟨k, hk, rfl, hb⟩ := hrel
    have HB := hid hb
    by_cases hlt : k < L.length
    · obtain ⟨b, o, rfl, y0, y1, y2⟩ := HL.out k hlt
      obtain ⟨⟨s, d, p⟩, HS⟩ : ∃ e, Hid (L[k]'hlt = e) := ⟨_, rfl⟩
      rw [HS.out] at y0 y1 y2
      replace y0 := cell_later hb y0
      replace y1 := cell_later hb y1
      replace y2 := cell_later hb y2
      obtain ⟨W2, HW2⟩ : ∃ W2, Hid (wr.alloc (.cells #[.int .i64 s, .int .i64 d, .int .i64 p] 112) = W2) := ⟨_, rfl⟩
      have hW2 := HW2.out
      have HB2 : Hid (Below W.heap.size W W2) := by rw [← HW2.out]; exact HB.out.alloc HB.out.size _
      have HRe : Hid (W2.heap[wr.heap.size]? = some (.cells #[.int .i64 s, .int .i64 d, .int .i64 p] 112 (0, 0))) := by rw [← HW2.out]; exact heap_alloc_new wr _
      obtain ⟨z0, z1, z2⟩ := threeE HRe.out
      obtain ⟨x3, H3⟩ : ∃ x, Hid (decide (p = 2 ∨ p = 3) = x) := ⟨_, rfl⟩
      obtain ⟨g0, g1, g2, g3, g4⟩ := HSt.out W2 HB2.out
      have HBd : Hid (bdB n ⟨s, d, p⟩ = false → r1 = 2 ∧ r2 = (k : Int)) := fun hbd => by
        have hc : evC n (L.take k) ⟨s, d, p⟩ = 2 := by unfold evC; rw [if_pos hbd]
        rcases Nat.lt_or_ge k kk with x | x
        · have := HF.out.1 k hlt x; rw [HS.out, hc] at this; cases this
        · obtain rfl : k = kk := by omega
          rcases HF.out.2 with ⟨-, h⟩ | ⟨h, h2, h3⟩
          · omega
          · rw [HS.out, hc] at h3
            subst h3
            exact ⟨HR.out.1, HR.out.2⟩
      clear hb
      by_cases k1 : s < 0
      · have HBad := hid (HBd.out (decide_eq_false (by simp only; omega)))
        go_wp2_with fail
        refine (rfin_is p x3 _ H3.out).mono ?_
        rintro e w3 ⟨rfl, hx⟩
        subst w3
        go_wp2_with fail
        refine bodyPost_ret (results_cell_row rfl _ _ w.heap.size 55 _ (0, 0) _ rfl (g4 _ _).1 Tryz.underlying55 rfl sizeFt) rfl ?_
        exact ⟨by rw [HBad.out.1, HBad.out.2], (g4 _ _).2⟩
      · have k1' : 0 ≤ s := by omega
        by_cases k2 : n ≤ s
        · have HBad := hid (HBd.out (decide_eq_false (by simp only; omega)))
          go_wp2_with fail
          refine (rfin_is p x3 _ H3.out).mono ?_
          rintro e w3 ⟨rfl, hx⟩
          subst w3
          go_wp2_with fail
          refine bodyPost_ret (results_cell_row rfl _ _ w.heap.size 55 _ (0, 0) _ rfl (g4 _ _).1 Tryz.underlying55 rfl sizeFt) rfl ?_
          exact ⟨by rw [HBad.out.1, HBad.out.2], (g4 _ _).2⟩
        · have k2' : s < n := by omega
          by_cases k3 : d < 0
          · have HBad := hid (HBd.out (decide_eq_false (by simp only; omega)))
            go_wp2_with fail
            refine (rfin_is p x3 _ H3.out).mono ?_
            rintro e w3 ⟨rfl, hx⟩
            subst w3
            go_wp2_with fail
            refine bodyPost_ret (results_cell_row rfl _ _ w.heap.size 55 _ (0, 0) _ rfl (g4 _ _).1 Tryz.underlying55 rfl sizeFt) rfl ?_
            exact ⟨by rw [HBad.out.1, HBad.out.2], (g4 _ _).2⟩
          · have k3' : 0 ≤ d := by omega
            by_cases k4 : 6 ≤ d
            · have HBad := hid (HBd.out (decide_eq_false (by simp only; omega)))
              go_wp2_with fail
              refine (rfin_is p x3 _ H3.out).mono ?_
              rintro e w3 ⟨rfl, hx⟩
              subst w3
              go_wp2_with fail
              refine bodyPost_ret (results_cell_row rfl _ _ w.heap.size 55 _ (0, 0) _ rfl (g4 _ _).1 Tryz.underlying55 rfl sizeFt) rfl ?_
              exact ⟨by rw [HBad.out.1, HBad.out.2], (g4 _ _).2⟩
            · have k4' : d < 6 := by omega
              cases x3 with
              | false =>
                have HBad := hid (HBd.out (decide_eq_false (by have := of_decide_eq_false H3.out; simp only; omega)))
                go_wp2_with fail
                refine (rfin_is p false _ H3.out).mono ?_
                rintro e w3 ⟨rfl, hx⟩
                subst w3
                go_wp2_with fail
                refine bodyPost_ret (results_cell_row rfl _ _ w.heap.size 55 _ (0, 0) _ rfl (g4 _ _).1 Tryz.underlying55 rfl sizeFt) rfl ?_
                exact ⟨by rw [HBad.out.1, HBad.out.2], (g4 _ _).2⟩
              | true =>
                have HOk : Hid (bdB n ⟨s, d, p⟩ = true) := decide_eq_true ⟨⟨k1', k2'⟩, ⟨k3', k4'⟩, of_decide_eq_true H3.out⟩
                have HCC : Hid (∀ cc, evC n (L.take k) ⟨s, d, p⟩ = cc → cc ≠ 0 → r1 = (cc : Int) ∧ r2 = (k : Int)) := fun cc hc h0 => by
                  rcases Nat.lt_or_ge k kk with x | x
                  · have := HF.out.1 k hlt x; rw [HS.out, hc] at this; exact absurd this h0
                  · obtain rfl : k = kk := by omega
                    rcases HF.out.2 with ⟨-, h⟩ | ⟨h, h2, h3⟩
                    · omega
                    · rw [HS.out, hc] at h3
                      subst h3
                      refine ⟨HR.out.1, ?_⟩
                      rw [HR.out.2, if_neg h0]
                have HX8 : Hid (∀ j (hj : j < L.length), j < k → decide ((L[j]'hj).d = d ∧ (L[j]'hj).p ≠ p) = true → r1 = 9 ∧ r2 = (k : Int)) := fun j hj hjk h => HCC.out 9 (evC_9 HOk.out hj hjk h) (by decide)
                have HX9 : Hid ((∀ q (hq : q < L.length), q < k → decide ((L[q]'hq).d = d ∧ (L[q]'hq).p ≠ p) = false) → ∀ j (hj : j < L.length), j < k → decide ((L[j]'hj).d = d ∧ (L[j]'hj).s = s) = true → r1 = 8 ∧ r2 = (k : Int)) := fun hn j hj hjk h => HCC.out 8 (evC_8 HOk.out (by omega) hn hj hjk h) (by decide)
                have HXl : Hid ((∀ q (hq : q < L.length), q < k → decide ((L[q]'hq).d = d ∧ (L[q]'hq).p ≠ p) = false) → (∀ q (hq : q < L.length), q < k → decide ((L[q]'hq).d = d ∧ (L[q]'hq).s = s) = false) → k < kk) := fun hn hm => by
                  have hc : evC n (L.take k) ⟨s, d, p⟩ = 0 := evC_0 HOk.out (by omega) hn hm
                  rcases Nat.lt_or_ge k kk with x | x
                  · exact x
                  · obtain rfl : k = kk := by omega
                    rcases HF.out.2 with ⟨-, h⟩ | ⟨h, h2, h3⟩
                    · omega
                    · rw [HS.out, hc] at h3; exact absurd h3.symm h2
                go_wp2_with fail
                refine (rfin_is p true _ H3.out).mono ?_
                rintro e w3 ⟨rfl, hx⟩
                subst w3
                go_wp2_with fail
                clear g0 g1 g2 g3 g4
                go_loopw [8] (fun v wr2 => ∃ j : Nat, j ≤ k ∧ v = .int .i64 (j : Int) ∧ Hid (∀ q (hq : q < L.length), q < j → decide ((L[q]'hq).d = d ∧ (L[q]'hq).p ≠ p) = false) ∧ Below W2.heap.size W2 wr2) (fun v _ => k - (intOf v).toNat)
                case atStart => exact ⟨0, Nat.zero_le _, rfl, fun q _ h => absurd h (Nat.not_lt_zero _), Below.refl _ _⟩
                case round =>
                  obtain ⟨j, hj, rfl, HJ, hbj⟩ := hrel
                  have HBj := hid hbj
                  by_cases hjk : j < k
                  · have hjl : j < L.length := by omega
                    obtain ⟨b', o', eb, x0, x1, x2⟩ := HL.out j hjl
                    obtain ⟨rfl, rfl⟩ : b = b' ∧ o = o' := by cases eb; exact ⟨rfl, rfl⟩
                    obtain ⟨⟨s', d', p'⟩, HSj⟩ : ∃ e, Hid (L[j]'hjl = e) := ⟨_, rfl⟩
                    rw [HSj.out] at x0 x1 x2
                    have HBw := hid (below_trans HB2.out hbj)
                    replace x0 := cell_later HBw.out x0
                    replace x1 := cell_later HBw.out x1
                    replace x2 := cell_later HBw.out x2
                    obtain ⟨z0, z1, z2⟩ := threeE (row_later hbj HRe.out)
                    obtain ⟨q0, q1, q2, q3, q4⟩ := HSt.out _ (below_drewN HBw.out 0)
                    clear hbj eb q0 q1 q2 q3 q4
                    have hStep : ∀ t : Bool, decide (d' = d ∧ p' ≠ p) = t → t = false → Hid (∀ q (hq : q < L.length), q < j + 1 → decide ((L[q]'hq).d = d ∧ (L[q]'hq).p ≠ p) = false) := fun t ht hf q hq h => by
                      rcases Nat.lt_succ_iff_lt_or_eq.1 h with x | rfl
                      · exact HJ.out q hq x
                      · rw [HSj.out]; exact ht.trans hf
                    by_cases e1 : d' = d
                    · by_cases e2 : p' ≠ p
                      · have HBad : Hid (r1 = 9 ∧ r2 = (k : Int)) := HX8.out j hjl hjk (by rw [HSj.out]; exact decide_eq_true ⟨e1, e2⟩)
                        clear hStep
                        subst e1
                        have e4 : (p' != p) = true := bne_iff_ne.2 e2
                        go_wp2_with fail
                        go_quiet (fail)
                        obtain ⟨g0, g1, g2, g3, g4⟩ := HSt.out _ (below_drewN HBw.out nq)
                        go_wp2_with fail
                        refine bodyPost_ret (results_cell_row rfl _ _ w.heap.size 55 _ (0, 0) _ rfl (g4 _ _).1 Tryz.underlying55 rfl sizeFt) rfl ?_
                        exact ⟨by rw [HBad.out.1, HBad.out.2], (g4 _ _).2⟩
                      · have HJ2 := hStep _ rfl (decide_eq_false fun h => e2 h.2)
                        clear hStep
                        subst e1
                        obtain rfl : p' = p := Classical.not_not.1 e2
                        clear e2
                        go_wp2_with fail
                        go_quiet (fail)
                        go_wp2_with fail
                        go_roundw
                        case rel => exact ⟨j + 1, by omega, by go_num, HJ2.out, below_drewN HBj.out _⟩
                        case measure => simp [intOf]; omega
                    · have HJ2 := hStep _ rfl (decide_eq_false fun h => e1 h.1)
                      clear hStep
                      have e3 : (d' == d) = false := beq_eq_false_iff_ne.2 e1
                      go_wp2_with fail
                      go_quiet (fail)
                      go_wp2_with fail
                      go_roundw
                      case rel => exact ⟨j + 1, by omega, by go_num, HJ2.out, below_drewN HBj.out _⟩
                      case measure => simp [intOf]; omega
                  · have hjk2 : ¬ ((j : Int) < (k : Int)) := by omega
                    have HN8 : Hid (∀ q (hq : q < L.length), q < k → decide ((L[q]'hq).d = d ∧ (L[q]'hq).p ≠ p) = false) := fun q hq h => HJ.out q hq (by omega)
                    replace HX9 := hid (HX9.out HN8.out)
                    have HBp := HBj
                    clear hbj
                    go_wp2_with fail
                    go_loopw [9] (fun v wr2 => ∃ j : Nat, j ≤ k ∧ v = .int .i64 (j : Int) ∧ Hid (∀ q (hq : q < L.length), q < j → decide ((L[q]'hq).d = d ∧ (L[q]'hq).s = s) = false) ∧ Below W2.heap.size W2 wr2) (fun v _ => k - (intOf v).toNat)
                    case atStart => exact ⟨0, Nat.zero_le _, rfl, fun q _ h => absurd h (Nat.not_lt_zero _), HBp.out⟩
                    case round =>
                      obtain ⟨j, hj, rfl, HJ, hbj⟩ := hrel
                      have HBj := hid hbj
                      by_cases hjk : j < k
                      · have hjl : j < L.length := by omega
                        obtain ⟨b', o', eb, x0, x1, x2⟩ := HL.out j hjl
                        obtain ⟨rfl, rfl⟩ : b = b' ∧ o = o' := by cases eb; exact ⟨rfl, rfl⟩
                        obtain ⟨⟨s', d', p'⟩, HSj⟩ : ∃ e, Hid (L[j]'hjl = e) := ⟨_, rfl⟩
                        rw [HSj.out] at x0 x1 x2
                        have HBw := hid (below_trans HB2.out hbj)
                        replace x0 := cell_later HBw.out x0
                        replace x1 := cell_later HBw.out x1
                        replace x2 := cell_later HBw.out x2
                        obtain ⟨z0, z1, z2⟩ := threeE (row_later hbj HRe.out)
                        obtain ⟨q0, q1, q2, q3, q4⟩ := HSt.out _ (below_drewN HBw.out 0)
                        clear hbj eb q0 q1 q2 q3 q4
                        have hStep : ∀ t : Bool, decide (d' = d ∧ s' = s) = t → t = false → Hid (∀ q (hq : q < L.length), q < j + 1 → decide ((L[q]'hq).d = d ∧ (L[q]'hq).s = s) = false) := fun t ht hf q hq h => by
                          rcases Nat.lt_succ_iff_lt_or_eq.1 h with x | rfl
                          · exact HJ.out q hq x
                          · rw [HSj.out]; exact ht.trans hf
                        by_cases e1 : d' = d
                        · by_cases e2 : s' = s
                          · have HBad : Hid (r1 = 8 ∧ r2 = (k : Int)) := HX9.out j hjl hjk (by rw [HSj.out]; exact decide_eq_true ⟨e1, e2⟩)
                            clear hStep
                            subst e1
                            subst e2
                            go_wp2_with fail
                            go_quiet (fail)
                            obtain ⟨g0, g1, g2, g3, g4⟩ := HSt.out _ (below_drewN HBw.out nq)
                            go_wp2_with fail
                            refine bodyPost_ret (results_cell_row rfl _ _ w.heap.size 55 _ (0, 0) _ rfl (g4 _ _).1 Tryz.underlying55 rfl sizeFt) rfl ?_
                            exact ⟨by rw [HBad.out.1, HBad.out.2], (g4 _ _).2⟩
                          · have HJ2 := hStep _ rfl (decide_eq_false fun h => e2 h.2)
                            clear hStep
                            subst e1
                            have e4 : (s' == s) = false := beq_eq_false_iff_ne.2 e2
                            go_wp2_with fail
                            go_quiet (fail)
                            go_wp2_with fail
                            go_roundw
                            case rel => exact ⟨j + 1, by omega, by go_num, HJ2.out, below_drewN HBj.out _⟩
                            case measure => simp [intOf]; omega
                        · have HJ2 := hStep _ rfl (decide_eq_false fun h => e1 h.1)
                          clear hStep
                          have e3 : (d' == d) = false := beq_eq_false_iff_ne.2 e1
                          go_wp2_with fail
                          go_quiet (fail)
                          go_wp2_with fail
                          go_roundw
                          case rel => exact ⟨j + 1, by omega, by go_num, HJ2.out, below_drewN HBj.out _⟩
                          case measure => simp [intOf]; omega
                      · have hjk2 : ¬ ((j : Int) < (k : Int)) := by omega
                        have HN9 : Hid (∀ q (hq : q < L.length), q < k → decide ((L[q]'hq).d = d ∧ (L[q]'hq).s = s) = false) := fun q hq h => HJ.out q hq (by omega)
                        have hkk := HXl.out HN8.out HN9.out
                        have HBe := hid (below_trans HB2.out HBj.out)
                        clear hbj
                        go_wp2_with fail
                        go_roundw
                        case rel => exact ⟨k + 1, by omega, by go_num, HBe.out⟩
                        case measure => simp [intOf]; omega
    · have HC0 : Hid (r1 = 0 ∧ r2 = -1) := by
        rcases HF.out.2 with ⟨h1, h2⟩ | ⟨h1, -⟩
        · subst h1; exact ⟨HR.out.1, HR.out.2⟩
        · omega
      have hk2 : ¬ ((k : Int) < (L.length : Int)) := by omega
      have HFn := hid (rfine_any wr)
      unfold fltV at HFn
      go_wp2_with fail
      refine HFn.out.mono ?_
      rintro e w3 ⟨rfl, hb3⟩
      obtain ⟨g0, g1, g2, g3, g4⟩ := HSt.out w3 (below_trans hb hb3)
      clear hb hb3
      go_wp2_with fail
      refine bodyPost_ret (results_cell_row rfl _ _ w.heap.size 55 _ (0, 0) _ rfl (g4 _ _).1 Tryz.underlying55 rfl sizeFt) rfl ?_
      exact ⟨by rw [HC0.out.1, HC0.out.2], (g4 _ _).2⟩
end Go.Proofs.YtmolmmhkbfehgabGreatDoor
namespace Go.Proofs.YtmolmmhkbfehgabGreatDoor
open Go.RowKit

/-- The states of a deal at the first k sites. -/
def stsL (V : PX) (d k : Nat) : List S3 := (List.range k).map fun i => ⟨(stN (V.nd i) d).ph, (stN (V.nd i) d).pr, (stN (V.nd i) d).at_⟩
theorem stsL_length (V : PX) (d k : Nat) : (stsL V d k).length = k := by simp [stsL]
theorem stsL_succ (V : PX) (d k : Nat) : stsL V d (k + 1) = stsL V d k ++ [⟨(stN (V.nd k) d).ph, (stN (V.nd k) d).pr, (stN (V.nd k) d).at_⟩] := by simp [stsL, List.range_succ]
theorem stsL_get (V : PX) (d k i : Nat) (h : i < (stsL V d k).length) : (stsL V d k)[i]'h = ⟨(stN (V.nd i) d).ph, (stN (V.nd i) d).pr, (stN (V.nd i) d).at_⟩ := by simp [stsL]
theorem own_low {w : World} {base : Nat} {e : TypeId} {size n cap : Nat} {ad : Option Addr} {ys : List Value} (h : w.ownsRow base e size (.slice ad n cap) n ys) : ∀ p, ad = some p → base ≤ p.block := by
  intro p hp
  subst hp
  rcases h.2 with ⟨hx, -⟩ | ⟨g, c, cur, hx, hb, -⟩
  · cases hx
  · cases hx
    exact hb
theorem SL.kept {S : Nat → Prop} {w w' : World} {a : Option Addr} {L : List S3} (h : SL w a L) (k : Kept S w w') (hs : ∀ p, a = some p → ¬ S p.block) : SL w' a L := fun i hi => by
  obtain ⟨b, off, ha, h0, h1, h2⟩ := h i hi
  have hb := hs _ ha
  exact ⟨b, off, ha, cell_kept h0 k hb, cell_kept h1 k hb, cell_kept h2 k hb⟩
section
variable {w0 w : World} {C : Nat → Nat} {X : XB} {m : Nat} {zs : List Int} {V : PX} {A : Nat → Addr}
set_option maxHeartbeats 2000000 in
set_option maxRecDepth 100000 in
theorem states_any (d n : Nat) (h : WD w0 w C X zs V m) (hE : Held9 w0 A) (hd : d < 6) (hn : zs.length = n) :
    Calls Tryz.prog 17 #[.pointer (some ⟨X.xb, 0, none⟩), .int .i64 (n : Int), .int .i64 (d : Int)] w fun e w' => ∃ ad cap, e = .returned (.tuple #[.slice ad n cap, .bool true]) ∧ SL w' ad (stsL V d n) ∧ Below w.heap.size w w' ∧ ∀ p, ad = some p → w.heap.size ≤ p.block := by
  have H := hid h
  have HE := hid hE
  have HN := hid hn
  have n7 := h.n7
  rw [hn] at n7
  clear h hE hn
  go_enter Tryz.func17, Tryz.ntmps17
  go_wp2_with fail
  go_loopw [8, 9] (fun v i wr => ∃ k : Nat, k ≤ n ∧ i = .int .i64 (k : Int) ∧ wr.ownsRow w.heap.size 43 3 v (stsL V d k).length (stCells (stsL V d k)) ∧ Below w.heap.size w wr) (fun _ i _ => n - (intOf i).toNat)
  case atStart => exact ⟨0, Nat.zero_le _, rfl, World.ownsRow_nil _ _ _ _, Below.refl _ _⟩
  case round =>
    obtain ⟨k, hk, rfl, hown, hb⟩ := hrel
    have HB := hid hb
    have HO := hid hown
    by_cases hlt : k < n
    · obtain ⟨⟨h1, h2, h3⟩, HST⟩ : ∃ x, Hid (stN (V.nd k) d = x) := ⟨_, rfl⟩
      have HS := hid (wstate_ok k d h1 h2 h3 (H.out.later hb) HE.out (by rw [HN.out]; exact hlt) hd HST.out)
      unfold agS at HS
      have HSu := hid (stsL_succ V d k)
      rw [HST.out] at HSu
      clear hb hown
      go_wp2_with fail
      refine HS.out.mono ?_
      rintro e w1 ⟨rfl, hb1⟩
      have HB1 := hid (below_trans HB.out hb1)
      have HO1 := hid (own_later HO.out hb1 (Nat.le_refl _))
      obtain ⟨W2, HW2⟩ : ∃ W2, Hid ((w1.alloc (.cells #[.int .i64 (h1 : Int), .int .i64 (h2 : Int), .int .i64 (h3 : Int)] 43)).alloc (.cells #[.int .i64 (h1 : Int), .int .i64 (h2 : Int), .int .i64 (h3 : Int)] 43) = W2) := ⟨_, rfl⟩
      have HB2 : Hid (Below w1.heap.size w1 W2) := by rw [← HW2.out]; exact ((Below.refl _ _).alloc (Nat.le_refl _) _).alloc (by simp) _
      have HR2 : Hid (W2.heap[w1.heap.size + 1]? = some (.cells #[.int .i64 (h1 : Int), .int .i64 (h2 : Int), .int .i64 (h3 : Int)] 43 (0, 0))) := by
        rw [← HW2.out]
        have := heap_alloc_new (w1.alloc (.cells #[.int .i64 (h1 : Int), .int .i64 (h2 : Int), .int .i64 (h3 : Int)] 43)) (.cells #[.int .i64 (h1 : Int), .int .i64 (h2 : Int), .int .i64 (h3 : Int)] 43)
        rw [World.size_alloc] at this
        exact this
      have HSL : Hid (SL W2 (some ⟨w1.heap.size + 1, 0, none⟩) [⟨h1, h2, h3⟩]) := fun i hi => by
        obtain rfl : i = 0 := by simp at hi; omega
        obtain ⟨q0, q1, q2⟩ := threeE HR2.out
        exact ⟨_, _, rfl, q0, q1, q2⟩
      have HO2 := hid (own_later HO1.out HB2.out (Nat.le_refl _))
      have HB3 := hid (below_trans HB1.out HB2.out)
      have hbs := HB3.out.size
      have hW2 := HW2.out
      clear hb1
      go_wp2_with (at_builtin; refine wp_append_states rfl _ _ rfl w.heap.size _ (stsL V d k) rfl HO2.out (some ⟨w1.heap.size + 1, 0, none⟩) 1 1 [⟨h1, h2, h3⟩] rfl rfl (fun x => by cases x) HSL.out (by rw [stsL_length]; omega) (by simp) hbs ?_)
      intro v' w3 hown hb3
      have HO3 : Hid (w3.ownsRow w.heap.size 43 3 v' (stsL V d (k + 1)).length (stCells (stsL V d (k + 1)))) := by rw [HSu.out, List.length_append]; exact hown
      have HB4 := hid (HB3.out.trans hb3)
      clear hown hb3
      go_wp2_with fail
      go_roundw
      case rel => exact ⟨k + 1, by omega, by go_num, HO3.out, HB4.out⟩
      case measure => simp [intOf]; omega
    · obtain rfl : k = n := by omega
      obtain ⟨ad, cap, rfl, -, hs⟩ := SL.owned hown
      have HS := hid hs
      have HLow := hid (own_low hown)
      have hk2 : ¬ ((k : Int) < (k : Int)) := by omega
      have HLn := hid (stsL_length V d k)
      clear hown hs hb HO
      rw [HLn.out]
      go_wp2_with fail
      go_ret2
      exact ⟨ad, ⟨cap, rfl⟩, HS.out, HB.out, HLow.out⟩
end
theorem Tryz.infoME : (Tryz.prog.info? 112).map (fun i => (i.zero, i.size, i.bytes)) = some (some (.agg #[.int .i64 0, .int .i64 0, .int .i64 0]), 3, 24) := by kernel_rfl
theorem me3_one (x : E3) : ∀ u ∈ e3L x, u.oneCell' = true := by
  intro u hu
  simp [e3L] at hu
  rcases hu with rfl | rfl | rfl <;> rfl
theorem step_append_me1 {w : World} {ops : Array Oper} {o : Oper} {a : Act} {K : Act → World → Prop} {Q : Exit → Act → World → Prop} {E : Prop} (hgd : o.guard = none) (s x : Operand)
    (ho : o.op = .call { callee := .builtin .append, args := #[s, x], argTypes := #[57, 57] })
    (base n : Nat) (v : Value) (xs : List Value) (ad : Addr) (c : Nat) (F : E3) (hs : a.eval s = v) (hx : a.eval x = .slice (some ad) 1 c) (hown : w.ownsRow base 112 3 v n xs) (hu : ∀ j u, (e3L F)[j]? = some u → w.cell? (ad.add j) = some u) (hn : n ≤ 1000000000000) (hb : base ≤ w.heap.size)
    (h : ∀ ad' cap' w', w'.ownsRow base 112 3 (.slice ad' (n + 1) cap') (n + 1) (xs ++ e3L F) → w.grownBy w' v.ownBlock → K (a.put o.dst (.slice ad' (n + 1) cap')) w') :
    if Region.wanted o (yielded ops a.tmps) = true then Oper.wp Tryz.prog o a w K Q else E := by
  have hw : Region.wanted o (yielded ops a.tmps) = true := by simp [Region.wanted, hgd]
  rw [if_pos hw]
  obtain ⟨i0, hi0, hz0, hz1, hz2⟩ := info_parts Tryz.infoME
  obtain ⟨v', w', hr, h2, h3, -, -⟩ := run_append_own_at (P := Tryz.prog) w base 57 o.type 112 i0 _ 3 24 Tryz.underlying57 hi0 hz0 hz1 hz2 rfl (by decide) v n xs hown ad 1 c (e3L F) rfl hu (me3_one F) (by unfold maxLen; omega) (by omega) hb
  obtain ⟨ad', cap', rfl⟩ : ∃ ad' cap', v' = .slice ad' (n + 1) cap' := by
    rcases h2.2 with ⟨e, h0⟩ | ⟨g, cap, cur, e, -⟩
    · omega
    · exact ⟨_, _, e⟩
  unfold Oper.wp execOp
  simp only [ho, resolve, invoke, builtin, Sem.run_bind, Sem.run_pure, Result.andThen_ok, List.map_toArray, List.map_cons, List.map_nil, hs, hx, hr]
  exact h ad' cap' w' h2 h3
theorem lit_cellsM (w : World) (t : TypeId) (L : List Value) : ∀ j u, L[j]? = some u → (w.alloc (.cells L.toArray t)).cell? ((⟨w.heap.size, 0, none⟩ : Addr).add j) = some u := by
  intro j u h
  rw [addr_add, cell_of_row _ _ _ _ _ _ (heap_alloc_new w _), List.getElem?_toArray, Nat.zero_add]
  exact h
theorem evs_take (L : List E3) (k : Nat) (h : k < L.length) : evCells (L.take (k + 1)) = evCells (L.take k) ++ e3L (L[k]'h) := by
  unfold evCells
  rw [take_snoc L k h, List.flatMap_append, List.flatMap_singleton]
set_option maxHeartbeats 4000000 in
set_option maxRecDepth 100000 in
theorem backEvents_any (ad : Option Addr) (cap : Nat) (L : List E3) (w : World) (hL : EL w ad L) (hl : L.length ≤ 1000) :
    Calls Tryz.prog 26 #[.slice ad L.length cap] w fun e w' => ∃ ad' cap', e = .returned (.slice ad' L.length cap') ∧ EL w' ad' L ∧ Below w.heap.size w w' := by
  have HL := hid hL
  clear hL
  go_enter Tryz.func26, Tryz.ntmps26
  go_wp2_with fail
  go_loopw [3, 4] (fun v i wr => ∃ k : Nat, k ≤ L.length ∧ i = .int .i64 (k : Int) ∧ wr.ownsRow w.heap.size 112 3 v k (evCells (L.take k)) ∧ Below w.heap.size w wr) (fun _ i _ => L.length - (intOf i).toNat)
  case atStart => exact ⟨0, Nat.zero_le _, rfl, World.ownsRow_nil _ _ _ _, Below.refl _ _⟩
  case round =>
    obtain ⟨k, hk, rfl, hown, hb⟩ := hrel
    have HB := hid hb
    by_cases hlt : k < L.length
    · obtain ⟨b, o, rfl, y0, y1, y2⟩ := HL.out k hlt
      obtain ⟨⟨es, ed, ep⟩, HS⟩ : ∃ e, Hid (L[k]'hlt = e) := ⟨_, rfl⟩
      rw [HS.out] at y0 y1 y2
      replace y0 := cell_later hb y0
      replace y1 := cell_later hb y1
      replace y2 := cell_later hb y2
      obtain ⟨W2, HW2⟩ : ∃ W2, Hid (wr.drew.alloc (.cells #[.int .i64 es, .int .i64 ed, .int .i64 ep] 112) = W2) := ⟨_, rfl⟩
      have hW2 := HW2.out
      have HB2 : Hid (Below wr.heap.size wr W2) := by rw [← HW2.out]; exact (Below.refl _ _).drew.alloc (Nat.le_refl _) _
      have HO : Hid (W2.ownsRow w.heap.size 112 3 u3 k (evCells (L.take k))) := own_later hown HB2.out (Nat.le_refl _)
      have HLit : Hid (∀ j u, (e3L ⟨es, ed, ep⟩)[j]? = some u → W2.cell? ((⟨wr.heap.size, 0, none⟩ : Addr).add j) = some u) := by rw [← HW2.out]; exact lit_cellsM wr.drew 112 (e3L ⟨es, ed, ep⟩)
      have HTk := hid (evs_take L k hlt)
      rw [HS.out] at HTk
      have hbs : w.heap.size ≤ W2.heap.size := Nat.le_trans hb.size HB2.out.size
      have hk60 : k ≤ 1000000000000 := by omega
      have HBo : Hid (∀ w', W2.grownBy w' u3.ownBlock → Below w.heap.size w w') := fun w' hg => Below.grown (below_trans HB.out HB2.out) hg hbs (fun q hq => (HO.out.lt q hq).1)
      clear hb hown
      go_wp2_with fail
      go_region_law ((refine step_append_me1 (by rfl) _ _ (by rfl) w.heap.size k u3 (evCells (L.take k)) ⟨wr.heap.size, 0, none⟩ 1 ⟨es, ed, ep⟩ (by rfl) (by rfl) (by exact HO.out) (by exact HLit.out) hk60 hbs ?_; intro ad' cap' w' hown hg; have HS2 := hid (And.intro hown (HBo.out w' hg)); clear hown hg))
      all_goals go_wp2_with fail
      all_goals go_roundw
      all_goals first | (simp [intOf]; omega) | skip
      all_goals exact ⟨k + 1, by omega, by go_num, by rw [HTk.out]; exact HS2.out.1, HS2.out.2⟩
    · obtain rfl : k = L.length := by omega
      rw [List.take_length] at hown
      obtain ⟨adO, capO, rfl, -, -, hO⟩ := own_el hown
      have HOw := hid hO
      have hk2 : ¬ ((L.length : Int) < (L.length : Int)) := by omega
      clear hown hb hO
      go_wp2_with fail
      go_ret
      exact ⟨_, ⟨_, rfl⟩, HOw.out, HB.out⟩
end Go.Proofs.YtmolmmhkbfehgabGreatDoor
namespace Go.Proofs.YtmolmmhkbfehgabGreatDoor
open Go.RowKit

set_option maxRecDepth 100000 in
theorem sl_nilF (b off n cap : Nat) (w : World) : (binOp .eql 34 (.slice (some ⟨b, off, none⟩) n cap) (.slice none 0 0)).run Tryz.prog w = .ok (.bool false) w := by
  rfl
set_option maxRecDepth 100000 in
theorem sl_nilF0 (w : World) : (binOp .eql 34 (.slice none 0 0) (.slice none 0 0)).run Tryz.prog w = .ok (.bool true) w := by
  rfl
set_option maxRecDepth 100000 in
theorem sl_nilE0 (w : World) : (binOp .eql 45 (.slice none 0 0) (.slice none 0 0)).run Tryz.prog w = .ok (.bool true) w := by
  rfl
set_option maxRecDepth 100000 in
theorem sl_nilE (b off n cap : Nat) (w : World) : (binOp .eql 45 (.slice (some ⟨b, off, none⟩) n cap) (.slice none 0 0)).run Tryz.prog w = .ok (.bool false) w := by
  rfl
set_option maxHeartbeats 1000000 in
set_option maxRecDepth 100000 in
theorem cloneFrs_any (base : Nat) (v : Value) (L : List F9) (w : World) (hv : w.ownsRow base 93 9 v L.length (frCells L)) (hl : L.length ≤ 1000000000000) :
    Calls Tryz.prog 47 #[v] w fun e w' => ∃ v', e = .returned v' ∧ w'.ownsRow w.heap.size 93 9 v' L.length (frCells L) ∧ Below w.heap.size w w' := by
  have hf := IsFr.owned hv
  rcases hv.2 with ⟨e, h0⟩ | ⟨g, cap, cur, e, -⟩
  · subst e
    obtain rfl : L = [] := List.length_eq_zero_iff.1 h0
    clear hv hf h0
    have hnil := sl_nilF0
    go_enter Tryz.func47, Tryz.ntmps47
    go_wp2_with fail
    go_ret
    exact ⟨_, rfl, World.ownsRow_nil _ _ _ _, Below.refl _ _⟩
  · subst e
    have hnil := sl_nilF g 0 L.length cap
    have HF := hid (hf.later ((Below.refl w.heap.size w).alloc (Nat.le_refl _) (.cells #[] 93)))
    have HOw : Hid ((w.alloc (.cells #[] 93)).ownsRow w.heap.size 93 9 (.slice (some ⟨w.heap.size, 0, none⟩) 0 0) 0 []) := World.ownsRow_lit w #[] 0 (Nat.le_refl _) (by unfold maxLen; omega) rfl
    clear hv hf
    go_enter Tryz.func47, Tryz.ntmps47
    go_wp2_with (at_builtin; refine wpList_append_frs rfl _ _ rfl w.heap.size 0 (.slice (some ⟨w.heap.size, 0, none⟩) 0 0) (.slice (some ⟨g, 0, none⟩) L.length cap) [] L rfl rfl HOw.out HF.out (by omega) (by simp) ?_; intro ad' cap' w1 hown hg ho; have HS := hid (And.intro hown hg); clear hown hg ho)
    go_ret
    refine ⟨_, rfl, ?_, ((Below.refl w.heap.size w).alloc (Nat.le_refl _) (.cells #[] 93)).grown HS.out.2 (by simp) (fun j hj => (HOw.out.lt j hj).1)⟩
    have := HS.out.1
    simpa using this
theorem wpList_append_evs {w : World} {ops : Array Oper} {rest : List Oper} {o : Oper} {a : Act} {Q : Exit → Act → World → Prop} (hgd : o.guard = none) (s x : Operand)
    (ho : o.op = .call { callee := .builtin .append, args := #[s, x], argTypes := #[45, 45] })
    (base n : Nat) (v : Value) (ad : Addr) (c : Nat) (xs : List Value) (L : List E3) (hs : a.eval s = v) (hx : a.eval x = .slice (some ad) L.length c) (hown : w.ownsRow base 101 3 v n xs) (hu : ∀ j u, (evCells L)[j]? = some u → w.cell? (ad.add j) = some u) (hn : n + L.length ≤ 1000000000000) (hb : base ≤ w.heap.size)
    (h : ∀ ad' cap' w', w'.ownsRow base 101 3 (.slice ad' (n + L.length) cap') (n + L.length) (xs ++ evCells L) → w.grownBy w' v.ownBlock → wpList Tryz.prog ops Q rest (a.put o.dst (.slice ad' (n + L.length) cap')) w') :
    wpList Tryz.prog ops Q (o :: rest) a w := by
  obtain ⟨i0, hi0, hz0, hz1, hz2⟩ := info_parts Tryz.infoEv
  refine wpList_append_own_at w hgd s x 45 ho base 101 i0 _ 3 24 Tryz.underlying45 hi0 hz0 hz1 hz2 rfl (by decide) v n xs hs hown ad L.length c (evCells L) hx (evCells_length L) hu (fun u hu => ?_) (by unfold maxLen; omega) (by omega) hb ?_
  · unfold evCells at hu
    obtain ⟨y, -, hy⟩ := List.mem_flatMap.1 hu
    exact e3_one y u hy
  · intro v' w' h2 h3 _ h5
    obtain ⟨ad', cap', rfl⟩ : ∃ ad' cap', v' = .slice ad' (n + L.length) cap' := by
      rcases h2.2 with ⟨e, h0⟩ | ⟨g, cap, cur, e, -⟩
      · exact ⟨none, 0, by rw [e, h0]⟩
      · exact ⟨_, _, e⟩
    exact h ad' cap' w' h2 h3
set_option maxHeartbeats 1000000 in
set_option maxRecDepth 100000 in
theorem cloneEvs_any (base : Nat) (v : Value) (L : List E3) (w : World) (hv : w.ownsRow base 101 3 v L.length (evCells L)) (hl : L.length ≤ 1000000000000) :
    Calls Tryz.prog 54 #[v] w fun e w' => ∃ v', e = .returned v' ∧ w'.ownsRow w.heap.size 101 3 v' L.length (evCells L) ∧ Below w.heap.size w w' := by
  rcases hv.2 with ⟨e, h0⟩ | ⟨g, cap, cur, e, -⟩
  · subst e
    obtain rfl : L = [] := List.length_eq_zero_iff.1 h0
    clear hv h0
    have hnil := sl_nilE0
    go_enter Tryz.func54, Tryz.ntmps54
    go_wp2_with fail
    go_ret
    exact ⟨_, rfl, World.ownsRow_nil _ _ _ _, Below.refl _ _⟩
  · subst e
    have hnil := sl_nilE g 0 L.length cap
    have HF : Hid (∀ j u, (evCells L)[j]? = some u → (w.alloc (.cells #[] 101)).cell? ((⟨g, 0, none⟩ : Addr).add j) = some u) := fun j u hu => cell_alloc _ (hv.cells rfl j u hu)
    have HOw : Hid ((w.alloc (.cells #[] 101)).ownsRow w.heap.size 101 3 (.slice (some ⟨w.heap.size, 0, none⟩) 0 0) 0 []) := World.ownsRow_lit w #[] 0 (Nat.le_refl _) (by unfold maxLen; omega) rfl
    clear hv
    go_enter Tryz.func54, Tryz.ntmps54
    go_wp2_with (at_builtin; refine wpList_append_evs rfl _ _ rfl w.heap.size 0 (.slice (some ⟨w.heap.size, 0, none⟩) 0 0) ⟨g, 0, none⟩ cap [] L rfl rfl HOw.out HF.out (by omega) (by simp) ?_; intro ad' cap' w1 hown hg; have HS := hid (And.intro hown hg); clear hown hg)
    go_ret
    refine ⟨_, rfl, ?_, ((Below.refl w.heap.size w).alloc (Nat.le_refl _) (.cells #[] 101)).grown HS.out.2 (by simp) (fun j hj => (HOw.out.lt j hj).1)⟩
    have := HS.out.1
    simpa using this
section
variable {w0 w w' : World} {C C' : Nat → Nat} {K : NB} {X : XB} {i m m' : Nat} {zs : List Int} {N : PN} {V V' : PX} {A : Nat → Addr}
set_option maxRecDepth 100000 in
theorem flying_any (h : WD w0 w C X zs V m) (hm : m ≤ 100000000) :
    Calls Tryz.prog 15 #[.pointer (some ⟨X.xb, 0, none⟩)] w fun e w' => ∃ v', e = .returned v' ∧ w'.ownsRow w.heap.size 93 9 v' V.fly.length (frCells V.fly) ∧ Below w.heap.size w w' := by
  obtain ⟨-, -, -, c3, -⟩ := h.cells
  have HC := hid (cloneFrs_any w0.heap.size X.fv V.fly w h.fly (by have := h.inv.fl; omega))
  generalize X.fv = fv at c3 HC
  clear h
  go_enter Tryz.func15, Tryz.ntmps15
  go_wp2_with fail
  refine HC.out.mono ?_
  rintro e w1 ⟨v', rfl, h1, h2⟩
  have HH := hid (And.intro h1 h2)
  clear h1 h2
  go_wp2_with fail
  go_ret
  exact ⟨_, rfl, HH.out⟩
set_option maxRecDepth 100000 in
theorem events_any (h : WD w0 w C X zs V m) :
    Calls Tryz.prog 20 #[.pointer (some ⟨X.xb, 0, none⟩)] w fun e w' => ∃ v', e = .returned v' ∧ w'.ownsRow w.heap.size 101 3 v' V.evs.length (evCells V.evs) ∧ Below w.heap.size w w' := by
  obtain ⟨-, -, -, -, c4⟩ := h.cells
  have HC := hid (cloneEvs_any w0.heap.size X.ev V.evs w h.evs (by have := h.inv.ev; omega))
  generalize X.ev = fv at c4 HC
  clear h
  go_enter Tryz.func20, Tryz.ntmps20
  go_wp2_with fail
  refine HC.out.mono ?_
  rintro e w1 ⟨v', rfl, h1, h2⟩
  have HH := hid (And.intro h1 h2)
  clear h1 h2
  go_wp2_with fail
  go_ret
  exact ⟨_, rfl, HH.out⟩
end
end Go.Proofs.YtmolmmhkbfehgabGreatDoor
namespace Go.Proofs.YtmolmmhkbfehgabGreatDoor
open Go.RowKit

/-- The pointers to the first k rows of sites. -/
def ptrsTo (K : Nat → NB) (k : Nat) : List Value := (List.range k).map fun i => .pointer (some ⟨(K i).nd, 0, none⟩)
theorem ptrsTo_length (K : Nat → NB) (k : Nat) : (ptrsTo K k).length = k := by simp [ptrsTo]
theorem ptrsTo_succ (K : Nat → NB) (k : Nat) : ptrsTo K (k + 1) = ptrsTo K k ++ [.pointer (some ⟨(K k).nd, 0, none⟩)] := by simp [ptrsTo, List.range_succ]
theorem ptrsTo_same {K L : Nat → NB} {k : Nat} (h : ∀ i, i < k → (K i).nd = (L i).nd) : ptrsTo K k = ptrsTo L k := by
  unfold ptrsTo
  refine List.map_congr_left fun i hi => ?_
  rw [h i (List.mem_range.1 hi)]
theorem Tryz.infoPN : (Tryz.prog.info? 80).map (fun i => (i.zero, i.size, i.bytes)) = some (some (.pointer none), 1, 8) := by kernel_rfl
/-- A world with its first k sites. -/
structure WN (w0 w : World) (C : Nat → Nat) (xb wb wc mb : Nat) (nv : Value) (K : Nat → NB) (zs : List Int) (k : Nat) : Prop where
  bel : Below w0.heap.size w0 w
  row : w.heap[xb]? = some (.cells #[.slice (some ⟨wb, 0, none⟩) zs.length wc, nv, .map (some mb), .slice none 0 0, .slice none 0 0] 73 (0, 0))
  ws : ∀ i, i < zs.length → w.cell? ⟨wb, 0 + i, none⟩ = some (.int .i64 (zs.getD i 0))
  ns : w.ownsRow w0.heap.size 80 1 nv k (ptrsTo K k)
  nds : ∀ i, i < k → ND w0 w C (K i) i zs (newN 512) 0
  brk : w.ownsMap Tryz.prog 115 (unitElem (H := Unit)) mb 0 (.map [])
  cx : C xb = 1001
  cw : C wb = 1002
  cm : C mb = 1004
  cn : ∀ g, nv.ownBlock = some g → C g = 1003
  lt : ∀ x, C x < 2000 → x < w.heap.size
  low : ∀ x, C x < 2000 → w0.heap.size ≤ x
section
variable {w0 w w' : World} {C C' : Nat → Nat} {xb wb wc mb k : Nat} {nv : Value} {K : Nat → NB} {zs : List Int} {A : Nat → Addr}
theorem WN.later (h : WN w0 w C xb wb wc mb nv K zs k) (hb : Below w.heap.size w w') : WN w0 w' C xb wb wc mb nv K zs k := by
  have kk : Kept (fun _ => False) w w' := Kept.of_below hb
  exact ⟨h.bel.trans (hb.mono h.bel.size), kk.row h.row (fun x => x), fun i hi => cell_kept (h.ws i hi) kk (fun x => x), own_kept h.ns kk (fun _ _ x => x), fun i hi => (h.nds i hi).later hb, ownsMap_kept h.brk kk (fun x => x), h.cx, h.cw, h.cm, h.cn, fun x hx => Nat.lt_of_lt_of_le (h.lt x hx) hb.size, h.low⟩
theorem WN.recolor (h : WN w0 w C xb wb wc mb nv K zs k) (hk : k ≤ 9) (hC : ∀ x, C x < 2000 → C' x = C x) (hl : ∀ x, C' x < 2000 → x < w.heap.size) (hw : ∀ x, C' x < 2000 → w0.heap.size ≤ x) : WN w0 w C' xb wb wc mb nv K zs k := by
  have e1 := h.cx; have e2 := h.cw; have e4 := h.cm
  exact ⟨h.bel, h.row, h.ws, h.ns, fun i hi => (h.nds i hi).recolor (by omega) hC, h.brk, (hC _ (by omega)).trans e1, (hC _ (by omega)).trans e2, (hC _ (by omega)).trans e4, fun g hg => (hC g (by have := h.cn g hg; omega)).trans (h.cn g hg), hl, hw⟩
theorem newN_ni (n : Nat) : NI n (newN 512) 0 := by
  have h := well_zero 512 (by decide)
  exact ⟨h.good, h.num, zeroB_size 512, fun _ => rfl, by show (-2 : Int) ≤ -1; omega, by show (-1 : Int) ≤ _; omega, fun d x hx => by cases hx⟩
/-- All sites are there. -/
theorem WN.done (h : WN w0 w C xb wb wc mb nv K zs zs.length) (he : errW zs = 0) : ∃ nb nc, nv = .slice (some ⟨nb, 0, none⟩) zs.length nc ∧ WD w0 w C ⟨xb, wb, wc, nb, nc, mb, .slice none 0 0, .slice none 0 0, K⟩ zs newX 0 := by
  have n1 := (errW_zero he).1
  rcases h.ns.2 with ⟨-, h0⟩ | ⟨g, cap, cur, e, h2, h3, h4, h5, h6, h7⟩
  · omega
  · subst e
    refine ⟨g, cap, rfl, ⟨h.bel, h.row, h.ws, fun i hi => ?_, h.nds, ⟨_, h.brk, fun a b _ _ l _ => rfl⟩, World.ownsRow_nil _ _ _ _, World.ownsRow_nil _ _ _ _, h.cx, h.cw, h.cn g rfl, h.cm, fun y hy => (by cases hy), fun y hy => (by cases hy), h.lt, h.low, ⟨he, fun i _ => newN_ni _, fun f hf => (by cases hf), Nat.zero_le _, Nat.zero_le _⟩⟩⟩
    have := h.ns.cellAt i (by omega)
    rw [this]
    unfold ptrsTo
    rw [List.getElem?_map, List.getElem?_range hi]
    rfl
/-- The blocks of a new site. -/
def newK (nd s j mb p q : Nat) : NB := ⟨nd, s, j, mb, p, q, fun _ => 0, fun _ => 0, fun _ => 0⟩
def addK (K : Nat → NB) (k : Nat) (x : NB) : Nat → NB := fun e => if e = k then x else K e
theorem WN.add {W4 w5 : World} {nd s j mb' p q : Nat} {nv' : Value} (h : WN w0 w C xb wb wc mb nv K zs k) (hk : k < 7) (hb : Below w.heap.size w W4) (hrow : W4.heap[nd]? = some (.cells #[.pointer (some ⟨s, 0, none⟩), .pointer none, .pointer none, .pointer none, .pointer none, .pointer none, .pointer none] 84 (0, 0)))
    (hsp : SP w0 W4 s j mb' p q k (fun _ => false) 0 (dealL (zeroB 512).data.toList) false (zeroB 512) (-1)) (hq : w.heap.size ≤ q) (hqp : q < p) (hpj : p < j) (hjm : j < mb') (hms : mb' < s) (hsn : s < nd)
    (hown : w5.ownsRow w0.heap.size 80 1 nv' (k + 1) (ptrsTo K k ++ [.pointer (some ⟨nd, 0, none⟩)])) (hg : W4.grownBy w5 nv.ownBlock) (ho : nv'.ownBlock = nv.ownBlock ∨ nv'.ownBlock = some W4.heap.size) :
    ∃ C', WN w0 (w5.setCell ⟨xb, 1, none⟩ nv') C' xb wb wc mb nv' (addK K k (newK nd s j mb' p q)) zs (k + 1) := by
  have hnd := row_ltJ hrow
  have hw0 := h.bel.size
  obtain ⟨C1, hC1⟩ : ∃ C1, C1 = paint (paint (paint (paint (paint (paint C q (100 * k + 6)) p (100 * k + 5)) j (100 * k + 3)) mb' (100 * k + 4)) s (100 * k + 2)) nd (100 * k + 1) := ⟨_, rfl⟩
  have cnd : C1 nd = 100 * k + 1 := by rw [hC1, paint_at]
  have cs : C1 s = 100 * k + 2 := by rw [hC1, paint_ne (by omega), paint_at]
  have cmb : C1 mb' = 100 * k + 4 := by rw [hC1, paint_ne (by omega), paint_ne (by omega), paint_at]
  have cj : C1 j = 100 * k + 3 := by rw [hC1, paint_ne (by omega), paint_ne (by omega), paint_ne (by omega), paint_at]
  have cp : C1 p = 100 * k + 5 := by rw [hC1, paint_ne (by omega), paint_ne (by omega), paint_ne (by omega), paint_ne (by omega), paint_at]
  have cq : C1 q = 100 * k + 6 := by rw [hC1, paint_ne (by omega), paint_ne (by omega), paint_ne (by omega), paint_ne (by omega), paint_ne (by omega), paint_at]
  have hCo : ∀ x, x < w.heap.size → C1 x = C x := fun x hx => by rw [hC1, paint_ne (by omega), paint_ne (by omega), paint_ne (by omega), paint_ne (by omega), paint_ne (by omega), paint_ne (by omega)]
  have hcase : ∀ x, C1 x < 2000 → x < w.heap.size ∨ (q ≤ x ∧ x ≤ nd) := fun x hx => by
    by_cases a1 : x = nd
    · right; omega
    · by_cases a2 : x = s
      · right; omega
      · by_cases a3 : x = mb'
        · right; omega
        · by_cases a4 : x = j
          · right; omega
          · by_cases a5 : x = p
            · right; omega
            · by_cases a6 : x = q
              · right; omega
              · rw [hC1, paint_ne a1, paint_ne a2, paint_ne a3, paint_ne a4, paint_ne a5, paint_ne a6] at hx
                exact .inl (h.lt x hx)
  have h1 := (h.later hb).recolor (C' := C1) (by omega) (fun x hx => hCo x (h.lt x hx)) (fun x hx => by have := hb.size; rcases hcase x hx with g | g <;> omega) (fun x hx => by
    rcases hcase x hx with g | g
    · exact h.low x (by rw [← hCo x g]; exact hx)
    · omega)
  have hN : ND w0 W4 C1 (newK nd s j mb' p q) k zs (newN 512) 0 := ⟨hrow, hsp, fun d hd x hx => (by cases hx), cnd, cs, cj, cmb, cp, cq, fun d hd x hx => (by cases hx), by show w0.heap.size ≤ nd; omega⟩
  have hkk := grown_kept hg
  have cx1 := h1.cx; have cw1 := h1.cw; have cm1 := h1.cm
  obtain ⟨C2, hC2, hlt2, hlow2, hcn2⟩ : ∃ C2 : Nat → Nat, (∀ x, C1 x < 2000 → C2 x = C1 x) ∧ (∀ x, C2 x < 2000 → x < w5.heap.size) ∧ (∀ x, C2 x < 2000 → w0.heap.size ≤ x) ∧ ∀ g, nv'.ownBlock = some g → C2 g = 1003 := by
    rcases ho with o | o
    · refine ⟨C1, fun _ _ => rfl, fun x hx => Nat.lt_of_lt_of_le (h1.lt x hx) hg.size, h1.low, fun g hgg => h1.cn g (by rw [← o]; exact hgg)⟩
    · have hsz : W4.heap.size < w5.heap.size := own_lt hown o
      refine ⟨paint C1 W4.heap.size 1003, fun x hx => paint_ne (by have := h1.lt x hx; omega), fun x hx => ?_, fun x hx => ?_, fun g hgg => ?_⟩
      · by_cases e : x = W4.heap.size
        · rw [e]; exact hsz
        · rw [paint_ne e] at hx; exact Nat.lt_of_lt_of_le (h1.lt x hx) hg.size
      · by_cases e : x = W4.heap.size
        · rw [e]; have := hb.size; omega
        · rw [paint_ne e] at hx; exact h1.low x hx
      · rw [o] at hgg
        obtain rfl := Option.some.inj hgg
        exact paint_at _ _ _
  have hK : Kept (fun x => nv.ownBlock = some x ∨ x = xb) W4 (w5.setCell ⟨xb, 1, none⟩ nv') := (hkk.mono (fun x hx => .inl hx)).setCell (.inr rfl) _
  have hS : ∀ x, (nv.ownBlock = some x ∨ x = xb) → C1 x = 1003 ∨ C1 x = 1001 := fun x hx => by
    rcases hx with hx | rfl
    · exact .inl (h1.cn x hx)
    · exact .inr h1.cx
  have nS : ∀ x, C1 x ≠ 1003 → C1 x ≠ 1001 → ¬ (nv.ownBlock = some x ∨ x = xb) := fun x n1 n2 hx => by rcases hS x hx with g | g <;> omega
  have hlow : ∀ x, (nv.ownBlock = some x ∨ x = xb) → w0.heap.size ≤ x := fun x hx => h1.low x (by rcases hS x hx with g | g <;> omega)
  have hND : ∀ (x : NB) (e : Nat), e ≤ 9 → ND w0 W4 C1 x e zs (newN 512) 0 → ND w0 (w5.setCell ⟨xb, 1, none⟩ nv') C2 x e zs (newN 512) 0 := fun x e he hx => (hx.kept hK (fun y _ hy => nS y (by omega) (by omega)) hlow).recolor he hC2
  refine ⟨C2, ⟨hK.below h1.bel.size hlow h1.bel, ?_, fun e he => cell_kept (h1.ws e he) hK (nS _ (by show C1 wb ≠ _; omega) (by show C1 wb ≠ _; omega)), ?_, fun e he => ?_, ownsMap_kept h1.brk hK (nS _ (by omega) (by omega)), (hC2 _ (by omega)).trans cx1, (hC2 _ (by omega)).trans cw1, (hC2 _ (by omega)).trans cm1, hcn2, fun x hx => ?_, hlow2⟩⟩
  · have hr5 := hkk.row h1.row (fun e => by have := h1.cn _ e; omega)
    rw [heap_setCell_same w5 xb 1 _ _ _ hr5]; rfl
  · have e1 : ptrsTo (addK K k (newK nd s j mb' p q)) (k + 1) = ptrsTo K k ++ [.pointer (some ⟨nd, 0, none⟩)] := by
      rw [ptrsTo_succ, ptrsTo_same (L := K) (fun i hi => by unfold addK; rw [if_neg (by omega)])]
      unfold addK newK
      rw [if_pos rfl]
    rw [e1]
    refine own_kept hown ((Kept.refl (In1 xb) w5).set1 1 nv') (fun y hy e => ?_)
    have h3 := hcn2 y hy
    rw [show y = xb from e, hC2 _ (by omega)] at h3
    omega
  · by_cases g : e = k
    · subst g
      have := hND _ e (by omega) hN
      unfold addK
      rw [if_pos rfl]
      exact this
    · have := hND _ e (by omega) (h1.nds e (by omega))
      unfold addK
      rw [if_neg g]
      exact this
  · have := hlt2 x hx
    simpa using this
set_option maxRecDepth 100000 in
theorem wnew_err (v : Value) (c : Nat) (hv : IsSl w v zs) (hE : Held9 w A) (he : errW zs = c + 1) :
    Calls Tryz.prog 10 #[v] w fun e w' => e = .returned (.tuple #[.pointer none, .iface 219 (.pointer (some (A c)))]) ∧ w' = w := by
  have HC : Hid (Calls Tryz.prog 36 #[v] w fun e w' => e = .returned (.iface 219 (.pointer (some (A c)))) ∧ w' = w) := by
    have := check_any A v zs w hv hE.to3
    rw [he] at this
    exact this
  obtain ⟨a, cap0, rfl, -, -, -⟩ := hv
  clear hE he
  go_enter Tryz.func10, Tryz.ntmps10
  go_wp2_with fail
  refine HC.out.mono ?_
  rintro e w1 ⟨rfl, hx⟩
  subst w1
  go_wp2_with fail
  go_ret2
  exact ⟨rfl, rfl⟩
theorem wpList_append_node {w : World} {ops : Array Oper} {rest : List Oper} {o : Oper} {a : Act} {Q : Exit → Act → World → Prop} (hgd : o.guard = none) (s x : Operand)
    (ho : o.op = .call { callee := .builtin .append, args := #[s, x], argTypes := #[71, 71] })
    (base n : Nat) (v : Value) (ad : Addr) (c : Nat) (xs : List Value) (u : Value) (hu1 : u.oneCell' = true) (hs : a.eval s = v) (hx : a.eval x = .slice (some ad) 1 c) (hown : w.ownsRow base 80 1 v n xs) (hu : w.cell? (ad.add 0) = some u) (hn : n ≤ 1000000) (hb : base ≤ w.heap.size)
    (h : ∀ ad' cap' w', w'.ownsRow base 80 1 (.slice ad' (n + 1) cap') (n + 1) (xs ++ [u]) → w.grownBy w' v.ownBlock → ((Value.slice ad' (n + 1) cap').ownBlock = v.ownBlock ∨ (Value.slice ad' (n + 1) cap').ownBlock = some w.heap.size) → wpList Tryz.prog ops Q rest (a.put o.dst (.slice ad' (n + 1) cap')) w') :
    wpList Tryz.prog ops Q (o :: rest) a w := by
  obtain ⟨i0, hi0, hz0, hz1, hz2⟩ := info_parts Tryz.infoPN
  refine wpList_append_own_at w hgd s x 71 ho base 80 i0 _ 1 8 Tryz.underlying71 hi0 hz0 hz1 hz2 rfl (by decide) v n xs hs hown ad 1 c [u] hx rfl (fun j y hj => ?_) (fun y hy => by rw [List.mem_singleton.1 hy]; exact hu1) (by unfold maxLen; omega) (by omega) hb ?_
  · cases j with
    | zero => rw [← Option.some.inj hj]; exact hu
    | succ j => simp at hj
  · intro v' w' h2 h3 _ h5
    obtain ⟨ad', cap', rfl⟩ : ∃ ad' cap', v' = .slice ad' (n + 1) cap' := by
      rcases h2.2 with ⟨e, h0⟩ | ⟨g, cap, cur, e, -⟩
      · omega
      · exact ⟨_, _, e⟩
    exact h ad' cap' w' h2 h3 h5
set_option maxHeartbeats 2000000 in
set_option maxRecDepth 100000 in
theorem wnew_ok (v : Value) (hv : IsSl w v zs) (hE : Held9 w A) (he : errW zs = 0) :
    Calls Tryz.prog 10 #[v] w fun e w' => ∃ C X, e = .returned (.tuple #[.pointer (some ⟨X.xb, 0, none⟩), .nilIface]) ∧ WD w w' C X zs newX 0 := by
  have hn := errW_zero he
  have HCk := hid (check_ok A v zs w hv hE.to3 he)
  have HCl : Hid (Calls Tryz.prog 37 #[v] w fun e w' => ∃ wb wc, e = .returned (.slice (some ⟨wb, 0, none⟩) zs.length wc) ∧ w'.ownsRow w.heap.size 3 1 (.slice (some ⟨wb, 0, none⟩) zs.length wc) zs.length (zs.map (Value.int .i64)) ∧ Below w.heap.size w w') := by
    refine (clone_any v zs w hv hn.1 (by omega)).mono ?_
    rintro e w' ⟨v', he', ho, hb⟩
    obtain ⟨g, cp, rfl, -⟩ := ho.form (by omega)
    exact ⟨g, cp, he', ho, hb⟩
  have HE := hid hE
  have HZ := hid he
  obtain ⟨n, hnn⟩ : ∃ n, Hid (zs.length = n) := ⟨_, rfl⟩
  obtain ⟨a, cap0, rfl, hml, -, -⟩ := hv
  have n7 := hn.2.1
  have n1 := hn.1
  have hmm := @run_makeMap Tryz.prog
  rw [hnn.out] at HCk HCl n7 n1 hml ⊢
  clear hE he hn
  go_enter Tryz.func10, Tryz.ntmps10
  go_wp2_with fail
  refine HCk.out.mono ?_
  rintro e w1 ⟨rfl, hx⟩
  subst w1
  go_wp2_with fail
  refine HCl.out.mono ?_
  rintro e w1 ⟨wb, wc, rfl, ho1, hb1⟩
  have hwb := (ho1.lt wb rfl)
  obtain ⟨W2, HW2⟩ : ∃ W2, Hid ((w1.alloc (.map #[] 0)).alloc (.cells #[.slice (some ⟨wb, 0, none⟩) n wc, .slice none 0 0, .map (some w1.heap.size), .slice none 0 0, .slice none 0 0] 73) = W2) := ⟨_, rfl⟩
  have hW2 := HW2.out
  have HWN : Hid (∃ C, WN w W2 C (w1.heap.size + 1) wb wc w1.heap.size (.slice none 0 0) (fun _ => newK 0 0 0 0 0 0) zs 0) := by
    have hb2 : Below w1.heap.size w1 W2 := by rw [← HW2.out]; exact ((Below.refl _ _).alloc (Nat.le_refl _) _).alloc (by simp) _
    have hsz : W2.heap.size = w1.heap.size + 2 := by rw [← HW2.out]; simp
    obtain ⟨C0, hC0⟩ : ∃ C0, C0 = paint (paint (paint (fun _ => 5000) (w1.heap.size + 1) 1001) wb 1002) w1.heap.size 1004 := ⟨_, rfl⟩
    have k1 : C0 (w1.heap.size + 1) = 1001 := by rw [hC0, paint_ne (by omega), paint_ne (by omega), paint_at]
    have k2 : C0 wb = 1002 := by rw [hC0, paint_ne (by omega), paint_at]
    have k3 : C0 w1.heap.size = 1004 := by rw [hC0, paint_at]
    have hcase : ∀ x, C0 x < 2000 → x = w1.heap.size + 1 ∨ x = wb ∨ x = w1.heap.size := fun x hx => by
      by_cases a1 : x = w1.heap.size
      · exact .inr (.inr a1)
      · by_cases a2 : x = wb
        · exact .inr (.inl a2)
        · by_cases a3 : x = w1.heap.size + 1
          · exact .inl a3
          · rw [hC0, paint_ne a1, paint_ne a2, paint_ne a3] at hx; omega
    refine ⟨C0, ⟨hb1.trans (hb2.mono hb1.size), ?_, fun i hi => ?_, World.ownsRow_nil _ _ _ _, fun i hi => absurd hi (Nat.not_lt_zero _), ?_, k1, k2, k3, fun g hg => (by cases hg), fun x hx => ?_, fun x hx => ?_⟩⟩
    · have hs1 : (w1.alloc (.map #[] 0)).heap.size = w1.heap.size + 1 := by simp
      rw [← HW2.out, ← hs1, hnn.out]
      exact heap_alloc_new _ _
    · have := ho1.cellAt i (by rw [← hnn.out]; omega)
      rw [Nat.zero_add]
      refine cell_later hb2 (this.trans ?_)
      rw [List.getElem?_map, List.getElem?_eq_getElem hi, getD_lt zs i hi]
      rfl
    · rw [← HW2.out]
      exact (World.ownsMap_made w1 _ _ _).alloc _
    · rcases hcase x hx with g | g | g <;> omega
    · have := hb1.size
      rcases hcase x hx with g | g | g <;> omega
  have hxlt : w1.heap.size + 1 < W2.heap.size := by rw [← HW2.out]; simp
  clear ho1 hb1 hwb
  go_wp2_with fail
  go_loopw [22] (fun v wr => ∃ k : Nat, k ≤ n ∧ v = .int .i64 (k : Int) ∧ ∃ C nv K, WN w wr C (w1.heap.size + 1) wb wc w1.heap.size nv K zs k) (fun v _ => n - (intOf v).toNat)
  case atStart =>
    obtain ⟨C, hC⟩ := HWN.out
    exact ⟨0, Nat.zero_le _, rfl, C, _, _, hC⟩
  case round =>
    obtain ⟨k, hk, rfl, C, nv, K, hN⟩ := hrel
    have HN := hid hN
    obtain ⟨ad, cp, hnv⟩ : ∃ ad cp, Hid (nv = .slice ad k cp) := by
      rcases hN.ns.2 with ⟨e, h0⟩ | ⟨g, cap, cur, e, -⟩
      · exact ⟨none, 0, by rw [e, h0]; exact rfl⟩
      · exact ⟨_, _, e⟩
    clear hN
    by_cases hlt : k < n
    · go_wp2_with fail
      refine (pnew_ok 512 wr (by decide)).mono ?_
      rintro e w3 ⟨rfl, hp3, hb3, hsz3⟩
      have HN3 := hid (HN.out.later hb3)
      have HP3 := hid hp3
      have HB3 := hid hb3
      have HE3 := hid (HE.out.later HN3.out.bel)
      clear hp3 hb3
      go_wp2_with fail
      refine (snew_ok A (k : Int) _ _ _ (-1) w3 HP3.out HE3.out.toE (by rw [zeroB_size]; decide) (by rw [zeroB_size]; decide) (by decide) (by omega) (by omega)).mono ?_
      rintro e w4 ⟨s', j', mb', rfl, hj, hs4, hb4, hj0, hjm, hms⟩
      have HSP := hid (sp_new (w0 := w) HN3.out.bel HP3.out (by have := HN.out.bel.size; omega) (HN.out.bel.size) hj hs4 hb4 hj0 hjm hms (by decide) (by decide) (by rw [zeroB_size]; decide) (by rw [zeroB_size]; decide))
      have HN4 := hid (HN3.out.later hb4)
      have c1 : w4.cell? ⟨w1.heap.size + 1, 1, none⟩ = some nv := by rw [cell_of_row _ _ _ _ _ _ HN4.out.row]; rfl
      rw [hnv.out] at c1
      obtain ⟨W5, HW5⟩ : ∃ W5, Hid (w4.alloc (.cells #[.pointer (some ⟨s', 0, none⟩), .pointer none, .pointer none, .pointer none, .pointer none, .pointer none, .pointer none] 84) = W5) := ⟨_, rfl⟩
      obtain ⟨W6, HW6⟩ : ∃ W6, Hid (W5.alloc (.cells #[.pointer (some ⟨w4.heap.size, 0, none⟩)] 80) = W6) := ⟨_, rfl⟩
      have hs5 : W5.heap.size = w4.heap.size + 1 := by rw [← HW5.out]; simp
      have HB5 : Hid (Below w4.heap.size w4 W5) := by rw [← HW5.out]; exact (Below.refl _ _).alloc (Nat.le_refl _) _
      have HB6 : Hid (Below W5.heap.size W5 W6) := by rw [← HW6.out]; exact (Below.refl _ _).alloc (Nat.le_refl _) _
      have HB46 : Hid (Below w4.heap.size w4 W6) := HB5.out.trans (HB6.out.mono HB5.out.size)
      have HRn : Hid (W6.heap[w4.heap.size]? = some (.cells #[.pointer (some ⟨s', 0, none⟩), .pointer none, .pointer none, .pointer none, .pointer none, .pointer none, .pointer none] 84 (0, 0))) := by
        have h5 : W5.heap[w4.heap.size]? = some (.cells #[.pointer (some ⟨s', 0, none⟩), .pointer none, .pointer none, .pointer none, .pointer none, .pointer none, .pointer none] 84 (0, 0)) := by rw [← HW5.out]; exact heap_alloc_new w4 _
        exact (HB6.out.block _ (row_ltJ h5)).trans h5
      have HLt : Hid (W6.cell? ((⟨w4.heap.size + 1, 0, none⟩ : Addr).add 0) = some (.pointer (some ⟨w4.heap.size, 0, none⟩))) := by
        rw [addr_add, ← hs5, ← HW6.out, cell_of_row _ _ _ _ _ _ (heap_alloc_new W5 _)]
        rfl
      have HOw : Hid (W6.ownsRow w.heap.size 80 1 (.slice ad k cp) k (ptrsTo K k)) := by have := (HN4.out.later HB46.out).ns; rw [hnv.out] at this; exact this
      have HX : Hid (∀ w', W6.grownBy w' (Value.slice ad k cp).ownBlock → w'.cell? ⟨w1.heap.size + 1, 1, none⟩ = some (.slice ad k cp) ∧ w'.frozen? ⟨w1.heap.size + 1, 1, none⟩ = false) := by
        intro w' hg
        have hr := (grown_kept hg).row (HN4.out.later HB46.out).row (fun e => by rw [← hnv.out] at e; have h1 := HN4.out.cn _ e; have h2 := HN4.out.cx; omega)
        exact ⟨by rw [cell_of_row _ _ _ _ _ _ hr, ← hnv.out]; rfl, frozen_of_row _ _ _ _ _ hr⟩
      have hb06 : w.heap.size ≤ W6.heap.size := (HN4.out.later HB46.out).bel.size
      have HBr : Hid (Below wr.heap.size wr W6) := HB3.out.trans ((hb4.trans (HB46.out.mono hb4.size)).mono HB3.out.size)
      have HSP6 := hid (HSP.out.later HB46.out)
      have hsl := HSP.out.lts
      have hW5 := HW5.out
      have hW6 := HW6.out
      clear hj hs4 hb4
      go_wp2_with (at_builtin; refine wpList_append_node rfl _ _ rfl w.heap.size k (.slice ad k cp) ⟨w4.heap.size + 1, 0, none⟩ 1 (ptrsTo K k) (.pointer (some ⟨w4.heap.size, 0, none⟩)) rfl rfl rfl HOw.out HLt.out (by omega) hb06 ?_; intro ad' cap' w' hown hg ho; obtain ⟨c1', z1'⟩ := HX.out w' hg; have HS := hid (And.intro hown (And.intro hg ho)); clear hown hg ho)
      go_roundw
      case rel =>
        rw [← hnv.out] at HS
        obtain ⟨C', hC'⟩ := HN.out.add (by omega) HBr.out HRn.out HSP6.out (by omega) (by omega) (by omega) hjm hms hsl.1 HS.out.1 HS.out.2.1 HS.out.2.2
        exact ⟨k + 1, by omega, by go_num, C', _, _, hC'⟩
      case measure => simp [intOf]; omega
    · obtain rfl : k = n := by omega
      go_wp2_with fail
      go_ret2
      have hN := HN.out
      rw [← hnn.out] at hN
      obtain ⟨nb, nc, -, hWD⟩ := hN.done HZ.out
      exact ⟨C, _, rfl, hWD⟩
end
end Go.Proofs.YtmolmmhkbfehgabGreatDoor
