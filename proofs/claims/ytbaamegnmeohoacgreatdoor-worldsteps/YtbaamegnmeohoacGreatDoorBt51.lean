/-
  On the way to WStepsProof: XY XZ X6D.
-/
import Derived.Test.YtbaamegnmeohoacGreatDoorBt50
import Derived.Test.YtbaamegnmeohoacGreatDoorBt49
namespace Go.Proofs.YtbaamegnmeohoacGreatDoor
open Go.RowKit
section
variable {w0 v0 w w1 w' : World} {C D C' D' : Nat → Nat} {X : XB} {Y : YB} {aw : Option Addr} {i n cap m m' M : Nat} {zs : List Int} {V V' V1 V2 : PX} {A : Nat → Addr}
set_option maxRecDepth 100000 in
theorem rtick_any (s : Int) (c : Nat) (h : RW w0 w C Y aw cap zs V m) (hm : m < 900000) (hc : cUp zs.length V s = c) :
    Calls Tryz.prog 46 #[.pointer (some ⟨Y.xb, 0, none⟩), .int .i64 s] w fun e w' => e = .returned (.int .i64 (c : Int)) ∧ ROut w0 w w' C Y aw cap zs (if c = 0 then tickX zs s.toNat 6 0 V else V) (m + 42) := by
  by_cases c0 : c = 0
  · subst c0
    obtain ⟨k, rfl, hk, hu⟩ := rcUp_zero hc
    rw [if_pos rfl, Int.toNat_natCast]
    exact rtick_ok k h hk hu hm
  · rw [if_neg c0]
    have H := hid h
    have HU := hid (rup_is s c h hc)
    have c9 : ¬ ((c : Int) ≤ 0) := by omega
    have c8 : (0 : Int) < (c : Int) := by omega
    clear h hc
    go_enter Tryz.func46, Tryz.ntmps46
    go_wp2_with fail
    refine HU.out.mono ?_
    rintro e w1 ⟨rfl, hx⟩
    subst w1
    go_wp2_with fail
    go_ret
    exact ⟨rfl, H.out.out (Below.refl _ _) (by omega)⟩
structure Two (w0 w : World) (C : Nat → Nat) (X : XB) (D : Nat → Nat) (Y : YB) (aw : Option Addr) (cap : Nat) (zs : List Int) (V1 V2 : PX) (m m' : Nat) : Prop where
  wd : WD w0 w C X zs V1 m
  rw : RW w0 w D Y aw cap zs V2 m'
  ap : Apt C D
theorem Two.later (h : Two w0 w C X D Y aw cap zs V1 V2 m m') (hb : Below w.heap.size w w') : Two w0 w' C X D Y aw cap zs V1 V2 m m' := ⟨h.wd.later hb, h.rw.later hb, h.ap⟩
theorem Two.prog (h : Two w0 w C X D Y aw cap zs V1 V2 m m') (ho : WOut w0 w w' C X zs V M) : ∃ C' X', Two w0 w' C' X' D Y aw cap zs V V2 M m' ∧ key X' = key X ∧ Kept (OwnX C) w w' ∧ ∀ x, x < w.heap.size → C' x = C x := by
  obtain ⟨C', X', x1, x2, x3, x4⟩ := ho
  refine ⟨C', X', ⟨x1, h.rw.far x3 h.ap (fun x hx => h.wd.low x hx), fun x hx => ?_⟩, x2, x3, x4⟩
  rcases Nat.lt_or_ge (D x) 2000 with q | q
  · have h1 := h.rw.lt x q
    rw [x4 x h1] at hx
    have := h.ap x hx
    omega
  · exact q
theorem Two.doc (h : Two w0 w C X D Y aw cap zs V1 V2 m m') (ho : ROut w0 w w' D Y aw cap zs V M) : ∃ D' Y', Two w0 w' C X D' Y' aw cap zs V1 V m M ∧ rkey Y' = rkey Y ∧ Kept (OwnX D) w w' ∧ ∀ x, x < w.heap.size → D' x = D x := by
  obtain ⟨D', Y', x1, x2, x3, x4⟩ := ho
  refine ⟨D', Y', ⟨h.wd.far x3 h.ap.symm (fun x hx => h.rw.low x hx), x1, Apt.symm (fun x hx => ?_)⟩, x2, x3, x4⟩
  rcases Nat.lt_or_ge (C x) 2000 with q | q
  · have h1 := h.wd.lt x q
    rw [x4 x h1] at hx
    have := h.ap.symm x hx
    omega
  · exact q
def KC (b : Nat) (w w' : World) : Prop := ∀ j u, w.cell? ⟨b, j, none⟩ = some u → w'.cell? ⟨b, j, none⟩ = some u
def TwoOut (w0 w' : World) (X : XB) (Y : YB) (aw : Option Addr) (cap : Nat) (zs : List Int) (V : PX) (M : Nat) : Prop :=
  ∃ C' X' D' Y', Two w0 w' C' X' D' Y' aw cap zs V V M M ∧ key X' = key X ∧ rkey Y' = rkey Y
def Alike2 (w0 : World) (A : Nat → Addr) (aw : Option Addr) (cap : Nat) (zs : List Int) (V : PX) (m M : Nat) (f1 f2 : Nat) (as1 as2 : Value → Array Value) : Prop :=
  ∃ c V', c ≤ 9 ∧ (∀ w C X, WD w0 w C X zs V m → Calls Tryz.prog f1 (as1 (.pointer (some ⟨X.xb, 0, none⟩))) w fun e w' => e = .returned (ev A c) ∧ WOut w0 w w' C X zs V' M) ∧
    ∀ w D Y, RW w0 w D Y aw cap zs V m → Calls Tryz.prog f2 (as2 (.pointer (some ⟨Y.xb, 0, none⟩))) w fun e w' => e = .returned (.int .i64 (c : Int)) ∧ ROut w0 w w' D Y aw cap zs V' M
theorem Alike2.both {f1 f2 b : Nat} {as1 as2 : Value → Array Value} (h : Alike2 w0 A aw cap zs V m M f1 f2 as1 as2) (hE : Held9 w0 A) : ∃ c : Nat, ∀ w C X D Y, Two w0 w C X D Y aw cap zs V V m m → 2000 ≤ C b → 2000 ≤ D b → b < w.heap.size →
    (Calls Tryz.prog f1 (as1 (.pointer (some ⟨X.xb, 0, none⟩))) w fun e w1 => e = .returned (ev A c) ∧ KC b w w1 ∧ Calls Tryz.prog f2 (as2 (.pointer (some ⟨Y.xb, 0, none⟩))) w1 fun e w2 => e = .returned (.int .i64 (c : Int)) ∧ KC b w w2 ∧ Calls Tryz.prog 13 #[ev A c, .int .i64 (c : Int)] w2 fun e w3 => e = .returned (.bool true) ∧ KC b w w3 ∧ ∃ V', TwoOut w0 w3 X Y aw cap zs V' M) ∧
    (Calls Tryz.prog f2 (as2 (.pointer (some ⟨Y.xb, 0, none⟩))) w fun e w1 => e = .returned (.int .i64 (c : Int)) ∧ KC b w w1 ∧ Calls Tryz.prog f1 (as1 (.pointer (some ⟨X.xb, 0, none⟩))) w1 fun e w2 => e = .returned (ev A c) ∧ KC b w w2 ∧ Calls Tryz.prog 13 #[ev A c, .int .i64 (c : Int)] w2 fun e w3 => e = .returned (.bool true) ∧ KC b w w3 ∧ ∃ V', TwoOut w0 w3 X Y aw cap zs V' M) := by
  obtain ⟨c, V', hc, hp, hd⟩ := h
  refine ⟨c, fun w C X D Y hT hCb hDb hb => ⟨?_, ?_⟩⟩
  · refine (hp w C X hT.wd).mono ?_
    rintro e w1 ⟨rfl, ho⟩
    obtain ⟨C1, X1, hT1, k1, kk1, hc1⟩ := hT.prog ho
    have kc1 : KC b w w1 := fun j u hu => cell_kept hu kk1 (fun q => by have q' : C b < 2000 := q; omega)
    refine ⟨rfl, kc1, ?_⟩
    refine (hd w1 D Y hT1.rw).mono ?_
    rintro e w2 ⟨rfl, ho2⟩
    obtain ⟨D2, Y2, hT2, k2, kk2, hc2⟩ := hT1.doc ho2
    have kc2 : KC b w w2 := fun j u hu => cell_kept (kc1 j u hu) kk2 (fun q => by have q' : D b < 2000 := q; omega)
    refine ⟨rfl, kc2, ?_⟩
    refine (coded_ev A c w2 (hE.later hT2.wd.bel) hc).mono ?_
    rintro e w3 ⟨rfl, hb3⟩
    exact ⟨rfl, fun j u hu => cell_later hb3 (kc2 j u hu), V', C1, X1, D2, Y2, hT2.later hb3, k1, k2⟩
  · refine (hd w D Y hT.rw).mono ?_
    rintro e w1 ⟨rfl, ho⟩
    obtain ⟨D1, Y1, hT1, k1, kk1, hc1⟩ := hT.doc ho
    have kc1 : KC b w w1 := fun j u hu => cell_kept hu kk1 (fun q => by have q' : D b < 2000 := q; omega)
    refine ⟨rfl, kc1, ?_⟩
    refine (hp w1 C X hT1.wd).mono ?_
    rintro e w2 ⟨rfl, ho2⟩
    obtain ⟨C2, X2, hT2, k2, kk2, hc2⟩ := hT1.prog ho2
    have kc2 : KC b w w2 := fun j u hu => cell_kept (kc1 j u hu) kk2 (fun q => by have q' : C b < 2000 := q; omega)
    refine ⟨rfl, kc2, ?_⟩
    refine (coded_ev A c w2 (hE.later hT2.wd.bel) hc).mono ?_
    rintro e w3 ⟨rfl, hb3⟩
    exact ⟨rfl, fun j u hu => cell_later hb3 (kc2 j u hu), V', C2, X2, D1, Y1, hT2.later hb3, k2, k1⟩
theorem a_begin (s d : Int) (hE : Held9 w0 A) (hm : m < 800000) : Alike2 w0 A aw cap zs V m (m + 42) 34 42 (fun p => #[p, .int .i64 s, .int .i64 d]) (fun p => #[p, .int .i64 s, .int .i64 d]) := by
  refine ⟨cBeg zs.length V s d, if cBeg zs.length V s d = 0 then beginX zs V s.toNat d.toNat else V, ?_, fun w C X h => (begin_any s d _ h hE (by omega) rfl).mono ?_, fun w D Y h => (rbegin_any s d _ h (by omega) rfl).mono ?_⟩
  · unfold cBeg; repeat' split
    all_goals omega
  · rintro e w' ⟨rfl, ho⟩; exact ⟨rfl, ho.mono (by omega)⟩
  · rintro e w' ⟨rfl, ho⟩; exact ⟨rfl, ho.mono (by omega)⟩
theorem a_refuse (s d : Int) (hE : Held9 w0 A) (hm : m < 800000) : Alike2 w0 A aw cap zs V m (m + 42) 43 44 (fun p => #[p, .int .i64 s, .int .i64 d]) (fun p => #[p, .int .i64 s, .int .i64 d]) := by
  refine ⟨cRef zs.length V s d, if cRef zs.length V s d = 0 then refuseX V s.toNat d.toNat else V, ?_, fun w C X h => (refuse_any s d _ h hE (by omega) rfl).mono ?_, fun w D Y h => (rrefuse_any s d _ h rfl).mono ?_⟩
  · unfold cRef; repeat' split
    all_goals omega
  · rintro e w' ⟨rfl, ho⟩; exact ⟨rfl, ho.mono (by omega)⟩
  · rintro e w' ⟨rfl, ho⟩; exact ⟨rfl, ho.mono (by omega)⟩
theorem a_tick (s : Int) (hE : Held9 w0 A) (hm : m < 800000) : Alike2 w0 A aw cap zs V m (m + 42) 45 46 (fun p => #[p, .int .i64 s]) (fun p => #[p, .int .i64 s]) := by
  refine ⟨cUp zs.length V s, if cUp zs.length V s = 0 then tickX zs s.toNat 6 0 V else V, cUp_le, fun w C X h => (tick_any s _ h hE (by omega) rfl).mono ?_, fun w D Y h => (rtick_any s _ h (by omega) rfl).mono ?_⟩
  · rintro e w' ⟨rfl, ho⟩; exact ⟨rfl, ho⟩
  · rintro e w' ⟨rfl, ho⟩; exact ⟨rfl, ho⟩
theorem a_down (s : Int) (hE : Held9 w0 A) : Alike2 w0 A aw cap zs V m (m + 42) 47 48 (fun p => #[p, .int .i64 s]) (fun p => #[p, .int .i64 s]) := by
  refine ⟨cUp zs.length V s, if cUp zs.length V s = 0 then downX V s.toNat else V, cUp_le, fun w C X h => (down_any s _ h hE rfl).mono ?_, fun w D Y h => (rdown_any s _ h rfl).mono ?_⟩
  · rintro e w' ⟨rfl, ho⟩; exact ⟨rfl, ho.mono (by omega)⟩
  · rintro e w' ⟨rfl, ho⟩; exact ⟨rfl, ho.mono (by omega)⟩
theorem a_up (s : Int) (hE : Held9 w0 A) : Alike2 w0 A aw cap zs V m (m + 42) 49 50 (fun p => #[p, .int .i64 s]) (fun p => #[p, .int .i64 s]) := by
  refine ⟨cWake zs.length V s, if cWake zs.length V s = 0 then upX V s.toNat else V, ?_, fun w C X h => (wake_any s _ h hE rfl).mono ?_, fun w D Y h => (rwake_any s _ h rfl).mono ?_⟩
  · unfold cWake; repeat' split
    all_goals omega
  · rintro e w' ⟨rfl, ho⟩; exact ⟨rfl, ho.mono (by omega)⟩
  · rintro e w' ⟨rfl, ho⟩; exact ⟨rfl, ho.mono (by omega)⟩
theorem a_cut (s x : Int) (hE : Held9 w0 A) (hx : x ≤ 9223372036854775807) : Alike2 w0 A aw cap zs V m (m + 42) 57 58 (fun p => #[p, .int .i64 s, .int .i64 x]) (fun p => #[p, .int .i64 s, .int .i64 x]) := by
  refine ⟨cCut zs.length V s x, if 0 ≤ s ∧ s < zs.length then cutX V s.toNat x else V, ?_, fun w C X h => (cut_any s x _ h hE hx rfl).mono ?_, fun w D Y h => (rcut_any s x _ h hx rfl).mono ?_⟩
  · unfold cCut; split
    · exact cC_le _ _
    · omega
  · rintro e w' ⟨rfl, ho⟩; exact ⟨rfl, ho.mono (by omega)⟩
  · rintro e w' ⟨rfl, ho⟩; exact ⟨rfl, ho.mono (by omega)⟩
theorem a_drop (x : Int) (hE : Held9 w0 A) (hm : m < 800000) : Alike2 w0 A aw cap zs V m (m + 42) 51 52 (fun p => #[p, .int .i64 x]) (fun p => #[p, .int .i64 x]) := by
  by_cases hx : 0 ≤ x ∧ x < V.fly.length
  · obtain ⟨k, rfl⟩ := Int.eq_ofNat_of_zero_le hx.1
    refine ⟨0, takeX V k, by omega, fun w C X h => (drop_ok k h (by omega) (by omega)).mono ?_, fun w D Y h => (rdrop_ok k h (by omega) (by omega)).mono ?_⟩
    · rintro e w' ⟨rfl, ho⟩; exact ⟨rfl, ho.mono (by omega)⟩
    · rintro e w' ⟨rfl, ho⟩; exact ⟨rfl, ho.mono (by omega)⟩
  · refine ⟨4, V, by omega, fun w C X h => (drop_no x h hE hx).mono ?_, fun w D Y h => (rdrop_no x h hx (by omega)).mono ?_⟩
    · rintro e w' ⟨rfl, rfl⟩; exact ⟨rfl, h.out (Below.refl _ _) (by omega)⟩
    · rintro e w' ⟨rfl, hb⟩; exact ⟨rfl, h.out hb (by omega)⟩
theorem a_twice (x : Int) (hE : Held9 w0 A) (hm : m < 800000) : Alike2 w0 A aw cap zs V m (m + 42) 53 54 (fun p => #[p, .int .i64 x]) (fun p => #[p, .int .i64 x]) := by
  by_cases hx : 0 ≤ x ∧ x < V.fly.length
  · obtain ⟨k, rfl⟩ := Int.eq_ofNat_of_zero_le hx.1
    have hk : k < V.fly.length := by omega
    refine ⟨0, twiceX V k (V.fly[k]'hk), by omega, fun w C X h => (twice_ok k _ h hk rfl (by omega)).mono ?_, fun w D Y h => (rtwice_ok k _ h hk rfl (by omega)).mono ?_⟩
    · rintro e w' ⟨rfl, ho⟩; exact ⟨rfl, ho.mono (by omega)⟩
    · rintro e w' ⟨rfl, ho⟩; exact ⟨rfl, ho.mono (by omega)⟩
  · refine ⟨4, V, by omega, fun w C X h => (twice_no x h hE hx).mono ?_, fun w D Y h => (rtwice_no x h hx (by omega)).mono ?_⟩
    · rintro e w' ⟨rfl, rfl⟩; exact ⟨rfl, h.out (Below.refl _ _) (by omega)⟩
    · rintro e w' ⟨rfl, rfl⟩; exact ⟨rfl, h.out (Below.refl _ _) (by omega)⟩
theorem a_link (s d : Int) (b : Bool) (hE : Held9 w0 A) (hm : m < 800000) : Alike2 w0 A aw cap zs V m (m + 42) 55 56 (fun p => #[p, .int .i64 s, .int .i64 d, .bool b]) (fun p => #[p, .int .i64 s, .int .i64 d, .bool b]) := by
  by_cases hx : (0 ≤ s ∧ s < zs.length) ∧ 0 ≤ d ∧ d < zs.length
  · obtain ⟨k, rfl⟩ := Int.eq_ofNat_of_zero_le hx.1.1
    obtain ⟨j, rfl⟩ := Int.eq_ofNat_of_zero_le hx.2.1
    refine ⟨0, linkX V k j b, by omega, fun w C X h => (link_ok k j b h (by omega) (by omega) (by omega)).mono ?_, fun w D Y h => (rlink_ok k j b h (by omega) (by omega) (by omega)).mono ?_⟩
    · rintro e w' ⟨rfl, ho⟩; exact ⟨rfl, ho.mono (by omega)⟩
    · rintro e w' ⟨rfl, ho⟩; exact ⟨rfl, ho.mono (by omega)⟩
  · refine ⟨2, V, by omega, fun w C X h => (link_no s d b h hE hx).mono ?_, fun w D Y h => (rlink_no s d b h hx).mono ?_⟩
    · rintro e w' ⟨rfl, rfl⟩; exact ⟨rfl, h.out (Below.refl _ _) (by omega)⟩
    · rintro e w' ⟨rfl, rfl⟩; exact ⟨rfl, h.out (Below.refl _ _) (by omega)⟩
theorem a_deliver (x : Int) (hE : Held9 w0 A) (hm : m < 800000) : Alike2 w0 A aw cap zs V m (m + 42) 59 60 (fun p => #[p, .int .i64 x]) (fun p => #[p, .int .i64 x]) := by
  by_cases hx : 0 ≤ x ∧ x < V.fly.length
  · obtain ⟨k, rfl⟩ := Int.eq_ofNat_of_zero_le hx.1
    have hk : k < V.fly.length := by omega
    refine ⟨0, deliverX zs V k (V.fly[k]'hk), by omega, fun w C X h => (deliver_ok k _ h hE hk rfl (by omega)).mono ?_, fun w D Y h => (rdeliver_ok k _ h hk rfl (by omega)).mono ?_⟩
    · rintro e w' ⟨rfl, ho⟩; exact ⟨rfl, ho.mono (by omega)⟩
    · rintro e w' ⟨rfl, ho⟩; exact ⟨rfl, ho.mono (by omega)⟩
  · refine ⟨4, V, by omega, fun w C X h => (deliver_no x h hE hx).mono ?_, fun w D Y h => (rdeliver_no x h hx (by omega)).mono ?_⟩
    · rintro e w' ⟨rfl, rfl⟩; exact ⟨rfl, h.out (Below.refl _ _) (by omega)⟩
    · rintro e w' ⟨rfl, hb⟩; exact ⟨rfl, h.out hb (by omega)⟩
end
section
variable {w0 w : World} {C D : Nat → Nat} {X : XB} {Y : YB} {aw : Option Addr} {cap m : Nat} {zs : List Int} {V : PX} {A : Nat → Addr}
theorem four_of {w : World} {b : Nat} {a c e g : Value} {t : TypeId} {f : Nat × Nat} (h : w.heap[b]? = some (.cells #[a, c, e, g] t f)) : w.cell? ⟨b, 0, none⟩ = some a ∧ w.cell? ⟨b, 1, none⟩ = some c ∧ w.cell? ⟨b, 2, none⟩ = some e ∧ w.cell? ⟨b, 3, none⟩ = some g :=
  ⟨by rw [cell_of_row _ _ _ _ _ _ h]; rfl, by rw [cell_of_row _ _ _ _ _ _ h]; rfl, by rw [cell_of_row _ _ _ _ _ _ h]; rfl, by rw [cell_of_row _ _ _ _ _ _ h]; rfl⟩
theorem KC.four {b : Nat} {w w' : World} {p q r s : Value} (k : KC b w w') (h : w.cell? ⟨b, 0, none⟩ = some p ∧ w.cell? ⟨b, 1, none⟩ = some q ∧ w.cell? ⟨b, 2, none⟩ = some r ∧ w.cell? ⟨b, 3, none⟩ = some s) : w'.cell? ⟨b, 0, none⟩ = some p ∧ w'.cell? ⟨b, 1, none⟩ = some q ∧ w'.cell? ⟨b, 2, none⟩ = some r ∧ w'.cell? ⟨b, 3, none⟩ = some s :=
  ⟨k 0 _ h.1, k 1 _ h.2.1, k 2 _ h.2.2.1, k 3 _ h.2.2.2⟩
set_option maxHeartbeats 8000000 in
set_option maxRecDepth 100000 in
theorem step_any (xk : ByteArray) (xs xd xn : Int) (h : Two w0 w C X D Y aw cap zs V V m m) (hE : Held9 w0 A) (hm : m < 800000) (hn : xn ≤ 9223372036854775807) :
    Calls Tryz.prog 15 #[.pointer (some ⟨X.xb, 0, none⟩), .pointer (some ⟨Y.xb, 0, none⟩), .agg #[.string xk, .int .i64 xs, .int .i64 xd, .int .i64 xn]] w fun e w' => e = .returned (.bool true) ∧ ∃ V', TwoOut w0 w' X Y aw cap zs V' (m + 42) := by
  obtain ⟨W, HW⟩ : ∃ W, Hid (w.alloc (.cells #[.string xk, .int .i64 xs, .int .i64 xd, .int .i64 xn] 37) = W) := ⟨_, rfl⟩
  have hW := HW.out
  have HB : Hid (Below w.heap.size w W) := by rw [← HW.out]; exact (Below.refl _ _).alloc (Nat.le_refl _) _
  have HR := hid (heap_alloc_new w (.cells #[.string xk, .int .i64 xs, .int .i64 xd, .int .i64 xn] 37))
  rw [HW.out] at HR
  have HF := hid (four_of HR.out)
  obtain ⟨b0, b1, b2, b3⟩ := HF.out
  have H := hid ((h.later HB.out).later (Below.refl _ _).drew)
  have HE := hid hE
  have HN := hid hn
  have HCb : Hid (2000 ≤ C w.heap.size) := by
    rcases Nat.lt_or_ge (C w.heap.size) 2000 with q | q
    · have := h.wd.lt _ q; omega
    · exact q
  have HDb : Hid (2000 ≤ D w.heap.size) := by
    rcases Nat.lt_or_ge (D w.heap.size) 2000 with q | q
    · have := h.rw.lt _ q; omega
    · exact q
  have HLb : Hid (w.heap.size < W.drew.heap.size) := row_ltJ HR.out
  clear h hE hn
  have hcs : ((xk.toList == [98, 101, 103, 105, 110]) = true) ∨ ((xk.toList == [98, 101, 103, 105, 110]) = false ∧ (xk.toList == [114, 101, 102, 117, 115, 101]) = true) ∨ ((xk.toList == [98, 101, 103, 105, 110]) = false ∧ (xk.toList == [114, 101, 102, 117, 115, 101]) = false ∧ (xk.toList == [116, 105, 99, 107]) = true) ∨ ((xk.toList == [98, 101, 103, 105, 110]) = false ∧ (xk.toList == [114, 101, 102, 117, 115, 101]) = false ∧ (xk.toList == [116, 105, 99, 107]) = false ∧ (xk.toList == [100, 111, 119, 110]) = true) ∨ ((xk.toList == [98, 101, 103, 105, 110]) = false ∧ (xk.toList == [114, 101, 102, 117, 115, 101]) = false ∧ (xk.toList == [116, 105, 99, 107]) = false ∧ (xk.toList == [100, 111, 119, 110]) = false ∧ (xk.toList == [117, 112]) = true) ∨ ((xk.toList == [98, 101, 103, 105, 110]) = false ∧ (xk.toList == [114, 101, 102, 117, 115, 101]) = false ∧ (xk.toList == [116, 105, 99, 107]) = false ∧ (xk.toList == [100, 111, 119, 110]) = false ∧ (xk.toList == [117, 112]) = false ∧ (xk.toList == [100, 114, 111, 112]) = true) ∨ ((xk.toList == [98, 101, 103, 105, 110]) = false ∧ (xk.toList == [114, 101, 102, 117, 115, 101]) = false ∧ (xk.toList == [116, 105, 99, 107]) = false ∧ (xk.toList == [100, 111, 119, 110]) = false ∧ (xk.toList == [117, 112]) = false ∧ (xk.toList == [100, 114, 111, 112]) = false ∧ (xk.toList == [116, 119, 105, 99, 101]) = true) ∨ ((xk.toList == [98, 101, 103, 105, 110]) = false ∧ (xk.toList == [114, 101, 102, 117, 115, 101]) = false ∧ (xk.toList == [116, 105, 99, 107]) = false ∧ (xk.toList == [100, 111, 119, 110]) = false ∧ (xk.toList == [117, 112]) = false ∧ (xk.toList == [100, 114, 111, 112]) = false ∧ (xk.toList == [116, 119, 105, 99, 101]) = false ∧ (xk.toList == [108, 105, 110, 107]) = true) ∨ ((xk.toList == [98, 101, 103, 105, 110]) = false ∧ (xk.toList == [114, 101, 102, 117, 115, 101]) = false ∧ (xk.toList == [116, 105, 99, 107]) = false ∧ (xk.toList == [100, 111, 119, 110]) = false ∧ (xk.toList == [117, 112]) = false ∧ (xk.toList == [100, 114, 111, 112]) = false ∧ (xk.toList == [116, 119, 105, 99, 101]) = false ∧ (xk.toList == [108, 105, 110, 107]) = false ∧ (xk.toList == [98, 114, 101, 97, 107]) = true) ∨ ((xk.toList == [98, 101, 103, 105, 110]) = false ∧ (xk.toList == [114, 101, 102, 117, 115, 101]) = false ∧ (xk.toList == [116, 105, 99, 107]) = false ∧ (xk.toList == [100, 111, 119, 110]) = false ∧ (xk.toList == [117, 112]) = false ∧ (xk.toList == [100, 114, 111, 112]) = false ∧ (xk.toList == [116, 119, 105, 99, 101]) = false ∧ (xk.toList == [108, 105, 110, 107]) = false ∧ (xk.toList == [98, 114, 101, 97, 107]) = false ∧ (xk.toList == [99, 117, 116]) = true) ∨ ((xk.toList == [98, 101, 103, 105, 110]) = false ∧ (xk.toList == [114, 101, 102, 117, 115, 101]) = false ∧ (xk.toList == [116, 105, 99, 107]) = false ∧ (xk.toList == [100, 111, 119, 110]) = false ∧ (xk.toList == [117, 112]) = false ∧ (xk.toList == [100, 114, 111, 112]) = false ∧ (xk.toList == [116, 119, 105, 99, 101]) = false ∧ (xk.toList == [108, 105, 110, 107]) = false ∧ (xk.toList == [98, 114, 101, 97, 107]) = false ∧ (xk.toList == [99, 117, 116]) = false) := by
    rcases k0 : (xk.toList == [98, 101, 103, 105, 110]) with _ | _
    rotate_left
    · exact .inl rfl
    rcases k1 : (xk.toList == [114, 101, 102, 117, 115, 101]) with _ | _
    rotate_left
    · exact .inr (.inl ⟨rfl, rfl⟩)
    rcases k2 : (xk.toList == [116, 105, 99, 107]) with _ | _
    rotate_left
    · exact .inr (.inr (.inl ⟨rfl, rfl, rfl⟩))
    rcases k3 : (xk.toList == [100, 111, 119, 110]) with _ | _
    rotate_left
    · exact .inr (.inr (.inr (.inl ⟨rfl, rfl, rfl, rfl⟩)))
    rcases k4 : (xk.toList == [117, 112]) with _ | _
    rotate_left
    · exact .inr (.inr (.inr (.inr (.inl ⟨rfl, rfl, rfl, rfl, rfl⟩))))
    rcases k5 : (xk.toList == [100, 114, 111, 112]) with _ | _
    rotate_left
    · exact .inr (.inr (.inr (.inr (.inr (.inl ⟨rfl, rfl, rfl, rfl, rfl, rfl⟩)))))
    rcases k6 : (xk.toList == [116, 119, 105, 99, 101]) with _ | _
    rotate_left
    · exact .inr (.inr (.inr (.inr (.inr (.inr (.inl ⟨rfl, rfl, rfl, rfl, rfl, rfl, rfl⟩))))))
    rcases k7 : (xk.toList == [108, 105, 110, 107]) with _ | _
    rotate_left
    · exact .inr (.inr (.inr (.inr (.inr (.inr (.inr (.inl ⟨rfl, rfl, rfl, rfl, rfl, rfl, rfl, rfl⟩)))))))
    rcases k8 : (xk.toList == [98, 114, 101, 97, 107]) with _ | _
    rotate_left
    · exact .inr (.inr (.inr (.inr (.inr (.inr (.inr (.inr (.inl ⟨rfl, rfl, rfl, rfl, rfl, rfl, rfl, rfl, rfl⟩))))))))
    rcases k9 : (xk.toList == [99, 117, 116]) with _ | _
    rotate_left
    · exact .inr (.inr (.inr (.inr (.inr (.inr (.inr (.inr (.inr (.inl ⟨rfl, rfl, rfl, rfl, rfl, rfl, rfl, rfl, rfl, rfl⟩)))))))))
    exact .inr (.inr (.inr (.inr (.inr (.inr (.inr (.inr (.inr (.inr ⟨rfl, rfl, rfl, rfl, rfl, rfl, rfl, rfl, rfl, rfl⟩)))))))))
  rcases hcs with f0 | ⟨f0, f1⟩ | ⟨f0, f1, f2⟩ | ⟨f0, f1, f2, f3⟩ | ⟨f0, f1, f2, f3, f4⟩ | ⟨f0, f1, f2, f3, f4, f5⟩ | ⟨f0, f1, f2, f3, f4, f5, f6⟩ | ⟨f0, f1, f2, f3, f4, f5, f6, f7⟩ | ⟨f0, f1, f2, f3, f4, f5, f6, f7, f8⟩ | ⟨f0, f1, f2, f3, f4, f5, f6, f7, f8, f9⟩ | ⟨f0, f1, f2, f3, f4, f5, f6, f7, f8, f9⟩
  case' inl =>
    obtain ⟨c, hc⟩ := (hid ((a_begin xs xd HE.out (by omega) : Alike2 w0 A aw cap zs V m (m + 42) 34 42 _ _).both (b := w.heap.size) HE.out)).out
    obtain ⟨hp0, hd0⟩ := hc _ _ _ _ _ H.out HCb.out HDb.out HLb.out
    have HP0 := hid hp0
    have HD0 := hid hd0
    clear hc hp0 hd0
  case' inr.inl =>
    obtain ⟨c, hc⟩ := (hid ((a_refuse xs xd HE.out (by omega) : Alike2 w0 A aw cap zs V m (m + 42) 43 44 _ _).both (b := w.heap.size) HE.out)).out
    obtain ⟨hp0, hd0⟩ := hc _ _ _ _ _ H.out HCb.out HDb.out HLb.out
    have HP0 := hid hp0
    have HD0 := hid hd0
    clear hc hp0 hd0
  case' inr.inr.inl =>
    obtain ⟨c, hc⟩ := (hid ((a_tick xs HE.out (by omega) : Alike2 w0 A aw cap zs V m (m + 42) 45 46 _ _).both (b := w.heap.size) HE.out)).out
    obtain ⟨hp0, hd0⟩ := hc _ _ _ _ _ H.out HCb.out HDb.out HLb.out
    have HP0 := hid hp0
    have HD0 := hid hd0
    clear hc hp0 hd0
  case' inr.inr.inr.inl =>
    obtain ⟨c, hc⟩ := (hid ((a_down xs HE.out : Alike2 w0 A aw cap zs V m (m + 42) 47 48 _ _).both (b := w.heap.size) HE.out)).out
    obtain ⟨hp0, hd0⟩ := hc _ _ _ _ _ H.out HCb.out HDb.out HLb.out
    have HP0 := hid hp0
    have HD0 := hid hd0
    clear hc hp0 hd0
  case' inr.inr.inr.inr.inl =>
    obtain ⟨c, hc⟩ := (hid ((a_up xs HE.out : Alike2 w0 A aw cap zs V m (m + 42) 49 50 _ _).both (b := w.heap.size) HE.out)).out
    obtain ⟨hp0, hd0⟩ := hc _ _ _ _ _ H.out HCb.out HDb.out HLb.out
    have HP0 := hid hp0
    have HD0 := hid hd0
    clear hc hp0 hd0
  case' inr.inr.inr.inr.inr.inl =>
    obtain ⟨c, hc⟩ := (hid ((a_drop xn HE.out (by omega) : Alike2 w0 A aw cap zs V m (m + 42) 51 52 _ _).both (b := w.heap.size) HE.out)).out
    obtain ⟨hp0, hd0⟩ := hc _ _ _ _ _ H.out HCb.out HDb.out HLb.out
    have HP0 := hid hp0
    have HD0 := hid hd0
    clear hc hp0 hd0
  case' inr.inr.inr.inr.inr.inr.inl =>
    obtain ⟨c, hc⟩ := (hid ((a_twice xn HE.out (by omega) : Alike2 w0 A aw cap zs V m (m + 42) 53 54 _ _).both (b := w.heap.size) HE.out)).out
    obtain ⟨hp0, hd0⟩ := hc _ _ _ _ _ H.out HCb.out HDb.out HLb.out
    have HP0 := hid hp0
    have HD0 := hid hd0
    clear hc hp0 hd0
  case' inr.inr.inr.inr.inr.inr.inr.inl =>
    obtain ⟨c, hc⟩ := (hid ((a_link xs xd true HE.out (by omega) : Alike2 w0 A aw cap zs V m (m + 42) 55 56 _ _).both (b := w.heap.size) HE.out)).out
    obtain ⟨hp0, hd0⟩ := hc _ _ _ _ _ H.out HCb.out HDb.out HLb.out
    have HP0 := hid hp0
    have HD0 := hid hd0
    clear hc hp0 hd0
  case' inr.inr.inr.inr.inr.inr.inr.inr.inl =>
    obtain ⟨c, hc⟩ := (hid ((a_link xs xd false HE.out (by omega) : Alike2 w0 A aw cap zs V m (m + 42) 55 56 _ _).both (b := w.heap.size) HE.out)).out
    obtain ⟨hp0, hd0⟩ := hc _ _ _ _ _ H.out HCb.out HDb.out HLb.out
    have HP0 := hid hp0
    have HD0 := hid hd0
    clear hc hp0 hd0
  case' inr.inr.inr.inr.inr.inr.inr.inr.inr.inl =>
    obtain ⟨c, hc⟩ := (hid ((a_cut xs xn HE.out HN.out : Alike2 w0 A aw cap zs V m (m + 42) 57 58 _ _).both (b := w.heap.size) HE.out)).out
    obtain ⟨hp0, hd0⟩ := hc _ _ _ _ _ H.out HCb.out HDb.out HLb.out
    have HP0 := hid hp0
    have HD0 := hid hd0
    clear hc hp0 hd0
  case' inr.inr.inr.inr.inr.inr.inr.inr.inr.inr =>
    obtain ⟨c, hc⟩ := (hid ((a_deliver xn HE.out (by omega) : Alike2 w0 A aw cap zs V m (m + 42) 59 60 _ _).both (b := w.heap.size) HE.out)).out
    obtain ⟨hp0, hd0⟩ := hc _ _ _ _ _ H.out HCb.out HDb.out HLb.out
    have HP0 := hid hp0
    have HD0 := hid hd0
    clear hc hp0 hd0
  all_goals
    obtain ⟨vc, HVC⟩ : ∃ vc, Hid (ev A c = vc) := ⟨_, rfl⟩
    rw [HVC.out] at HP0 HD0
    go_enter Tryz.func15, Tryz.ntmps15
    go_wp2_with fail
    go_region_held3 (fun V => V.cell? ⟨w.heap.size, 0, none⟩ = some (.string xk) ∧ V.cell? ⟨w.heap.size, 1, none⟩ = some (.int .i64 xs) ∧ V.cell? ⟨w.heap.size, 2, none⟩ = some (.int .i64 xd) ∧ V.cell? ⟨w.heap.size, 3, none⟩ = some (.int .i64 xn)) (go_keep) (first | ((first | go_at_call 34 | go_at_call 42 | go_at_call 43 | go_at_call 44 | go_at_call 45 | go_at_call 46 | go_at_call 47 | go_at_call 48 | go_at_call 49 | go_at_call 50 | go_at_call 51 | go_at_call 52 | go_at_call 53 | go_at_call 54 | go_at_call 55 | go_at_call 56 | go_at_call 57 | go_at_call 58 | go_at_call 59 | go_at_call 60); (first | ((with_reducible refine HP0.out.mono ?_); rintro e w1 ⟨rfl, kc, hnx⟩; have HNx := hid hnx; obtain ⟨q0, q1, q2, q3⟩ := kc.four HF.out; clear hnx kc) | ((with_reducible refine HD0.out.mono ?_); rintro e w1 ⟨rfl, kc, hnx⟩; have HNx := hid hnx; obtain ⟨q0, q1, q2, q3⟩ := kc.four HF.out; clear hnx kc) | ((with_reducible refine HNx.out.mono ?_); rintro e w2 ⟨rfl, kc, hnx⟩; have HNy := hid hnx; obtain ⟨r0, r1, r2, r3⟩ := kc.four HF.out; clear hnx kc))) | (go_at_call 13; (with_reducible refine HNy.out.mono ?_); rintro e w3 ⟨rfl, kc, hout⟩; have HO := hid hout; obtain ⟨s0, s1, s2, s3⟩ := kc.four HF.out; clear hout kc))
    all_goals go_wp2_with fail
    all_goals go_ret
    all_goals exact ⟨rfl, HO.out⟩
end
structure NwH (Q : Exit → Act → World → Prop) (a0 : Act) (w0 wr W W3 : World) (C : Nat → Nat) (nv : Value) (K : Nat → RB) (aw : Option Addr) (cap k : Nat) (zs : List Int) : Prop where
  rn : RWN w0 wr C w0.heap.size nv K aw cap zs k
  k7 : k < 7
  bl : Below wr.heap.size wr W
  rp : RP W W3.heap.size (zeroB 512) false 0 false
  s3 : W3.heap.size = wr.heap.size + 1 ∧ W.heap.size = wr.heap.size + 2
  q : ∀ (a' : Act) (w5 : World) (g5 c5 : Nat), Sm a0 a' → (∃ C' K', RWN w0 (w5.setCell ⟨w0.heap.size, 1, none⟩ (.slice (some ⟨g5, 0, none⟩) (k + 1) c5)) C' w0.heap.size (.slice (some ⟨g5, 0, none⟩) (k + 1) c5) K' aw cap zs (k + 1)) → Q .normal a' (w5.setCell ⟨w0.heap.size, 1, none⟩ (.slice (some ⟨g5, 0, none⟩) (k + 1) c5))
  qp : ∀ c (d : Nat) v (a : Act) w, Q (.panic c) (a.put (some d) v) w → Q (.panic c) a w
section
variable {Q : Exit → Act → World → Prop} {a0 : Act} {w0 wr W W3 w w1 : World} {C : Nat → Nat} {a : Act} {nv : Value} {K : Nat → RB} {aw : Option Addr} {cap k : Nat} {zs : List Int} {ld cl lL lD : Bool} {p : Nat} {t mm gn gs gb ls dn : Nat}
theorem NwH.cell (h : NwH Q a0 w0 wr W W3 C nv K aw cap k zs) (hb : Below W.heap.size W w) : w.cell? ⟨w0.heap.size, 1, none⟩ = some nv := by
  have hr := (hb.block _ (Nat.lt_of_lt_of_le (row_ltJ h.rn.row) h.bl.size)).trans ((h.bl.block _ (row_ltJ h.rn.row)).trans h.rn.row)
  rw [cell_of_row _ _ _ _ _ _ hr]; rfl
structure NwF (W w1 : World) (k r t mm gn gs gb ls dn : Nat) : Prop where
  bel : Below W.heap.size W w1
  rj : RJ w1 mm gn gs r (dealL (zeroB 512).data.toList) false
  rs : RSt w1 t mm gb (k : Int) (fun _ => false)
  lo : W.heap.size ≤ t ∧ W.heap.size ≤ mm ∧ W.heap.size ≤ gn ∧ W.heap.size ≤ gs ∧ W.heap.size ≤ gb
  ht : t ≠ mm ∧ t ≠ gn ∧ t ≠ gs ∧ t ≠ gb
  hg : gb ≠ mm ∧ gb ≠ gn ∧ gb ≠ gs
  rl : w1.heap[ls]? = some (.cells #[.pointer none, .pointer none, .pointer none, .pointer none, .pointer none, .pointer none] 169 (0, 0))
  rd : w1.heap[dn]? = some (.cells #[.bool false, .bool false, .bool false, .bool false, .bool false, .bool false] 4 (0, 0))
  l1 : W.heap.size ≤ ls
  l2 : W.heap.size ≤ dn
  xLD : ls ≠ dn
  xLS : ls ≠ t ∧ ls ≠ mm ∧ ls ≠ gn ∧ ls ≠ gs ∧ ls ≠ gb
  xDS : dn ≠ t ∧ dn ≠ mm ∧ dn ≠ gn ∧ dn ≠ gs ∧ dn ≠ gb
structure NwB (a0 : Act) (W w1 w : World) (a : Act) (nv : Value) (xb k r : Nat) (ld : Bool) (p : Nat) (t mm gn gs gb ls dn : Nat) : Prop where
  f : NwF W w1 k r t mm gn gs gb ls dn
  sm : Sm a0 a
  sz : a0.tmps.size = 37
  e19 : a.eval (.tmp 19) = .pointer (some ⟨xb, 0, none⟩)
  e22 : a.eval (.tmp 22) = .pointer (some ⟨xb, 1, none⟩)
  bel : Below w1.heap.size w1 w
  e23 : ld = true → a.eval (.tmp 23) = nv
  p1 : p = 1 → w = w1 ∧ a.eval (.tmp 30) = .agg #[.pointer (some ⟨t, 0, none⟩), .pointer (some ⟨r, 0, none⟩), .slice (some ⟨ls, 0, none⟩) 6 6, .slice (some ⟨dn, 0, none⟩) 6 6]
  p2 : 2 ≤ p → w.heap[w1.heap.size]? = some (.cells #[.pointer (some ⟨t, 0, none⟩), .pointer (some ⟨r, 0, none⟩), .slice (some ⟨ls, 0, none⟩) 6 6, .slice (some ⟨dn, 0, none⟩) 6 6] 105 (0, 0))
  p3 : p = 2 → a.eval (.tmp 31) = .pointer (some ⟨w1.heap.size, 0, none⟩)
  p4 : p = 3 → ∃ b, a.eval (.tmp 32) = .slice (some ⟨b, 0, none⟩) 1 1 ∧ ∀ j u, [Value.pointer (some ⟨w1.heap.size, 0, none⟩)][j]? = some u → w.cell? ((⟨b, 0, none⟩ : Addr).add j) = some u
theorem NwB.size {xb r : Nat} (h : NwB a0 W w1 w a nv xb k r ld p t mm gn gs gb ls dn) : a.tmps.size = 37 := h.sm.1.trans h.sz
set_option maxRecDepth 100000 in
theorem nwb_load {K' : Act → World → Prop} (H : NwH Q a0 w0 wr W W3 C nv K aw cap k zs) (h : NwB a0 W w1 w a nv w0.heap.size k W3.heap.size ld p t mm gn gs gb ls dn) (hK : ∀ a', NwB a0 W w1 w a' nv w0.heap.size k W3.heap.size true p t mm gn gs gb ls dn → K' a' w) : wpOp Tryz.prog nwOps Q 4 K' a w := by
  have hz := h.size
  have ne : ∀ j, j ≠ 23 → (a.put (some 23) nv).eval (.tmp j) = a.eval (.tmp j) := fun j hj => Act.eval_put_ne _ _ _ _ (Ne.symm hj)
  have hN : NwB a0 W w1 w (a.put (some 23) nv) nv w0.heap.size k W3.heap.size true p t mm gn gs gb ls dn := ⟨h.f, h.sm.put (by omega) (by omega), h.sz, (ne _ (by decide)).trans h.e19, (ne _ (by decide)).trans h.e22, h.bel, fun _ => Act.eval_put_same _ _ _ (by omega), fun q => ⟨(h.p1 q).1, (ne _ (by decide)).trans (h.p1 q).2⟩, h.p2, fun q => (ne _ (by decide)).trans (h.p3 q), fun q => by obtain ⟨b, e1, e2⟩ := h.p4 q; exact ⟨b, (ne _ (by decide)).trans e1, e2⟩⟩
  have hc := H.cell (h.f.bel.trans (h.bel.mono h.f.bel.size))
  refine wpOp_step (o := { dst := some 23, op := Op.load 69 (Operand.tmp 22), type := 69, pos := "world.go:231", after := #[{ on := 3, ground := Ground.data }], guard := none }) rfl (fun K1 hK1 => ?_)
  have e0 := eval_form h.e22
  have HK := hid (hK1 _ _ (hK _ hN))
  clear hK hK1 h hN hz ne H
  go_simp
  exact HK.out
set_option maxRecDepth 100000 in
theorem nwb_build {K' : Act → World → Prop} (h : NwI a0 W w a nv w0.heap.size k W3.heap.size ld true true true t mm gn gs gb ls dn) (hK : ∀ a', NwB a0 W w w a' nv w0.heap.size k W3.heap.size ld 1 t mm gn gs gb ls dn → K' a' w) : wpOp Tryz.prog nwOps Q 11 K' a w := by
  have hz := h.size
  obtain ⟨e26, sj, ss, sb, st, sg⟩ := h.site rfl
  obtain ⟨e28, rl, ll⟩ := h.leads rfl
  obtain ⟨e29, rd, ldn⟩ := h.done rfl
  have ne : ∀ j, j ≠ 30 → (a.put (some 30) (.agg #[.pointer (some ⟨t, 0, none⟩), .pointer (some ⟨W3.heap.size, 0, none⟩), .slice (some ⟨ls, 0, none⟩) 6 6, .slice (some ⟨dn, 0, none⟩) 6 6])).eval (.tmp j) = a.eval (.tmp j) := fun j hj => Act.eval_put_ne _ _ _ _ (Ne.symm hj)
  have hN : NwB a0 W w w (a.put (some 30) (.agg #[.pointer (some ⟨t, 0, none⟩), .pointer (some ⟨W3.heap.size, 0, none⟩), .slice (some ⟨ls, 0, none⟩) 6 6, .slice (some ⟨dn, 0, none⟩) 6 6])) nv w0.heap.size k W3.heap.size ld 1 t mm gn gs gb ls dn := ⟨⟨h.bel, sj, ss, sb, st, sg, rl, rd, ll, ldn, h.xLD rfl rfl, h.xLS rfl rfl, h.xDS rfl rfl⟩, h.sm.put (by omega) (by omega), h.sz, (ne _ (by decide)).trans h.e19, (ne _ (by decide)).trans h.e22, Below.refl _ _, fun q => (ne _ (by decide)).trans (h.e23 q), fun _ => ⟨rfl, Act.eval_put_same _ _ _ (by omega)⟩, fun q => by omega, fun q => by omega, fun q => by omega⟩
  refine wpOp_step (o := { dst := some 30, op := Op.build 105 #[(0, Operand.tmp 26), (1, Operand.tmp 27), (2, Operand.tmp 28), (3, Operand.tmp 29)], type := 105, pos := "world.go:231", after := #[{ on := 7, ground := Ground.data }, { on := 8, ground := Ground.data }, { on := 9, ground := Ground.data }, { on := 10, ground := Ground.data }], guard := none }) rfl (fun K1 hK1 => ?_)
  have f26 := eval_form e26; have f27 := eval_form h.e27; have f28 := eval_form e28; have f29 := eval_form e29
  have HK := hid (hK1 _ _ (hK _ hN))
  clear hK hK1 h hN hz ne
  go_simp
  exact HK.out
set_option maxRecDepth 100000 in
theorem nwb_box {K' : Act → World → Prop} (h : NwB a0 W w1 w a nv w0.heap.size k W3.heap.size ld 1 t mm gn gs gb ls dn) (hK : ∀ a' w', NwB a0 W w1 w' a' nv w0.heap.size k W3.heap.size ld 2 t mm gn gs gb ls dn → K' a' w') : wpOp Tryz.prog nwOps Q 12 K' a w := by
  have hz := h.size
  obtain ⟨rfl, e30⟩ := h.p1 rfl
  have ne : ∀ j, j ≠ 31 → (a.put (some 31) (.pointer (some ⟨w.heap.size, 0, none⟩))).eval (.tmp j) = a.eval (.tmp j) := fun j hj => Act.eval_put_ne _ _ _ _ (Ne.symm hj)
  have hN : NwB a0 W w (w.alloc (.cells #[.pointer (some ⟨t, 0, none⟩), .pointer (some ⟨W3.heap.size, 0, none⟩), .slice (some ⟨ls, 0, none⟩) 6 6, .slice (some ⟨dn, 0, none⟩) 6 6] 105)) (a.put (some 31) (.pointer (some ⟨w.heap.size, 0, none⟩))) nv w0.heap.size k W3.heap.size ld 2 t mm gn gs gb ls dn := ⟨h.f, h.sm.put (by omega) (by omega), h.sz, (ne _ (by decide)).trans h.e19, (ne _ (by decide)).trans h.e22, (Below.refl _ _).alloc (Nat.le_refl _) _, fun q => (ne _ (by decide)).trans (h.e23 q), fun q => by omega, fun _ => heap_alloc_new w _, fun _ => Act.eval_put_same _ _ _ (by omega), fun q => by omega⟩
  refine wpOp_step (o := { dst := some 31, op := Op.box 105 (Operand.tmp 30), type := 99, pos := "world.go:231", after := #[{ on := 11, ground := Ground.data }], guard := none }) rfl (fun K1 hK1 => ?_)
  have f30 := eval_form e30
  have HK := hid (hK1 _ _ (hK _ _ hN))
  clear hK hK1 h hN hz ne
  go_simp
  exact HK.out
set_option maxRecDepth 100000 in
theorem nwb_lit {K' : Act → World → Prop} (h : NwB a0 W w1 w a nv w0.heap.size k W3.heap.size ld 2 t mm gn gs gb ls dn) (hK : ∀ a' w', NwB a0 W w1 w' a' nv w0.heap.size k W3.heap.size ld 3 t mm gn gs gb ls dn → K' a' w') : wpOp Tryz.prog nwOps Q 13 K' a w := by
  have hz := h.size
  have e31 := h.p3 rfl
  have ne : ∀ j, j ≠ 32 → (a.put (some 32) (.slice (some ⟨w.heap.size, 0, none⟩) 1 1)).eval (.tmp j) = a.eval (.tmp j) := fun j hj => Act.eval_put_ne _ _ _ _ (Ne.symm hj)
  have hb : Below w1.heap.size w1 (w.alloc (.cells #[.pointer (some ⟨w1.heap.size, 0, none⟩)] 99)) := h.bel.alloc h.bel.size _
  have hN : NwB a0 W w1 (w.alloc (.cells #[.pointer (some ⟨w1.heap.size, 0, none⟩)] 99)) (a.put (some 32) (.slice (some ⟨w.heap.size, 0, none⟩) 1 1)) nv w0.heap.size k W3.heap.size ld 3 t mm gn gs gb ls dn := ⟨h.f, h.sm.put (by omega) (by omega), h.sz, (ne _ (by decide)).trans h.e19, (ne _ (by decide)).trans h.e22, hb, fun q => (ne _ (by decide)).trans (h.e23 q), fun q => by omega, fun _ => row_alloc (h.p2 (by omega)), fun q => by omega, fun _ => ⟨_, Act.eval_put_same _ _ _ (by omega), lit_cells w [.pointer (some ⟨w1.heap.size, 0, none⟩)] 99⟩⟩
  refine wpOp_step (o := { dst := some 32, op := Op.buildSlice 69 1 #[(0, Operand.tmp 31)], type := 69, pos := "world.go:231", after := #[{ on := 12, ground := Ground.data }], guard := none }) rfl (fun K1 hK1 => ?_)
  have f31 := eval_form e31
  have HK := hid (hK1 _ _ (hK _ _ hN))
  clear hK hK1 h hN hz ne hb
  go_simp
  exact HK.out
set_option maxHeartbeats 2000000 in
set_option maxRecDepth 100000 in
theorem nwb_end (H : NwH Q a0 w0 wr W W3 C nv K aw cap k zs) (h : NwB a0 W w1 w a nv w0.heap.size k W3.heap.size true 3 t mm gn gs gb ls dn) : wpAny Tryz.prog .any nwOps Q 4 #[true, true, true, true, true, true, true, true, true, true, true, true, true, true, false, false, false, false] a w := by
  have HH := hid H
  have HF := hid (RWN.fin (hid H.rn) H.k7 (hid H.bl) (hid H.rp) (hid H.s3))
  have HFF := hid h.f
  have HZ3 := hid h.size
  have m3 := h.sm
  obtain ⟨b32, e32, hlit⟩ := h.p4 rfl
  have HNd := hid (h.p2 (by omega))
  have g23 := h.e23 rfl
  have g19 := h.e19
  have HB4 := hid h.bel
  have HBW := hid (h.f.bel.trans (h.bel.mono h.f.bel.size))
  clear h H
  have HOW : Hid (w.ownsRow w0.heap.size 99 1 nv k (rptrs K k)) := own_kept HH.out.rn.ns (Kept.of_below (S := fun _ => False) (HH.out.bl.trans (HBW.out.mono HH.out.bl.size))) (fun _ _ e => e)
  have HS4 : Hid (w0.heap.size ≤ w.heap.size) := Nat.le_trans HH.out.rn.bel.size (Nat.le_trans HH.out.bl.size HBW.out.size)
  have hk7 := HH.out.k7
  obtain ⟨i0, hi, hz0, hz1, hz2⟩ := info_parts Tryz.infoPRN

  -- append
  refine wpAny_all (rs := [14]) (by kernel_rfl) (by simp) (fun j hj => ?_)
  obtain rfl : j = 14 := by simpa using hj
  refine wpOp_step (o := { dst := some 33, op := Op.call { callee := Callee.builtin Builtin.append, args := #[Operand.tmp 23, Operand.tmp 32], argTypes := #[69, 69] }, type := 69, pos := "world.go:231", after := #[{ on := 4, ground := Ground.data }, { on := 13, ground := Ground.data }, { on := 7, ground := Ground.chain }], guard := none }) rfl (fun K1 hK1 => ?_)
  refine step_append_lies _ rfl (.tmp 23) (.tmp 32) _ rfl w0.heap.size 99 i0 (.pointer none) 1 8 Tryz.underlying69 hi hz0 hz1 hz2 rfl (by decide) nv k (rptrs K k) g23 HOW.out ⟨b32, 0, none⟩ 1 1 [.pointer (some ⟨w1.heap.size, 0, none⟩)] e32 rfl hlit (by intro u hu; simp at hu; subst hu; rfl) (by decide) (by unfold maxLen; omega) (by omega) HS4.out w.heap.size rfl ?_
  intro g5 c5 w5 hown5 hg5 hat5 hlt5
  refine hK1 _ _ ?_
  clear hK1 K1 hj
  have HQ5 : Hid (∃ C' K', RWN w0 (w5.setCell ⟨w0.heap.size, 1, none⟩ (.slice (some ⟨g5, 0, none⟩) (k + 1) c5)) C' w0.heap.size (.slice (some ⟨g5, 0, none⟩) (k + 1) c5) K' aw cap zs (k + 1)) := by
    have f := HFF.out
    exact HF.out w w1 w5 t mm gn gs gb ls dn w1.heap.size g5 c5 f.bel HB4.out f.rj f.rs f.lo f.ht f.hg f.xLS f.xDS ⟨f.l1, f.l2, f.xLD, row_ltJ f.rl, row_ltJ f.rd, Nat.le_refl _⟩ HNd.out (row_below HB4.out f.rl) (row_below HB4.out f.rd) hown5 hg5 hat5
  have HC5 : Hid (w5.cell? ⟨w0.heap.size, 1, none⟩ = some nv ∧ w5.frozen? ⟨w0.heap.size, 1, none⟩ = false) := by
    have hr4 := (HBW.out.block _ (Nat.lt_of_lt_of_le (row_ltJ HH.out.rn.row) HH.out.bl.size)).trans ((HH.out.bl.block _ (row_ltJ HH.out.rn.row)).trans HH.out.rn.row)
    have hr := (grown_kept hg5).row hr4 (fun e => by have h1 := HH.out.rn.cn _ e; have h2 := HH.out.rn.cx; omega)
    exact ⟨by rw [cell_of_row _ _ _ _ _ _ hr]; rfl, frozen_of_row _ _ _ _ _ hr⟩
  change wpAny _ _ _ _ _ _ (Act.put a (some 33) (.slice (some ⟨g5, 0, none⟩) (k + 1) c5)) _
  obtain ⟨a4, Ha4⟩ : ∃ x, Hid (x = Act.put a (some 33) (.slice (some ⟨g5, 0, none⟩) (k + 1) c5)) := ⟨_, rfl⟩
  rw [← Ha4.out]
  have HZ4 : Hid (a4.tmps.size = 37) := by show a4.tmps.size = 37; rw [Ha4.out, Act.size_put]; exact HZ3.out
  have m4 : Sm a0 a4 := by rw [Ha4.out]; exact m3.put (by omega) (by omega)
  have e33 : a4.eval (.tmp 33) = .slice (some ⟨g5, 0, none⟩) (k + 1) c5 := by rw [Ha4.out]; exact Act.eval_put_same _ _ _ (by have := HZ3.out; omega)
  have g19 : a4.eval (.tmp 19) = .pointer (some ⟨w0.heap.size, 0, none⟩) := by rw [Ha4.out, Act.eval_put_ne _ _ _ _ (by decide)]; exact g19
  clear Ha4 hown5 hg5 hat5 hlt5
  -- nilCheck
  refine wpAny_all (rs := [15]) (by kernel_rfl) (by simp) (fun j hj => ?_)
  obtain rfl : j = 15 := by simpa using hj
  refine wpOp_step (o := { dst := some 34, op := Op.nilCheck (Operand.tmp 19), type := 0, pos := "world.go:231", after := #[{ on := 0, ground := Ground.data }, { on := 0, ground := Ground.phase }, { on := 1, ground := Ground.phase }, { on := 2, ground := Ground.phase }, { on := 3, ground := Ground.phase }, { on := 4, ground := Ground.phase }, { on := 5, ground := Ground.phase }, { on := 6, ground := Ground.phase }, { on := 7, ground := Ground.phase }, { on := 8, ground := Ground.phase }, { on := 9, ground := Ground.phase }, { on := 10, ground := Ground.phase }, { on := 11, ground := Ground.phase }, { on := 12, ground := Ground.phase }, { on := 13, ground := Ground.phase }, { on := 14, ground := Ground.phase }], guard := none }) rfl (fun K1 hK1 => ?_)
  have f19 := eval_form g19
  have HK1 := hid hK1
  clear hK1 hj
  go_simp
  refine HK1.out _ _ ?_
  clear HK1 K1 f19
  change wpAny _ _ _ _ _ _ (Act.put a4 (some 34) (.pointer (some ⟨w0.heap.size, 0, none⟩))) _
  obtain ⟨a5, Ha5⟩ : ∃ x, Hid (x = Act.put a4 (some 34) (.pointer (some ⟨w0.heap.size, 0, none⟩))) := ⟨_, rfl⟩
  rw [← Ha5.out]
  have HZ5 : Hid (a5.tmps.size = 37) := by show a5.tmps.size = 37; rw [Ha5.out, Act.size_put]; exact HZ4.out
  have m5 : Sm a0 a5 := by rw [Ha5.out]; exact m4.put (by omega) (by omega)
  have e34 : a5.eval (.tmp 34) = .pointer (some ⟨w0.heap.size, 0, none⟩) := by rw [Ha5.out]; exact Act.eval_put_same _ _ _ (by have := HZ4.out; omega)
  have g33 : a5.eval (.tmp 33) = .slice (some ⟨g5, 0, none⟩) (k + 1) c5 := by rw [Ha5.out, Act.eval_put_ne _ _ _ _ (by decide)]; exact e33
  clear Ha5
  -- fieldAddr
  refine wpAny_all (rs := [16]) (by kernel_rfl) (by simp) (fun j hj => ?_)
  obtain rfl : j = 16 := by simpa using hj
  refine wpOp_step (o := { dst := some 35, op := Op.fieldAddr 72 (Operand.tmp 34) 1, type := 0, pos := "world.go:231", after := #[{ on := 15, ground := Ground.data }, { on := 0, ground := Ground.phase }, { on := 1, ground := Ground.phase }, { on := 2, ground := Ground.phase }, { on := 3, ground := Ground.phase }, { on := 4, ground := Ground.phase }, { on := 5, ground := Ground.phase }, { on := 6, ground := Ground.phase }, { on := 7, ground := Ground.phase }, { on := 8, ground := Ground.phase }, { on := 9, ground := Ground.phase }, { on := 10, ground := Ground.phase }, { on := 11, ground := Ground.phase }, { on := 12, ground := Ground.phase }, { on := 13, ground := Ground.phase }, { on := 14, ground := Ground.phase }], guard := none }) rfl (fun K1 hK1 => ?_)
  have f34 := eval_form e34
  have HK1 := hid hK1
  clear hK1 hj
  go_simp
  refine HK1.out _ _ ?_
  clear HK1 K1 f34
  change wpAny _ _ _ _ _ _ (Act.put a5 (some 35) (.pointer (some ⟨w0.heap.size, 1, none⟩))) _
  obtain ⟨a6, Ha6⟩ : ∃ x, Hid (x = Act.put a5 (some 35) (.pointer (some ⟨w0.heap.size, 1, none⟩))) := ⟨_, rfl⟩
  rw [← Ha6.out]
  have m6 : Sm a0 a6 := by rw [Ha6.out]; exact m5.put (by omega) (by omega)
  have e35 : a6.eval (.tmp 35) = .pointer (some ⟨w0.heap.size, 1, none⟩) := by rw [Ha6.out]; exact Act.eval_put_same _ _ _ (by have := HZ5.out; omega)
  have g33 : a6.eval (.tmp 33) = .slice (some ⟨g5, 0, none⟩) (k + 1) c5 := by rw [Ha6.out, Act.eval_put_ne _ _ _ _ (by decide)]; exact g33
  clear Ha6
  -- store
  refine wpAny_all (rs := [17]) (by kernel_rfl) (by simp) (fun j hj => ?_)
  obtain rfl : j = 17 := by simpa using hj
  refine wpOp_step (o := { dst := none, op := Op.store 69 (Operand.tmp 35) (Operand.tmp 33), type := 0, pos := "world.go:231", after := #[{ on := 16, ground := Ground.data }, { on := 14, ground := Ground.data }, { on := 14, ground := Ground.chain }, { on := 0, ground := Ground.phase }, { on := 1, ground := Ground.phase }, { on := 2, ground := Ground.phase }, { on := 3, ground := Ground.phase }, { on := 4, ground := Ground.phase }, { on := 5, ground := Ground.phase }, { on := 6, ground := Ground.phase }, { on := 7, ground := Ground.phase }, { on := 8, ground := Ground.phase }, { on := 9, ground := Ground.phase }, { on := 10, ground := Ground.phase }, { on := 11, ground := Ground.phase }, { on := 12, ground := Ground.phase }, { on := 13, ground := Ground.phase }, { on := 14, ground := Ground.phase }], guard := none }) rfl (fun K1 hK1 => ?_)
  have f35 := eval_form e35; have f33 := eval_form g33
  obtain ⟨c5', z5'⟩ := HC5.out
  have HK1 := hid hK1
  clear hK1 hj
  go_simp
  refine HK1.out _ _ ?_
  exact wpAny_done (by kernel_rfl) (HH.out.q _ _ _ _ m6 HQ5.out) _
theorem nwb_30 (H : NwH Q a0 w0 wr W W3 C nv K aw cap k zs) (h : NwB a0 W w1 w a nv w0.heap.size k W3.heap.size false 3 t mm gn gs gb ls dn) : wpAny Tryz.prog .any nwOps Q 5 #[true, true, true, true, false, true, true, true, true, true, true, true, true, true, false, false, false, false] a w := by
  refine wpAny_all (rs := [4]) (by kernel_rfl) (by simp) (fun j hj => ?_)
  have hj' : j = 4 := by simpa using hj
  rcases hj' with rfl
  · exact nwb_load H h (fun a' h' => nwb_end H h')
theorem nwb_21 (H : NwH Q a0 w0 wr W W3 C nv K aw cap k zs) (h : NwB a0 W w1 w a nv w0.heap.size k W3.heap.size true 2 t mm gn gs gb ls dn) : wpAny Tryz.prog .any nwOps Q 5 #[true, true, true, true, true, true, true, true, true, true, true, true, true, false, false, false, false, false] a w := by
  refine wpAny_all (rs := [13]) (by kernel_rfl) (by simp) (fun j hj => ?_)
  have hj' : j = 13 := by simpa using hj
  rcases hj' with rfl
  · exact nwb_lit h (fun a' w' h' => nwb_end H h')
theorem nwb_20 (H : NwH Q a0 w0 wr W W3 C nv K aw cap k zs) (h : NwB a0 W w1 w a nv w0.heap.size k W3.heap.size false 2 t mm gn gs gb ls dn) : wpAny Tryz.prog .any nwOps Q 6 #[true, true, true, true, false, true, true, true, true, true, true, true, true, false, false, false, false, false] a w := by
  refine wpAny_all (rs := [4, 13]) (by kernel_rfl) (by simp) (fun j hj => ?_)
  have hj' : j = 4 ∨ j = 13 := by simpa using hj
  rcases hj' with rfl | rfl
  · exact nwb_load H h (fun a' h' => nwb_21 H h')
  · exact nwb_lit h (fun a' w' h' => nwb_30 H h')
theorem nwb_11 (H : NwH Q a0 w0 wr W W3 C nv K aw cap k zs) (h : NwB a0 W w1 w a nv w0.heap.size k W3.heap.size true 1 t mm gn gs gb ls dn) : wpAny Tryz.prog .any nwOps Q 6 #[true, true, true, true, true, true, true, true, true, true, true, true, false, false, false, false, false, false] a w := by
  refine wpAny_all (rs := [12]) (by kernel_rfl) (by simp) (fun j hj => ?_)
  have hj' : j = 12 := by simpa using hj
  rcases hj' with rfl
  · exact nwb_box h (fun a' w' h' => nwb_21 H h')
theorem nwb_10 (H : NwH Q a0 w0 wr W W3 C nv K aw cap k zs) (h : NwB a0 W w1 w a nv w0.heap.size k W3.heap.size false 1 t mm gn gs gb ls dn) : wpAny Tryz.prog .any nwOps Q 7 #[true, true, true, true, false, true, true, true, true, true, true, true, false, false, false, false, false, false] a w := by
  refine wpAny_all (rs := [4, 12]) (by kernel_rfl) (by simp) (fun j hj => ?_)
  have hj' : j = 4 ∨ j = 12 := by simpa using hj
  rcases hj' with rfl | rfl
  · exact nwb_load H h (fun a' h' => nwb_11 H h')
  · exact nwb_box h (fun a' w' h' => nwb_20 H h')
theorem nw_1111 (H : NwH Q a0 w0 wr W W3 C nv K aw cap k zs) (h : NwI a0 W w a nv w0.heap.size k W3.heap.size true true true true t mm gn gs gb ls dn) : wpAny Tryz.prog .any nwOps Q 7 #[true, true, true, true, true, true, true, true, true, true, true, false, false, false, false, false, false, false] a w := by
  refine wpAny_all (rs := [11]) (by kernel_rfl) (by simp) (fun j hj => ?_)
  have hj' : j = 11 := by simpa using hj
  rcases hj' with rfl
  · exact nwb_build h (fun a' h' => nwb_11 H h')
theorem nw_0111 (H : NwH Q a0 w0 wr W W3 C nv K aw cap k zs) (h : NwI a0 W w a nv w0.heap.size k W3.heap.size false true true true t mm gn gs gb ls dn) : wpAny Tryz.prog .any nwOps Q 8 #[true, true, true, true, false, true, true, true, true, true, true, false, false, false, false, false, false, false] a w := by
  refine wpAny_all (rs := [4, 11]) (by kernel_rfl) (by simp) (fun j hj => ?_)
  have hj' : j = 4 ∨ j = 11 := by simpa using hj
  rcases hj' with rfl | rfl
  · exact nw_load h (H.cell h.bel) (fun a' h' => nw_1111 H h')
  · exact nwb_build h (fun a' h' => nwb_10 H h')
theorem nw_1011 (H : NwH Q a0 w0 wr W W3 C nv K aw cap k zs) (h : NwI a0 W w a nv w0.heap.size k W3.heap.size true false true true t mm gn gs gb ls dn) : wpAny Tryz.prog .any nwOps Q 8 #[true, true, true, true, true, true, true, false, true, true, true, false, false, false, false, false, false, false] a w := by
  refine wpAny_all (rs := [7]) (by kernel_rfl) (by simp) (fun j hj => ?_)
  have hj' : j = 7 := by simpa using hj
  rcases hj' with rfl
  · exact nw_call h H.rp (fun a' w' _ _ _ _ _ h' => nw_1111 H h')
theorem nw_1101 (H : NwH Q a0 w0 wr W W3 C nv K aw cap k zs) (h : NwI a0 W w a nv w0.heap.size k W3.heap.size true true false true t mm gn gs gb ls dn) : wpAny Tryz.prog .any nwOps Q 8 #[true, true, true, true, true, true, true, true, true, false, true, false, false, false, false, false, false, false] a w := by
  refine wpAny_all (rs := [9]) (by kernel_rfl) (by simp) (fun j hj => ?_)
  have hj' : j = 9 := by simpa using hj
  rcases hj' with rfl
  · exact nw_lead h (fun a' w' _ h' => nw_1111 H h')
theorem nw_1110 (H : NwH Q a0 w0 wr W W3 C nv K aw cap k zs) (h : NwI a0 W w a nv w0.heap.size k W3.heap.size true true true false t mm gn gs gb ls dn) : wpAny Tryz.prog .any nwOps Q 8 #[true, true, true, true, true, true, true, true, true, true, false, false, false, false, false, false, false, false] a w := by
  refine wpAny_all (rs := [10]) (by kernel_rfl) (by simp) (fun j hj => ?_)
  have hj' : j = 10 := by simpa using hj
  rcases hj' with rfl
  · exact nw_done h (fun a' w' _ h' => nw_1111 H h')
theorem nw_0011 (H : NwH Q a0 w0 wr W W3 C nv K aw cap k zs) (h : NwI a0 W w a nv w0.heap.size k W3.heap.size false false true true t mm gn gs gb ls dn) : wpAny Tryz.prog .any nwOps Q 9 #[true, true, true, true, false, true, true, false, true, true, true, false, false, false, false, false, false, false] a w := by
  refine wpAny_all (rs := [4, 7]) (by kernel_rfl) (by simp) (fun j hj => ?_)
  have hj' : j = 4 ∨ j = 7 := by simpa using hj
  rcases hj' with rfl | rfl
  · exact nw_load h (H.cell h.bel) (fun a' h' => nw_1011 H h')
  · exact nw_call h H.rp (fun a' w' _ _ _ _ _ h' => nw_0111 H h')
theorem nw_0101 (H : NwH Q a0 w0 wr W W3 C nv K aw cap k zs) (h : NwI a0 W w a nv w0.heap.size k W3.heap.size false true false true t mm gn gs gb ls dn) : wpAny Tryz.prog .any nwOps Q 9 #[true, true, true, true, false, true, true, true, true, false, true, false, false, false, false, false, false, false] a w := by
  refine wpAny_all (rs := [4, 9]) (by kernel_rfl) (by simp) (fun j hj => ?_)
  have hj' : j = 4 ∨ j = 9 := by simpa using hj
  rcases hj' with rfl | rfl
  · exact nw_load h (H.cell h.bel) (fun a' h' => nw_1101 H h')
  · exact nw_lead h (fun a' w' _ h' => nw_0111 H h')
theorem nw_0110 (H : NwH Q a0 w0 wr W W3 C nv K aw cap k zs) (h : NwI a0 W w a nv w0.heap.size k W3.heap.size false true true false t mm gn gs gb ls dn) : wpAny Tryz.prog .any nwOps Q 9 #[true, true, true, true, false, true, true, true, true, true, false, false, false, false, false, false, false, false] a w := by
  refine wpAny_all (rs := [4, 10]) (by kernel_rfl) (by simp) (fun j hj => ?_)
  have hj' : j = 4 ∨ j = 10 := by simpa using hj
  rcases hj' with rfl | rfl
  · exact nw_load h (H.cell h.bel) (fun a' h' => nw_1110 H h')
  · exact nw_done h (fun a' w' _ h' => nw_0111 H h')
theorem nw_1001 (H : NwH Q a0 w0 wr W W3 C nv K aw cap k zs) (h : NwI a0 W w a nv w0.heap.size k W3.heap.size true false false true t mm gn gs gb ls dn) : wpAny Tryz.prog .any nwOps Q 9 #[true, true, true, true, true, true, true, false, true, false, true, false, false, false, false, false, false, false] a w := by
  refine wpAny_all (rs := [7, 9]) (by kernel_rfl) (by simp) (fun j hj => ?_)
  have hj' : j = 7 ∨ j = 9 := by simpa using hj
  rcases hj' with rfl | rfl
  · exact nw_call h H.rp (fun a' w' _ _ _ _ _ h' => nw_1101 H h')
  · exact nw_lead h (fun a' w' _ h' => nw_1011 H h')
theorem nw_1010 (H : NwH Q a0 w0 wr W W3 C nv K aw cap k zs) (h : NwI a0 W w a nv w0.heap.size k W3.heap.size true false true false t mm gn gs gb ls dn) : wpAny Tryz.prog .any nwOps Q 9 #[true, true, true, true, true, true, true, false, true, true, false, false, false, false, false, false, false, false] a w := by
  refine wpAny_all (rs := [7, 10]) (by kernel_rfl) (by simp) (fun j hj => ?_)
  have hj' : j = 7 ∨ j = 10 := by simpa using hj
  rcases hj' with rfl | rfl
  · exact nw_call h H.rp (fun a' w' _ _ _ _ _ h' => nw_1110 H h')
  · exact nw_done h (fun a' w' _ h' => nw_1011 H h')
theorem nw_1100 (H : NwH Q a0 w0 wr W W3 C nv K aw cap k zs) (h : NwI a0 W w a nv w0.heap.size k W3.heap.size true true false false t mm gn gs gb ls dn) : wpAny Tryz.prog .any nwOps Q 9 #[true, true, true, true, true, true, true, true, true, false, false, false, false, false, false, false, false, false] a w := by
  refine wpAny_all (rs := [9, 10]) (by kernel_rfl) (by simp) (fun j hj => ?_)
  have hj' : j = 9 ∨ j = 10 := by simpa using hj
  rcases hj' with rfl | rfl
  · exact nw_lead h (fun a' w' _ h' => nw_1110 H h')
  · exact nw_done h (fun a' w' _ h' => nw_1101 H h')
theorem nw_0001 (H : NwH Q a0 w0 wr W W3 C nv K aw cap k zs) (h : NwI a0 W w a nv w0.heap.size k W3.heap.size false false false true t mm gn gs gb ls dn) : wpAny Tryz.prog .any nwOps Q 10 #[true, true, true, true, false, true, true, false, true, false, true, false, false, false, false, false, false, false] a w := by
  refine wpAny_all (rs := [4, 7, 9]) (by kernel_rfl) (by simp) (fun j hj => ?_)
  have hj' : j = 4 ∨ j = 7 ∨ j = 9 := by simpa using hj
  rcases hj' with rfl | rfl | rfl
  · exact nw_load h (H.cell h.bel) (fun a' h' => nw_1001 H h')
  · exact nw_call h H.rp (fun a' w' _ _ _ _ _ h' => nw_0101 H h')
  · exact nw_lead h (fun a' w' _ h' => nw_0011 H h')
theorem nw_0010 (H : NwH Q a0 w0 wr W W3 C nv K aw cap k zs) (h : NwI a0 W w a nv w0.heap.size k W3.heap.size false false true false t mm gn gs gb ls dn) : wpAny Tryz.prog .any nwOps Q 10 #[true, true, true, true, false, true, true, false, true, true, false, false, false, false, false, false, false, false] a w := by
  refine wpAny_all (rs := [4, 7, 10]) (by kernel_rfl) (by simp) (fun j hj => ?_)
  have hj' : j = 4 ∨ j = 7 ∨ j = 10 := by simpa using hj
  rcases hj' with rfl | rfl | rfl
  · exact nw_load h (H.cell h.bel) (fun a' h' => nw_1010 H h')
  · exact nw_call h H.rp (fun a' w' _ _ _ _ _ h' => nw_0110 H h')
  · exact nw_done h (fun a' w' _ h' => nw_0011 H h')
theorem nw_0100 (H : NwH Q a0 w0 wr W W3 C nv K aw cap k zs) (h : NwI a0 W w a nv w0.heap.size k W3.heap.size false true false false t mm gn gs gb ls dn) : wpAny Tryz.prog .any nwOps Q 10 #[true, true, true, true, false, true, true, true, true, false, false, false, false, false, false, false, false, false] a w := by
  refine wpAny_all (rs := [4, 9, 10]) (by kernel_rfl) (by simp) (fun j hj => ?_)
  have hj' : j = 4 ∨ j = 9 ∨ j = 10 := by simpa using hj
  rcases hj' with rfl | rfl | rfl
  · exact nw_load h (H.cell h.bel) (fun a' h' => nw_1100 H h')
  · exact nw_lead h (fun a' w' _ h' => nw_0110 H h')
  · exact nw_done h (fun a' w' _ h' => nw_0101 H h')
theorem nw_1000 (H : NwH Q a0 w0 wr W W3 C nv K aw cap k zs) (h : NwI a0 W w a nv w0.heap.size k W3.heap.size true false false false t mm gn gs gb ls dn) : wpAny Tryz.prog .any nwOps Q 10 #[true, true, true, true, true, true, true, false, true, false, false, false, false, false, false, false, false, false] a w := by
  refine wpAny_all (rs := [7, 9, 10]) (by kernel_rfl) (by simp) (fun j hj => ?_)
  have hj' : j = 7 ∨ j = 9 ∨ j = 10 := by simpa using hj
  rcases hj' with rfl | rfl | rfl
  · exact nw_call h H.rp (fun a' w' _ _ _ _ _ h' => nw_1100 H h')
  · exact nw_lead h (fun a' w' _ h' => nw_1010 H h')
  · exact nw_done h (fun a' w' _ h' => nw_1001 H h')
theorem nw_0000 (H : NwH Q a0 w0 wr W W3 C nv K aw cap k zs) (h : NwI a0 W w a nv w0.heap.size k W3.heap.size false false false false t mm gn gs gb ls dn) : wpAny Tryz.prog .any nwOps Q 11 #[true, true, true, true, false, true, true, false, true, false, false, false, false, false, false, false, false, false] a w := by
  refine wpAny_all (rs := [4, 7, 9, 10]) (by kernel_rfl) (by simp) (fun j hj => ?_)
  have hj' : j = 4 ∨ j = 7 ∨ j = 9 ∨ j = 10 := by simpa using hj
  rcases hj' with rfl | rfl | rfl | rfl
  · exact nw_load h (H.cell h.bel) (fun a' h' => nw_1000 H h')
  · exact nw_call h H.rp (fun a' w' _ _ _ _ _ h' => nw_0100 H h')
  · exact nw_lead h (fun a' w' _ h' => nw_0010 H h')
  · exact nw_done h (fun a' w' _ h' => nw_0001 H h')
end
end Go.Proofs.YtbaamegnmeohoacGreatDoor
