/-
  On the way to WStepsProof: XB XC XD XE XN XO.
-/
import Derived.Test.YtbaamegnmeohoacGreatDoorBs28
import Derived.Test.YtbaamegnmeohoacGreatDoorBs17
import Derived.Test.YtbaamegnmeohoacGreatDoorBs26
import Derived.Test.YtbaamegnmeohoacGreatDoorBs20
import Derived.Test.YtbaamegnmeohoacGreatDoorBs16
namespace Go.Proofs.YtbaamegnmeohoacGreatDoor
open Go.RowKit
def twoL (x : Nat × Nat) : List Value := [.int .i64 (x.1 : Int), .int .i64 (x.2 : Int)]
def twoCells (L : List (Nat × Nat)) : List Value := L.flatMap twoL
structure YB where
  xb : Nat
  nb : Nat
  nc : Nat
  bv : Value
  fv : Value
  ev : Value
  K : Nat → RB
def rwC (Y : YB) (aw : Option Addr) (n cap : Nat) : List Value := [.slice aw n cap, .slice (some ⟨Y.nb, 0, none⟩) n Y.nc, Y.bv, Y.fv, Y.ev]
def BrkI (V : PX) (L : List (Nat × Nat)) : Prop := (∀ a b, a < 7 → b < 7 → a ≠ b → (brX V a b = true ↔ (a, b) ∈ L ∨ (b, a) ∈ L)) ∧ ∀ x, x ∈ L → x.1 ≠ x.2
structure RW (w0 w : World) (C : Nat → Nat) (Y : YB) (aw : Option Addr) (cap : Nat) (zs : List Int) (V : PX) (m : Nat) : Prop where
  bel : Below w0.heap.size w0 w
  row : w.heap[Y.xb]? = some (.cells (rwC Y aw zs.length cap).toArray 72 (0, 0))
  ws : IsSl w0 (.slice aw zs.length cap) zs
  ns : ∀ i, i < zs.length → w.cell? ⟨Y.nb, i, none⟩ = some (.pointer (some ⟨(Y.K i).nd, 0, none⟩))
  nds : ∀ i, i < zs.length → RN w C (Y.K i) i zs.length cap aw (V.nd i)
  brk : ∃ L, w.ownsRow w0.heap.size 199 2 Y.bv L.length (twoCells L) ∧ BrkI V L ∧ L.length ≤ m
  fly : w.ownsRow w0.heap.size 130 9 Y.fv V.fly.length (frCells V.fly)
  evs : w.ownsRow w0.heap.size 132 3 Y.ev V.evs.length (evCells V.evs)
  cx : C Y.xb = 1001
  cn : C Y.nb = 1003
  cb : ∀ g, Y.bv.ownBlock = some g → C g = 1004
  cf : ∀ g, Y.fv.ownBlock = some g → C g = 1005
  ce : ∀ g, Y.ev.ownBlock = some g → C g = 1006
  lt : ∀ x, C x < 2000 → x < w.heap.size
  low : ∀ x, C x < 2000 → w0.heap.size ≤ x
  inv : XI zs V m
section
variable {w0 w w' : World} {C C' : Nat → Nat} {Y : YB} {aw : Option Addr} {cap m : Nat} {zs : List Int} {V V' : PX}
theorem RW.n7 (h : RW w0 w C Y aw cap zs V m) : 1 ≤ zs.length ∧ zs.length ≤ 7 := ⟨(errW_zero h.inv.he).1, (errW_zero h.inv.he).2.1⟩
theorem RW.later (h : RW w0 w C Y aw cap zs V m) (hb : Below w.heap.size w w') : RW w0 w' C Y aw cap zs V m := by
  have k : Kept (fun _ => False) w w' := Kept.of_below hb
  obtain ⟨L, b1, b2, b3⟩ := h.brk
  exact ⟨h.bel.trans (hb.mono h.bel.size), k.row h.row (fun x => x), h.ws, fun i hi => cell_kept (h.ns i hi) k (fun x => x), fun i hi => (h.nds i hi).later hb, ⟨L, own_kept b1 k (fun _ _ x => x), b2, b3⟩, own_kept h.fly k (fun _ _ x => x), own_kept h.evs k (fun _ _ x => x), h.cx, h.cn, h.cb, h.cf, h.ce, fun x hx => Nat.lt_of_lt_of_le (h.lt x hx) hb.size, h.low, h.inv⟩
theorem RW.drew (h : RW w0 w C Y aw cap zs V m) : RW w0 w.drew C Y aw cap zs V m := h.later (Below.refl _ _).drew
theorem RW.cell (h : RW w0 w C Y aw cap zs V m) (j : Nat) : w.cell? ⟨Y.xb, j, none⟩ = (rwC Y aw zs.length cap)[j]? := by
  rw [cell_of_row w Y.xb j _ _ _ h.row, List.getElem?_toArray]
theorem RW.cells (h : RW w0 w C Y aw cap zs V m) : w.cell? ⟨Y.xb, 0, none⟩ = some (.slice aw zs.length cap) ∧ w.cell? ⟨Y.xb, 1, none⟩ = some (.slice (some ⟨Y.nb, 0, none⟩) zs.length Y.nc) ∧ w.cell? ⟨Y.xb, 2, none⟩ = some Y.bv ∧ w.cell? ⟨Y.xb, 3, none⟩ = some Y.fv ∧ w.cell? ⟨Y.xb, 4, none⟩ = some Y.ev :=
  ⟨h.cell 0, h.cell 1, h.cell 2, h.cell 3, h.cell 4⟩
theorem RW.fz (h : RW w0 w C Y aw cap zs V m) (j : Nat) : w.frozen? ⟨Y.xb, j, none⟩ = false := frozen_of_row w Y.xb j _ _ h.row
theorem RW.far {S : Nat → Prop} (h : RW w0 w C Y aw cap zs V m) (k : Kept S w w') (hS : ∀ x, S x → 2000 ≤ C x) (hb : ∀ x, S x → w0.heap.size ≤ x) : RW w0 w' C Y aw cap zs V m := by
  obtain ⟨L, b1, b2, b3⟩ := h.brk
  have n7 := h.n7
  have e1 := h.cx; have e3 := h.cn
  have no : ∀ x, C x < 2000 → ¬ S x := fun x hx hs => by have := hS x hs; omega
  exact ⟨k.below h.bel.size hb h.bel, k.row h.row (no _ (by omega)), h.ws, fun i hi => cell_kept (h.ns i hi) k (no _ (by show C Y.nb < 2000; omega)), fun i hi => (h.nds i hi).kept k (fun x hx => no x (by omega)), ⟨L, own_kept b1 k (fun g hg => no g (by have := h.cb g hg; omega)), b2, b3⟩, own_kept h.fly k (fun g hg => no g (by have := h.cf g hg; omega)), own_kept h.evs k (fun g hg => no g (by have := h.ce g hg; omega)), h.cx, h.cn, h.cb, h.cf, h.ce, fun x hx => Nat.lt_of_lt_of_le (h.lt x hx) k.size, h.low, h.inv⟩
theorem RW.node {S : Nat → Prop} {i m' : Nat} {N : PN} {K : RB} (h : RW w0 w C Y aw cap zs V m) (k : Kept S w w') (hi : i < zs.length) (hS : ∀ x, S x → C x / 100 = i) (hC : ∀ x, x < w.heap.size → C' x = C x) (hl : ∀ x, w.heap.size ≤ x → C' x < 2000 → x < w'.heap.size) (hN : RN w' C' K i zs.length cap aw N) (hK : K.nd = (Y.K i).nd) (hm : m ≤ m') (hI : XI zs (setNd V i N) m') :
    RW w0 w' C' { Y with K := fun e => if e = i then K else Y.K e } aw cap zs (setNd V i N) m' := by
  have n7 := h.n7.2
  have hs0 := h.bel.size
  have hlow : ∀ x, S x → w0.heap.size ≤ x := fun x hx => h.low x (by have := hS x hx; omega)
  have nS : ∀ x, C x / 100 ≠ i → ¬ S x := fun x hx hs => hx (hS x hs)
  obtain ⟨L, b1, b2, b3⟩ := h.brk
  have cx := h.cx; have cn := h.cn
  have o : ∀ {x c : Nat}, C x = c → c < 2000 → C' x = c := fun {x c} e hc => (hC x (h.lt x (by omega))).trans e
  refine ⟨k.below h.bel.size hlow h.bel, k.row h.row (nS Y.xb (by omega)), h.ws, fun e he => ?_, fun e he => ?_, ⟨L, own_kept b1 k (fun g hg => nS g (by have := h.cb g hg; omega)), b2, by omega⟩, own_kept h.fly k (fun g hg => nS g (by have := h.cf g hg; omega)), own_kept h.evs k (fun g hg => nS g (by have := h.ce g hg; omega)), o h.cx (by omega), o h.cn (by omega), fun g hg => o (h.cb g hg) (by omega), fun g hg => o (h.cf g hg) (by omega), fun g hg => o (h.ce g hg) (by omega), fun x hx => ?_, fun x hx => ?_, hI⟩
  · have := cell_kept (h.ns e he) k (nS _ (by show C Y.nb / 100 ≠ i; omega))
    rw [this]
    by_cases g : e = i
    · subst g; simp [hK]
    · simp [g]
  · by_cases g : e = i
    · subst g
      simpa [setNd] using hN
    · have hcol := (h.nds e he).col (C' := C') hC
      have := hcol.kept (S := fun x => S x ∧ x < w.heap.size) (w' := w') ⟨k.os, k.tape, k.output, k.size, fun y hy hn => k.block y hy (fun hs => hn ⟨hs, hy⟩)⟩ (fun x hx hs => nS x (by rw [← hC x hs.2]; omega) hs.1)
      simpa [setNd, g] using this
  · rcases Nat.lt_or_ge x w.heap.size with q | q
    · exact Nat.lt_of_lt_of_le q k.size
    · exact hl x q hx
  · rcases Nat.lt_or_ge x w.heap.size with q | q
    · exact h.low x (by rw [← hC x q]; exact hx)
    · omega
theorem RW.own {bv fv ev : Value} {Bk : List (Nat × Nat)} {F : List F9} {E : List E3} {m' : Nat} {br : Nat → Nat → Bool} {S : Nat → Prop} (h : RW w0 w C Y aw cap zs V m) (k : Kept S w w') (hS : ∀ x, S x → C x = 1001 ∨ C x = 1004 ∨ C x = 1005 ∨ C x = 1006) (hC : ∀ x, x < w.heap.size → C' x = C x) (hl : ∀ x, w.heap.size ≤ x → C' x < 2000 → x < w'.heap.size) (hr : w'.heap[Y.xb]? = some (.cells (rwC { Y with bv := bv, fv := fv, ev := ev } aw zs.length cap).toArray 72 (0, 0)))
    (hb : w'.ownsRow w0.heap.size 199 2 bv Bk.length (twoCells Bk)) (hbi : BrkI { V with br := br } Bk) (hbl : Bk.length ≤ m') (hf : w'.ownsRow w0.heap.size 130 9 fv F.length (frCells F)) (he : w'.ownsRow w0.heap.size 132 3 ev E.length (evCells E)) (cb : ∀ g, bv.ownBlock = some g → C' g = 1004) (cf : ∀ g, fv.ownBlock = some g → C' g = 1005) (ce : ∀ g, ev.ownBlock = some g → C' g = 1006) (hI : XI zs { V with br := br, fly := F, evs := E } m') :
    RW w0 w' C' { Y with bv := bv, fv := fv, ev := ev } aw cap zs { V with br := br, fly := F, evs := E } m' := by
  have n7 := h.n7.2
  have hs0 := h.bel.size
  have hlow : ∀ x, S x → w0.heap.size ≤ x := fun x hx => h.low x (by rcases hS x hx with g | g | g | g <;> omega)
  have nS : ∀ x, C x ≠ 1001 → C x ≠ 1004 → C x ≠ 1005 → C x ≠ 1006 → ¬ S x := fun x h1 h2 h3 h4 hs => by rcases hS x hs with g | g | g | g <;> omega
  have cx := h.cx; have cn := h.cn
  have o : ∀ {x c : Nat}, C x = c → c < 2000 → C' x = c := fun {x c} e hc => (hC x (h.lt x (by omega))).trans e
  have nb : C (⟨Y.nb, 0, none⟩ : Addr).block = 1003 := cn
  refine ⟨k.below h.bel.size hlow h.bel, hr, h.ws, fun e he => cell_kept (h.ns e he) k (nS _ (by show C Y.nb ≠ _; omega) (by show C Y.nb ≠ _; omega) (by show C Y.nb ≠ _; omega) (by show C Y.nb ≠ _; omega)), fun e he => ?_, ⟨Bk, hb, hbi, hbl⟩, hf, he, o h.cx (by omega), o h.cn (by omega), cb, cf, ce, fun x hx => ?_, fun x hx => ?_, hI⟩
  · have hcol := (h.nds e he).col (C' := C') hC
    exact hcol.kept (S := fun x => S x ∧ x < w.heap.size) (w' := w') ⟨k.os, k.tape, k.output, k.size, fun y hy hn => k.block y hy (fun hs => hn ⟨hs, hy⟩)⟩ (fun x hx hs => nS x (by rw [← hC x hs.2]; omega) (by rw [← hC x hs.2]; omega) (by rw [← hC x hs.2]; omega) (by rw [← hC x hs.2]; omega) hs.1)
  · rcases Nat.lt_or_ge x w.heap.size with q | q
    · exact Nat.lt_of_lt_of_le q k.size
    · exact hl x q hx
  · rcases Nat.lt_or_ge x w.heap.size with q | q
    · exact h.low x (by rw [← hC x q]; exact hx)
    · omega
end
section
variable {w0 w w' : World} {C C' : Nat → Nat} {K : RB} {Y : YB} {aw : Option Addr} {i n cap m : Nat} {zs : List Int} {N : PN} {V V' : PX}
theorem RN.cell (h : RN w C K i n cap aw N) (j : Nat) : w.cell? ⟨K.nd, j, none⟩ = (rndC K N)[j]? := by
  rw [cell_of_row w K.nd j _ _ _ h.row, List.getElem?_toArray]
theorem RN.cells (h : RN w C K i n cap aw N) : w.cell? ⟨K.nd, 0, none⟩ = some (rsV K N) ∧ w.cell? ⟨K.nd, 1, none⟩ = some (.pointer (some ⟨K.r, 0, none⟩)) ∧ w.cell? ⟨K.nd, 2, none⟩ = some (.slice (some ⟨K.ls, 0, none⟩) 6 6) ∧ w.cell? ⟨K.nd, 3, none⟩ = some (.slice (some ⟨K.dn, 0, none⟩) 6 6) :=
  ⟨h.cell 0, h.cell 1, h.cell 2, h.cell 3⟩
theorem RN.lead (h : RN w C K i n cap aw N) {d : Nat} (hd : d < 6) : w.cell? ⟨K.ls, d, none⟩ = some (rldV K N d) := by
  rw [cell_of_row _ _ _ _ _ _ h.lrow]
  rcases six hd with rfl | rfl | rfl | rfl | rfl | rfl <;> rfl
theorem RN.bytes (h : RN w C K i n cap aw N) : w.cell? ⟨K.r, 0, none⟩ = some (.string N.B) := by
  obtain ⟨off, l', cuts, p1, -⟩ := h.pl
  exact p1.c0
set_option maxRecDepth 100000 in
theorem rup_is (s : Int) (c : Nat) (h : RW w0 w C Y aw cap zs V m) (hc : cUp zs.length V s = c) :
    Calls Tryz.prog 92 #[.pointer (some ⟨Y.xb, 0, none⟩), .int .i64 s] w fun e w' => e = .returned (.int .i64 (c : Int)) ∧ w' = w := by
  obtain ⟨-, c1, -, -, -⟩ := h.cells
  have n7 := h.n7.2
  by_cases hs : 0 ≤ s ∧ s < zs.length
  · obtain ⟨k, rfl⟩ := Int.eq_ofNat_of_zero_le hs.1
    have hk : k < zs.length := by omega
    have cn := h.ns k hk
    obtain ⟨d0, -, -, -⟩ := (h.nds k hk).cells
    have hcu : cUp zs.length V k = if upN (V.nd k) = true then 0 else 6 := by unfold cUp; rw [if_pos hs, Int.toNat_natCast]
    rw [hcu] at hc
    unfold rsV at d0
    obtain ⟨n, HN⟩ : ∃ n, zs.length = n := ⟨_, rfl⟩
    rw [HN] at c1 hk n7
    have hk2 : ¬ (n : Int) ≤ (k : Int) := by omega
    cases hu : upN (V.nd k) with
    | true =>
      rw [hu, if_pos rfl] at hc d0
      subst hc
      clear h hs hcu hu HN
      go_enter Tryz.func92, Tryz.ntmps92
      go_wp2_with fail
      go_ret
      exact ⟨rfl, rfl⟩
    | false =>
      rw [hu, if_neg (by decide)] at hc d0
      subst hc
      clear h hs hcu hu HN
      go_enter Tryz.func92, Tryz.ntmps92
      go_wp2_with fail
      go_ret
      exact ⟨rfl, rfl⟩
  · have hcu : cUp zs.length V s = 2 := by unfold cUp; rw [if_neg hs]
    rw [hcu] at hc
    subst hc
    obtain ⟨n, HN⟩ : ∃ n, zs.length = n := ⟨_, rfl⟩
    rw [HN] at c1 hs
    by_cases h0 : s < 0
    · clear h hcu HN
      go_enter Tryz.func92, Tryz.ntmps92
      go_wp2_with fail
      go_ret
      exact ⟨rfl, rfl⟩
    · have h1 : (n : Int) ≤ s := by omega
      clear h hcu HN
      go_enter Tryz.func92, Tryz.ntmps92
      go_wp2_with fail
      go_ret
      exact ⟨rfl, rfl⟩
set_option maxRecDepth 100000 in
theorem rleadOf_is (s d : Nat) (h : RW w0 w C Y aw cap zs V m) (hs : s < zs.length) (hd : d < 6) :
    Calls Tryz.prog 64 #[.pointer (some ⟨Y.xb, 0, none⟩), .int .i64 (s : Int), .int .i64 (d : Int)] w fun e w' => (∃ b, e = .returned (.string b) ∧ b = (match (V.nd s).ld d with | none => ⟨#[110, 111, 110, 101]⟩ | some x => stB x.2.stt)) ∧ w' = w := by
  obtain ⟨-, c1, -, -, -⟩ := h.cells
  have cn := h.ns s hs
  obtain ⟨-, -, d2, -⟩ := (h.nds s hs).cells
  have hl := (h.nds s hs).lead hd
  obtain ⟨n, HN⟩ : ∃ n, zs.length = n := ⟨_, rfl⟩
  rw [HN] at c1
  have hs2 : s < n := by omega
  cases hx : (V.nd s).ld d with
  | none =>
    rw [rldV_none hx] at hl
    clear h hx HN hs
    go_enter Tryz.func64, Tryz.ntmps64
    go_wp2_with fail
    go_ret
    exact ⟨⟨_, rfl, rfl⟩, rfl⟩
  | some x =>
    rw [rldV_some hx] at hl
    obtain ⟨L, r1, r2⟩ := (h.nds s hs).lds d hd x hx
    obtain ⟨-, -, -, -, e4, -, -, -, -⟩ := r2.cells
    rw [← r1.stt] at e4
    clear h hx HN hs r1 r2
    go_enter Tryz.func64, Tryz.ntmps64
    go_wp2_with fail
    go_ret
    exact ⟨⟨_, rfl, rfl⟩, rfl⟩
end
def rkey (Y : YB) : Nat × (Nat → Nat) := (Y.xb, fun e => (Y.K e).nd)
def ROut (w0 w w' : World) (C : Nat → Nat) (Y : YB) (aw : Option Addr) (cap : Nat) (zs : List Int) (V' : PX) (m' : Nat) : Prop :=
  ∃ C' Y', RW w0 w' C' Y' aw cap zs V' m' ∧ rkey Y' = rkey Y ∧ Kept (OwnX C) w w' ∧ ∀ x, x < w.heap.size → C' x = C x
section
variable {w0 w w' : World} {C C' : Nat → Nat} {Y : YB} {aw : Option Addr} {cap m m' : Nat} {zs : List Int} {V V' : PX}
theorem rkey_xb {Y Y' : YB} (h : rkey Y' = rkey Y) : Y'.xb = Y.xb := congrArg Prod.fst h
theorem RW.mono (h : RW w0 w C Y aw cap zs V m) (hm : m ≤ m') : RW w0 w C Y aw cap zs V m' := by
  obtain ⟨L, b1, b2, b3⟩ := h.brk
  exact ⟨h.bel, h.row, h.ws, h.ns, h.nds, ⟨L, b1, b2, by omega⟩, h.fly, h.evs, h.cx, h.cn, h.cb, h.cf, h.ce, h.lt, h.low, h.inv.mono hm⟩
theorem RW.out (h : RW w0 w C Y aw cap zs V m) (hb : Below w.heap.size w w') (hm : m ≤ m') : ROut w0 w w' C Y aw cap zs V m' :=
  ⟨C, Y, (h.later hb).mono hm, rfl, Kept.of_below hb, fun _ _ => rfl⟩
theorem ROut.step {w1 w2 : World} {C1 : Nat → Nat} {Y1 : YB} (hx : rkey Y1 = rkey Y) (hk : Kept (OwnX C) w w1) (hc : ∀ x, x < w.heap.size → C1 x = C x) (h2 : ROut w0 w1 w2 C1 Y1 aw cap zs V' m') : ROut w0 w w2 C Y aw cap zs V' m' := by
  obtain ⟨C', Y', g1, g2, g3, g4⟩ := h2
  refine ⟨C', Y', g1, g2.trans hx, ?_, fun x hx => (g4 x (Nat.lt_of_lt_of_le hx hk.size)).trans (hc x hx)⟩
  refine ⟨g3.os.trans hk.os, g3.tape.trans hk.tape, g3.output.trans hk.output, Nat.le_trans hk.size g3.size, fun y hy hn => ?_⟩
  refine (g3.block y (Nat.lt_of_lt_of_le hy hk.size) (fun e => hn ?_)).trans (hk.block y hy hn)
  show C y < 2000
  rw [← hc y hy]
  exact e
theorem RW.framed {F : List F9} {v' : Value} {S : Nat → Prop} (h : RW w0 w C Y aw cap zs V m) (hk : Kept S w w') (hS : ∀ x, S x → Y.fv.ownBlock = some x) (hown : w'.ownsRow w0.heap.size 130 9 v' F.length (frCells F)) (ho : v'.ownBlock = none ∨ v'.ownBlock = Y.fv.ownBlock ∨ ∃ g, v'.ownBlock = some g ∧ w.heap.size ≤ g) (hm : m ≤ m') (hI : XI zs { V with fly := F } m') :
    ROut w0 w (w'.setCell ⟨Y.xb, 3, none⟩ v') C Y aw cap zs { V with fly := F } m' := by
  have hx := row_ltJ h.row
  have hcx := h.cx
  have hSc : ∀ x, S x → C x = 1005 := fun x hx => h.cf x (hS x hx)
  have hrow : w'.heap[Y.xb]? = some (.cells (rwC Y aw zs.length cap).toArray 72 (0, 0)) := hk.row h.row (fun e => by have := hSc _ e; omega)
  have hK2 : Kept (fun x => x = Y.xb ∨ S x) w (w'.setCell ⟨Y.xb, 3, none⟩ v') := (hk.mono (fun x hx => .inr hx)).setCell (.inl rfl) v'
  have hS2 : ∀ x, (x = Y.xb ∨ S x) → C x = 1001 ∨ C x = 1004 ∨ C x = 1005 ∨ C x = 1006 := fun x hx => by
    rcases hx with rfl | hx
    · exact .inl h.cx
    · exact .inr (.inr (.inl (hSc x hx)))
  have hkk : Kept (OwnX C) w (w'.setCell ⟨Y.xb, 3, none⟩ v') := hK2.mono (fun x hx => by show C x < 2000; rcases hS2 x hx with g | g | g | g <;> omega)
  have hr2 : (w'.setCell ⟨Y.xb, 3, none⟩ v').heap[Y.xb]? = some (.cells (rwC { Y with bv := Y.bv, fv := v', ev := Y.ev } aw zs.length cap).toArray 72 (0, 0)) := by
    rw [heap_setCell_same w' Y.xb 3 _ _ _ hrow]; rfl
  have hne : ∀ g, v'.ownBlock = some g → g ≠ Y.xb := fun g hg e => by
    rcases ho with o | o | ⟨g', o, hge⟩
    · rw [o] at hg; cases hg
    · rw [o] at hg; have := h.cf g hg; rw [e] at this; omega
    · rw [o] at hg; have := Option.some.inj hg; omega
  have hf : (w'.setCell ⟨Y.xb, 3, none⟩ v').ownsRow w0.heap.size 130 9 v' F.length (frCells F) := own_kept hown ((Kept.refl (In1 Y.xb) w').set1 3 v') (fun g hg e => hne g hg e)
  obtain ⟨L, b1, b2, b3⟩ := h.brk
  have hb : (w'.setCell ⟨Y.xb, 3, none⟩ v').ownsRow w0.heap.size 199 2 Y.bv L.length (twoCells L) := own_kept b1 hK2 (fun g hg e => by
    have h6 := h.cb g hg
    rcases e with rfl | e
    · omega
    · have := hSc g e; omega)
  have he : (w'.setCell ⟨Y.xb, 3, none⟩ v').ownsRow w0.heap.size 132 3 Y.ev V.evs.length (evCells V.evs) := own_kept h.evs hK2 (fun g hg e => by
    have h6 := h.ce g hg
    rcases e with rfl | e
    · omega
    · have := hSc g e; omega)
  obtain ⟨C1, hC1, hl1, hcg1⟩ : ∃ C1 : Nat → Nat, (∀ x, x < w.heap.size → C1 x = C x) ∧ (∀ x, w.heap.size ≤ x → C1 x < 2000 → x < (w'.setCell ⟨Y.xb, 3, none⟩ v').heap.size) ∧ ∀ g, v'.ownBlock = some g → C1 g = 1005 := by
    rcases ho with o | o | ⟨g', o, hge⟩
    · exact ⟨C, fun _ _ => rfl, fun x hx hc => by have := h.lt x hc; omega, fun g hg => by rw [o] at hg; cases hg⟩
    · exact ⟨C, fun _ _ => rfl, fun x hx hc => by have := h.lt x hc; omega, fun g hg => h.cf g (by rw [← o]; exact hg)⟩
    · refine ⟨paint C g' 1005, fun x hx => paint_ne (by omega), fun x hx hc => ?_, fun g hg => ?_⟩
      · by_cases e : x = g'
        · rw [e]; have := (hown.lt g' o).2; simpa using this
        · rw [paint_ne e] at hc
          have := h.lt x hc; omega
      · rw [o] at hg
        obtain rfl := Option.some.inj hg
        exact paint_at _ _ _
  refine ⟨C1, { Y with bv := Y.bv, fv := v', ev := Y.ev }, ?_, rfl, hkk, hC1⟩
  exact h.own (br := V.br) (F := F) (E := V.evs) (Bk := L) hK2 hS2 hC1 hl1 hr2 hb b2 (by omega) hf he (fun g hg => by rw [hC1 g (b1.lt g hg).2]; exact h.cb g hg) hcg1 (fun g hg => by rw [hC1 g (h.evs.lt g hg).2]; exact h.ce g hg) hI
set_option maxRecDepth 100000 in
theorem rsend_any (v : Value) (L : List F9) (h : RW w0 w C Y aw cap zs V m) (hv : IsFr w v L) (hL : ∀ f, f ∈ L → FI zs.length f) (hl : L.length ≤ 1000) (hm : m ≤ 100000000) :
    Calls Tryz.prog 94 #[.pointer (some ⟨Y.xb, 0, none⟩), v] w fun e w' => e = .returned (.tuple #[]) ∧ ROut w0 w w' C Y aw cap zs (sendX V L) (m + 1) := by
  obtain ⟨-, -, -, c3, -⟩ := h.cells
  have z3 := h.fz 3
  have H := hid h
  have HV := hid hv
  have HL := hid hL
  have hfl : V.fly.length + L.length ≤ 1000000000000 := by have := h.inv.fl; omega
  have HO := hid h.fly
  have hbs := h.bel.size
  have HX : Hid (∀ w', w.grownBy w' Y.fv.ownBlock → w'.cell? ⟨Y.xb, 3, none⟩ = some Y.fv ∧ w'.frozen? ⟨Y.xb, 3, none⟩ = false) := by
    intro w' hg
    have hr := (grown_kept hg).row h.row (fun e => by have h1 := h.cf _ e; have h2 := h.cx; omega)
    exact ⟨by rw [cell_of_row _ _ _ _ _ _ hr]; rfl, frozen_of_row _ _ _ _ _ hr⟩
  generalize hfv : Y.fv = fv at c3 HO
  have HFV := hid hfv
  clear h hv hL hfv
  go_enter Tryz.func94, Tryz.ntmps94
  go_wp2_with (at_builtin; refine wpList_append_frs rfl _ _ rfl w0.heap.size V.fly.length _ v (frCells V.fly) L rfl rfl HO.out HV.out hfl hbs ?_; intro ad' cap' w' hown hg ho; obtain ⟨c3', z3'⟩ := HX.out w' (by rw [HFV.out]; exact hg); have HS := hid (And.intro hown (And.intro hg ho)); clear hown hg ho)
  go_end0
  rw [← HFV.out] at HS
  refine ⟨rfl, ?_⟩
  refine H.out.framed (F := V.fly ++ L) (grown_kept HS.out.2.1) (fun x hx => hx) (by rw [List.length_append, frCells_append]; exact HS.out.1) ?_ (Nat.le_succ _) (H.out.inv.send HL.out hl)
  rcases HS.out.2.2 with o | o
  · exact .inr (.inl o)
  · exact .inr (.inr ⟨_, o, Nat.le_refl _⟩)
end
section
variable {w0 w w' : World} {C C' : Nat → Nat} {Y : YB} {aw : Option Addr} {cap m m' : Nat} {zs : List Int} {V V' : PX}
set_option maxRecDepth 100000 in
theorem rstate_is (s d h1 h2 h3 : Nat) (h : RW w0 w C Y aw cap zs V m) (hs : s < zs.length) (hd : d < 6) (hst : stN (V.nd s) d = ⟨h1, h2, h3⟩) :
    Calls Tryz.prog 63 #[.pointer (some ⟨Y.xb, 0, none⟩), .int .i64 (s : Int), .int .i64 (d : Int)] w fun e w' => e = .returned (agS h1 h2 h3) ∧ Below w.heap.size w w' := by
  obtain ⟨W, HW⟩ : ∃ W, Hid (w.alloc (.cells #[.int .i64 0, .int .i64 0, .int .i64 0] 113) = W) := ⟨_, rfl⟩
  have HZ : Hid (Z3 w W w.heap.size) := by rw [← HW.out]; exact z3 w
  have hL := h.later HZ.out.b
  obtain ⟨-, c1, -, -, -⟩ := hL.cells
  have cn := hL.ns s hs
  obtain ⟨-, d1, -, -⟩ := (hL.nds s hs).cells
  have cB := (hL.nds s hs).bytes
  have hsz := (h.inv.nd s hs).sz
  obtain ⟨nn, hnn⟩ : ∃ nn, (dlN (V.nd s) d).1 = nn := ⟨_, rfl⟩
  have hdl : dealL (V.nd s).B.data.toList d = (nn, ⟨h1, h2, h3⟩) := Prod.ext hnn hst
  have HDl := hid (fun w => rdeal_any (V.nd s).B d nn h1 h2 h3 w (by omega) (by omega) hdl)
  obtain ⟨n, HN⟩ : ∃ n, zs.length = n := ⟨_, rfl⟩
  rw [HN] at c1
  have hs2 : s < n := by omega
  have hW := HW.out
  unfold agS
  clear h hL hs hst hnn hdl HN
  go_enter Tryz.func63, Tryz.ntmps63
  go_wp2_with fail
  refine (HDl.out _).mono ?_
  rintro e w1 ⟨rfl, hb1⟩
  have HZ1 := hid (HZ.out.later hb1)
  obtain ⟨W2, HW2⟩ : ∃ W2, Hid (w1.alloc (.cells #[.int .i64 (h1 : Int), .int .i64 (h2 : Int), .int .i64 (h3 : Int)] 113) = W2) := ⟨_, rfl⟩
  have HB2 : Hid (Below w1.heap.size w1 W2) := by rw [← HW2.out]; exact (Below.refl _ _).alloc (Nat.le_refl _) _
  have HN2 : Hid (W2.heap[w1.heap.size]? = some (.cells #[.int .i64 (h1 : Int), .int .i64 (h2 : Int), .int .i64 (h3 : Int)] 113 (0, 0))) := by rw [← HW2.out]; exact heap_alloc_new w1 _
  have HZ2 := hid (HZ1.out.later HB2.out)
  obtain ⟨q0, q1, q2, z0, z1, z2⟩ := HZ2.out.cells
  have e0 : W2.cell? ⟨w1.heap.size, 0, none⟩ = some (.int .i64 (h1 : Int)) := (cell_of_row _ _ 0 _ _ _ HN2.out)
  have e1 : W2.cell? ⟨w1.heap.size, 1, none⟩ = some (.int .i64 (h2 : Int)) := (cell_of_row _ _ 1 _ _ _ HN2.out)
  have e2 : W2.cell? ⟨w1.heap.size, 2, none⟩ = some (.int .i64 (h3 : Int)) := (cell_of_row _ _ 2 _ _ _ HN2.out)
  have hW2 := HW2.out
  clear hb1
  go_wp2_with fail
  refine bodyPost_ret (results_cell_row rfl _ _ w.heap.size 113 _ (0, 0) _ rfl (set3 HZ2.out.r _ _ _) Tryz.underlying113 rfl sizeState) rfl ?_
  exact ⟨rfl, ((HZ2.out.b.setCell (Nat.le_refl _) _).setCell (Nat.le_refl _) _).setCell (Nat.le_refl _) _⟩
end
section
variable {w0 w w' : World} {C C' : Nat → Nat} {K : RB} {Y : YB} {aw : Option Addr} {i n cap m m' : Nat} {zs : List Int} {N : PN} {V V' : PX}
theorem rkey_K {Y : YB} {K : RB} {i : Nat} (h : K.nd = (Y.K i).nd) : rkey { Y with K := fun e => if e = i then K else Y.K e } = rkey Y := by
  unfold rkey
  refine Prod.ext rfl (funext fun e => ?_)
  show (if e = i then K else Y.K e).nd = (Y.K e).nd
  by_cases g : e = i
  · rw [if_pos g, g, h]
  · rw [if_neg g]
theorem RW.nodeOut {S : Nat → Prop} (h : RW w0 w C Y aw cap zs V m) (hi : i < zs.length) (k : Kept S w w') (hS : ∀ x, S x → C x / 100 = i) (hN : RN w' C K i zs.length cap aw N) (hK : K.nd = (Y.K i).nd) (hm : m ≤ m') (hI : NI zs.length N m') :
    ROut w0 w w' C Y aw cap zs (setNd V i N) m' := by
  have n7 := h.n7.2
  exact ⟨C, _, h.node k hi hS (fun _ _ => rfl) (fun x hx hc => by have := h.lt x hc; omega) hN hK hm (h.inv.node hI hm), rkey_K hK, k.mono (fun x hx => by show C x < 2000; have := hS x hx; omega), fun _ _ => rfl⟩
theorem RN.refuse {d : Nat} (h : RN w C K i n cap aw N) (hu : upN N = true) (hd : d < 6) : RN (w.setCell ⟨K.gb, d, none⟩ (.bool true)) C K i n cap aw { N with R := updR N.R d } := by
  obtain ⟨c1, c2, c3, c4, c5⟩ := h.cu hu
  have k : Kept (In1 K.gb) w (w.setCell ⟨K.gb, d, none⟩ (.bool true)) := (Kept.refl _ w).set1 d _
  have e1 := h.cn; have e2 := h.cr; have e3 := h.cl; have e4 := h.cd
  have no : ∀ x, C x ≠ 100 * i + 6 → ¬ In1 K.gb x := fun x g hx => g (by rw [show x = K.gb from hx]; exact c5)
  obtain ⟨off, l', cuts, p1, p2⟩ := h.pl
  obtain ⟨u1, u2⟩ := h.up hu
  refine ⟨k.row h.row (no _ (by omega)), ⟨off, l', cuts, p1.kept k (no _ (by omega)), p2⟩, fun _ => ⟨u1.kept k (no _ (by omega)) (no _ (by omega)) (no _ (by omega)) (no _ (by omega)), ?_⟩, k.row h.lrow (no _ (by omega)), k.row h.drow (no _ (by omega)), fun d hd x hx => ?_, h.cn, h.cr, h.cl, h.cd, fun _ => ⟨c1, c2, c3, c4, c5⟩, h.ce⟩
  · exact u2.refuse hd (fun e => by rw [e] at c1; omega)
  · obtain ⟨L, r1, r2⟩ := h.lds d hd x hx
    obtain ⟨b1, b2⟩ := h.ce d hd x hx
    exact ⟨L, r1, r2.kept k (no _ (by omega)) (fun g hg => no g (by have := b2 g hg; omega))⟩
set_option maxRecDepth 100000 in
theorem rrefuse_any (s d : Int) (c : Nat) (h : RW w0 w C Y aw cap zs V m) (hc : cRef zs.length V s d = c) :
    Calls Tryz.prog 44 #[.pointer (some ⟨Y.xb, 0, none⟩), .int .i64 s, .int .i64 d] w fun e w' => e = .returned (.int .i64 (c : Int)) ∧ ROut w0 w w' C Y aw cap zs (if c = 0 then refuseX V s.toNat d.toNat else V) (m + 1) := by
  have H := hid h
  by_cases hd : 0 ≤ d ∧ d < 6
  · obtain ⟨dn, rfl⟩ := Int.eq_ofNat_of_zero_le hd.1
    have hd6 : dn < 6 := by omega
    have hcu : cRef zs.length V s dn = cUp zs.length V s := by
      unfold cRef cUp
      by_cases hs : 0 ≤ s ∧ s < zs.length
      · rw [if_pos ⟨hs, hd⟩, if_pos hs]
      · rw [if_neg (fun g => hs g.1), if_neg hs]
    have HU := hid (rup_is s c h (by rw [← hcu]; exact hc))
    by_cases c0 : c = 0
    · obtain ⟨k, rfl, hk, hup⟩ : ∃ k : Nat, s = k ∧ k < zs.length ∧ upN (V.nd k) = true := by
        rw [hcu] at hc
        unfold cUp at hc
        by_cases hs : 0 ≤ s ∧ s < zs.length
        · rw [if_pos hs] at hc
          refine ⟨s.toNat, by omega, by omega, ?_⟩
          by_cases hu : upN (V.nd s.toNat) = true
          · exact hu
          · rw [if_neg hu] at hc; omega
        · rw [if_neg hs] at hc; omega
      subst c0
      obtain ⟨-, c1, -, -, -⟩ := h.cells
      have cn := h.ns k hk
      have hN := h.nds k hk
      obtain ⟨d0, -, -, -⟩ := hN.cells
      unfold rsV at d0
      rw [hup, if_pos rfl] at d0
      obtain ⟨-, u2⟩ := hN.up hup
      obtain ⟨-, -, t2⟩ := u2.cells
      have g1 := u2.ref hd6
      have g2 : w.frozen? ⟨(Y.K k).gb, dn, none⟩ = false := frozen_of_row _ _ _ _ _ u2.refs
      have HN := hid (hN.refuse hup hd6)
      have HK := hid hk
      have HUP := hid hup
      obtain ⟨n, HNn⟩ : ∃ n, zs.length = n := ⟨_, rfl⟩
      rw [HNn] at c1 hk
      have HNN := hid HNn
      clear h hc hcu hd u2 hN hup HNn
      go_enter Tryz.func44, Tryz.ntmps44
      go_wp2_with fail
      refine HU.out.mono ?_
      rintro e w1 ⟨rfl, rfl⟩
      go_wp2_with fail
      go_ret
      refine ⟨rfl, ?_⟩
      exact H.out.nodeOut HK.out ((Kept.refl (In1 _) w1).set1 dn _) (fun x hx => by rw [show x = _ from hx]; have := ((H.out.nds k HK.out).cu HUP.out).2.2.2.2; omega) HN.out rfl (Nat.le_succ _) ((H.out.inv.nd k HK.out).refuse.mono (Nat.le_succ _))
    · have c9 : ¬ ((c : Int) = 0) := by omega
      rw [if_neg c0]
      clear h hc hcu hd
      go_enter Tryz.func44, Tryz.ntmps44
      go_wp2_with fail
      refine HU.out.mono ?_
      rintro e w1 ⟨rfl, rfl⟩
      go_wp2_with fail
      go_ret
      exact ⟨rfl, H.out.out (Below.refl _ _) (Nat.le_succ _)⟩
  · have e : c = 2 := by rw [← hc]; unfold cRef; rw [if_neg (fun g => hd g.2)]
    subst e
    rw [if_neg (by decide)]
    by_cases h0 : d < 0
    · clear h hc hd
      go_enter Tryz.func44, Tryz.ntmps44
      go_wp2_with fail
      go_ret
      exact ⟨rfl, H.out.out (Below.refl _ _) (Nat.le_succ _)⟩
    · have h1 : (6 : Int) ≤ d := by omega
      clear h hc hd
      go_enter Tryz.func44, Tryz.ntmps44
      go_wp2_with fail
      go_ret
      exact ⟨rfl, H.out.out (Below.refl _ _) (Nat.le_succ _)⟩
end
theorem Tryz.infoRL : (Tryz.prog.info? 169).map (fun i => (i.zero, i.size, i.bytes)) = some (some (.pointer none), 1, 8) := by kernel_rfl
theorem made_rl : madeCells (Value.pointer none).cells 6 = #[.pointer none, .pointer none, .pointer none, .pointer none, .pointer none, .pointer none] := by first | rfl | kernel_rfl
theorem mkRL (w : World) : (Instr.makeSlice 102 (.int .i64 6) (.int .i64 6)).run Tryz.prog w = .ok (.slice (some ⟨w.heap.size, 0, none⟩) 6 6) (w.alloc (.cells #[.pointer none, .pointer none, .pointer none, .pointer none, .pointer none, .pointer none] 169)) := by
  obtain ⟨i0, hi, hz0, hz1, hz2⟩ := info_parts Tryz.infoRL
  have hr := run_make (P := Tryz.prog) w 102 169 i0 _ Tryz.underlying102 hi hz0 .i64 .i64 6 6 (by omega) (Int.le_refl _) (by rw [hz2]; decide) (by decide)
  rw [hz1, show Int.toNat 6 * 1 = 6 from rfl, made_rl] at hr
  exact hr
def fallW (w : World) (nd : Nat) : World := ((w.setCell ⟨nd, 0, none⟩ (.pointer none)).alloc (.cells #[.pointer none, .pointer none, .pointer none, .pointer none, .pointer none, .pointer none] 169)).setCell ⟨nd, 2, none⟩ (.slice (some ⟨w.heap.size, 0, none⟩) 6 6)
section
variable {w0 w w1 w' : World} {C C' : Nat → Nat} {K : RB} {Y : YB} {aw : Option Addr} {i n cap m m' : Nat} {zs : List Int} {N : PN} {V V' : PX}
theorem fallW_size (w : World) (nd : Nat) : (fallW w nd).heap.size = w.heap.size + 1 := by unfold fallW; simp
theorem fallW_kept (w : World) (nd : Nat) : Kept (In1 nd) w (fallW w nd) := by
  unfold fallW
  refine Kept.set1 ?_ 2 _
  exact ((Kept.refl (In1 nd) w).set1 0 _).trans (Kept.of_below ((Below.refl _ _).alloc (Nat.le_refl _) _))
theorem fallW_row {a b c d : Value} (h : w.heap[K.nd]? = some (.cells #[a, b, c, d] 105 (0, 0))) : (fallW w K.nd).heap[K.nd]? = some (.cells #[.pointer none, b, .slice (some ⟨w.heap.size, 0, none⟩) 6 6, d] 105 (0, 0)) := by
  have h1 := heap_setCell_same w K.nd 0 _ _ (.pointer none) h
  have h2 : ((w.setCell ⟨K.nd, 0, none⟩ (.pointer none)).alloc (.cells #[.pointer none, .pointer none, .pointer none, .pointer none, .pointer none, .pointer none] 169)).heap[K.nd]? = _ := (Below.heap_alloc _ _ _ (row_ltJ h1)).trans h1
  unfold fallW
  rw [heap_setCell_same _ K.nd 2 _ _ _ h2]
  rfl
theorem fallW_new (h : K.nd < w.heap.size) : (fallW w K.nd).heap[w.heap.size]? = some (.cells #[.pointer none, .pointer none, .pointer none, .pointer none, .pointer none, .pointer none] 169 (0, 0)) := by
  unfold fallW
  rw [heap_setCell_other _ _ _ _ (by show w.heap.size ≠ K.nd; omega)]
  have := heap_alloc_new (w.setCell ⟨K.nd, 0, none⟩ (.pointer none)) (.cells #[.pointer none, .pointer none, .pointer none, .pointer none, .pointer none, .pointer none] 169)
  simpa using this
set_option maxRecDepth 100000 in
theorem rfall_any {nd : Nat} {a b c d : Value} (h : w.heap[nd]? = some (.cells #[a, b, c, d] 105 (0, 0))) :
    Calls Tryz.prog 108 #[.pointer (some ⟨nd, 0, none⟩)] w fun e w' => e = .returned (.tuple #[]) ∧ w' = fallW w nd := by
  have c0 : w.cell? ⟨nd, 0, none⟩ = some a := cell_of_row _ _ 0 _ _ _ h
  have f0 : w.frozen? ⟨nd, 0, none⟩ = false := frozen_of_row _ _ _ _ _ h
  have h1 := heap_setCell_same w nd 0 _ _ (.pointer none) h
  have h2 : ((w.setCell ⟨nd, 0, none⟩ (.pointer none)).alloc (.cells #[.pointer none, .pointer none, .pointer none, .pointer none, .pointer none, .pointer none] 169)).heap[nd]? = _ := (Below.heap_alloc _ _ _ (row_ltJ h1)).trans h1
  have c2 : ((w.setCell ⟨nd, 0, none⟩ (.pointer none)).alloc (.cells #[.pointer none, .pointer none, .pointer none, .pointer none, .pointer none, .pointer none] 169)).cell? ⟨nd, 2, none⟩ = some c := cell_of_row _ _ 2 _ _ _ h2
  have f2 : ((w.setCell ⟨nd, 0, none⟩ (.pointer none)).alloc (.cells #[.pointer none, .pointer none, .pointer none, .pointer none, .pointer none, .pointer none] 169)).frozen? ⟨nd, 2, none⟩ = false := frozen_of_row _ _ _ _ _ h2
  have hmk := mkRL
  clear h h1 h2
  unfold fallW
  go_enter Tryz.func108, Tryz.ntmps108
  go_wp2_with fail
  go_end0
  exact ⟨rfl, by simp⟩
theorem RN.fall {S : Nat → Prop} {B : ByteArray} {ov : Bool} (h : RN w C K i n cap aw N) (hk : Kept S w w1) (hS : ∀ x, S x → C x / 100 = i ∧ C x ≠ 100 * i + 1 ∧ C x ≠ 100 * i + 9) (hp : ∃ off l' cuts, RP w1 K.r B off l' cuts ∧ Lk (-2) off l' cuts) (hd : ∀ d, d < 6 → finB (dealL B.data.toList d).2.ph = finB (stN N d).ph) :
    RN (fallW w1 K.nd) (paint C w1.heap.size (100 * i + 8)) { K with ls := w1.heap.size } i n cap aw (fallN { N with B := B, over := ov }) := by
  have e1 := h.cn; have e2 := h.cr; have e3 := h.cl; have e4 := h.cd
  have lnd := row_ltJ h.row
  have ldn := row_ltJ h.drow
  have hsz := hk.size
  have hrow : w1.heap[K.nd]? = some (.cells (rndC K N).toArray 105 (0, 0)) := hk.row h.row (fun e => (hS _ e).2.1 e1)
  have hdrow : VR w1 K.dn (fun d => finB (stN N d).ph) := hk.row h.drow (fun e => (hS _ e).2.2 e4)
  have k2 := fallW_kept w1 K.nd
  obtain ⟨off, l', cuts, p1, p2⟩ := hp
  have lr : K.r < w1.heap.size := row_ltJ p1
  have g1 : K.r ≠ K.nd := fun e => by rw [e] at e2; omega
  have g2 : K.dn ≠ K.nd := fun e => by rw [e] at e4; omega
  have hdr : VR (fallW w1 K.nd) K.dn (fun d => finB (stN N d).ph) := k2.row hdrow g2
  refine ⟨?_, ⟨off, l', cuts, p1.kept k2 g1, p2⟩, fun hu => (by cases hu), ?_, ?_, fun d hd x hx => (by cases hx), ?_, ?_, ?_, ?_, fun hu => (by cases hu), fun d hd x hx => (by cases hx)⟩
  · exact fallW_row hrow
  · exact fallW_new (by omega)
  · unfold VR at hdr ⊢
    rw [hdr]
    have q : ∀ d, d < 6 → finB (stN (fallN { N with B := B, over := ov }) d).ph = finB (stN N d).ph := hd
    simp only [q 0 (by omega), q 1 (by omega), q 2 (by omega), q 3 (by omega), q 4 (by omega), q 5 (by omega)]
  · show paint C _ _ K.nd = _
    rw [paint_ne (by omega)]; exact e1
  · show paint C _ _ K.r = _
    rw [paint_ne (by omega)]; exact e2
  · exact paint_at _ _ _
  · show paint C _ _ K.dn = _
    rw [paint_ne (by omega)]; exact e4
theorem RW.fell {S : Nat → Prop} {B : ByteArray} {ov : Bool} (h : RW w0 w C Y aw cap zs V m) (hi : i < zs.length) (hk : Kept S w w1) (hS : ∀ x, S x → C x / 100 = i ∧ C x ≠ 100 * i + 1 ∧ C x ≠ 100 * i + 9) (hp : ∃ off l' cuts, RP w1 (Y.K i).r B off l' cuts ∧ Lk (-2) off l' cuts) (hd : ∀ d, d < 6 → finB (dealL B.data.toList d).2.ph = finB (stN (V.nd i) d).ph) (hm : m ≤ m') (hI : NI zs.length (fallN { V.nd i with B := B, over := ov }) m') :
    ROut w0 w (fallW w1 (Y.K i).nd) C Y aw cap zs (setNd V i (fallN { V.nd i with B := B, over := ov })) m' := by
  have n7 := h.n7.2
  have hN := h.nds i hi
  have e1 := hN.cn
  have hsz := hk.size
  have hK : Kept (fun x => C x / 100 = i) w (fallW w1 (Y.K i).nd) := (hk.mono (fun x hx => (hS x hx).1)).trans ((fallW_kept w1 (Y.K i).nd).mono (fun x hx => by rw [show x = _ from hx]; omega))
  refine ⟨_, _, h.node hK hi (fun x hx => hx) (fun x hx => paint_ne (by omega)) (fun x hx hc => ?_) (hN.fall (ov := ov) hk hS hp hd) rfl hm (h.inv.node hI hm), rkey_K rfl, hK.mono (fun x hx => by show C x < 2000; omega), fun x hx => paint_ne (by omega)⟩
  rw [fallW_size]
  by_cases e : x = w1.heap.size
  · omega
  · rw [paint_ne e] at hc
    have := h.lt x hc
    omega
end
end Go.Proofs.YtbaamegnmeohoacGreatDoor
