/-
  On the way to WStepsProof, JTampersProof, PAgreesProof, PAgainProof: GP GQ GR.
-/
import Derived.Test.YtadhpkopkkjmfaaGreatDoorBz55
set_option maxHeartbeats 8000000
set_option maxRecDepth 100000
namespace Go.Proofs.YtadhpkopkkjmfaaGreatDoor
open Go.RowKit
def pickF (V:PX) (q:Nat):Option F9:=V.fly[q % V.fly.length]?
def stepP (zs:List Int) (V:PX) (mv q:Nat):PX×Nat :=
 if mv=7 then (match pickF V q with|some _=>(takeX V (q % V.fly.length),0)|none=>(V,4))
 else if mv=8 then (match pickF V q with|some f=>(twiceX V (q % V.fly.length) f,0)|none=>(V,4))
 else if mv=9 then (if cBeg zs.length V ((q % 7:Nat):Int) ((q / 7 % 6:Nat):Int)=0 then beginX zs V (q % 7) (q / 7 % 6) else V,cBeg zs.length V ((q % 7:Nat):Int) ((q / 7 % 6:Nat):Int))
 else if mv=10 then (if cUp zs.length V ((q % 7:Nat):Int)=0 then tickX zs (q % 7) 6 0 V else V,cUp zs.length V ((q % 7:Nat):Int))
 else if mv=11 then (if cRef zs.length V ((q % 7:Nat):Int) ((q / 7 % 6:Nat):Int)=0 then refuseX V (q % 7) (q / 7 % 6) else V,cRef zs.length V ((q % 7:Nat):Int) ((q / 7 % 6:Nat):Int))
 else if mv=12 then (if q % 7<zs.length∧q / 7 % 6<zs.length then (linkX V (q % 7) (q / 7 % 6) (q % 2 == 0),0) else (V,2))
 else if mv=13 then (if q % 7<zs.length then cutX V (q % 7) ((q % 40:Nat):Int) else V,cCut zs.length V ((q % 7:Nat):Int) ((q % 40:Nat):Int))
 else if mv=14 then (if cUp zs.length V ((q % 7:Nat):Int)=0 then downX V (q % 7) else V,cUp zs.length V ((q % 7:Nat):Int))
 else if mv=15 then (if cWake zs.length V ((q % 7:Nat):Int)=0 then upX V (q % 7) else V,cWake zs.length V ((q % 7:Nat):Int))
 else (match pickF V q with|some f=>(deliverX zs V (q % V.fly.length) f,0)|none=>(V,4))
def numP (zs:List Int) (V:PX) (v:Int):PX×Int:=if v<0 then (V,-1) else ((stepP zs V (v.toNat % 16) (v.toNat / 16)).1,((stepP zs V (v.toNat % 16) (v.toNat / 16)).2:Nat))
section
variable {w0 w:World} {C:Nat→Nat} {X:XB} {m:Nat} {zs:List Int} {V:PX} {A:Nat→Addr}
theorem cWake_zero {n:Nat} {s:Int} (hc:cWake n V s=0):s.toNat<n∧upN (V.nd s.toNat)=false:=by
 unfold cWake at hc
 split at hc
 ·rename_i h1
  split at hc
  ·cases hc
  ·rename_i h2
   refine ⟨by omega,?_⟩
   cases hu:upN (V.nd s.toNat) with
   | false=>rfl
   | true=>exact absurd hu h2
 ·cases hc
theorem cRef_zero {n:Nat} {s d:Int} (hc:cRef n V s d=0):s.toNat<n∧upN (V.nd s.toNat)=true:=by
 unfold cRef at hc
 split at hc
 ·rename_i h1
  split at hc
  ·rename_i h2; exact ⟨by omega,h2⟩
  ·cases hc
 ·cases hc
theorem cBeg_zero {n:Nat} {s d:Int} (hc:cBeg n V s d=0):s.toNat<n∧d.toNat<6:=by
 unfold cBeg at hc
 split at hc
 ·rename_i h1; exact ⟨by omega,by omega⟩
 ·cases hc
theorem stepP_stp (mv q:Nat):Stp zs V (stepP zs V mv q).1:=by
 unfold stepP
 split
 ·split
  ·exact .take _
  ·exact .same
 split
 ·split
  ·rename_i f hf; exact .twice _ f (List.mem_iff_getElem?.2 ⟨_,hf⟩)
  ·exact .same
 split
 ·show Stp zs V (if _ then _ else _)
  split
  ·rename_i hc; have:=cBeg_zero hc; exact .begin _ _ (by omega) (by omega) hc
  ·exact .same
 split
 ·show Stp zs V (if _ then _ else _)
  split
  ·rename_i hc; have:=cUp_zero hc; rw [Int.toNat_natCast] at this; exact .tick _ this.1 this.2
  ·exact .same
 split
 ·show Stp zs V (if _ then _ else _)
  split
  ·rename_i hc; have:=cRef_zero hc; rw [Int.toNat_natCast] at this; exact .refuse _ _ this.1 this.2
  ·exact .same
 split
 ·split
  ·exact .link _ _ _
  ·exact .same
 split
 ·show Stp zs V (if _ then _ else _)
  split
  ·rename_i hc; exact .cut _ _ hc
  ·exact .same
 split
 ·show Stp zs V (if _ then _ else _)
  split
  ·rename_i hc; have:=cUp_zero hc; rw [Int.toNat_natCast] at this; exact .down _ this.1 this.2
  ·exact .same
 split
 ·show Stp zs V (if _ then _ else _)
  split
  ·rename_i hc; have:=cWake_zero hc; rw [Int.toNat_natCast] at this; exact .wake _ this.1 this.2
  ·exact .same
 ·split
  ·rename_i f hf; exact .deliver _ f hf
  ·exact .same
theorem numP_stp (v:Int):Stp zs V (numP zs V v).1:=by
 unfold numP
 split
 ·exact .same
 ·exact stepP_stp _ _
theorem cBeg_le {n:Nat} {s d:Int}:cBeg n V s d≤9:=by
 unfold cBeg
 split
 ·split
  ·split <;> decide
  ·decide
 ·decide
theorem cUp_le {n:Nat} {s:Int}:cUp n V s≤9:=by
 unfold cUp
 split
 ·split <;> decide
 ·decide
theorem cRef_le {n:Nat} {s d:Int}:cRef n V s d≤9:=by
 unfold cRef
 split
 ·split <;> decide
 ·decide
theorem cWake_le {n:Nat} {s:Int}:cWake n V s≤9:=by
 unfold cWake
 split
 ·split <;> decide
 ·decide
theorem cCut_le {n:Nat} {s x:Int}:cCut n V s x≤9:=by
 unfold cCut
 split
 ·exact cC_le _ _
 ·decide
theorem stepP_code (mv q:Nat):(stepP zs V mv q).2≤9:=by
 unfold stepP
 split
 ·split <;> exact Nat.le_of_ble_eq_true rfl
 split
 ·split <;> exact Nat.le_of_ble_eq_true rfl
 split
 ·exact cBeg_le
 split
 ·exact cUp_le
 split
 ·exact cRef_le
 split
 ·split <;> exact Nat.le_of_ble_eq_true rfl
 split
 ·exact cCut_le
 split
 ·exact cUp_le
 split
 ·exact cWake_le
 ·split <;> exact Nat.le_of_ble_eq_true rfl
theorem inflight_is (h:WD w0 w C X zs V m):Calls Tryz.prog 186 #[.pointer (some ⟨X.xb,0,none⟩)] w fun e w'=>e=.returned (.int .i64 (V.fly.length:Int))∧w'=w:=by
 obtain ⟨-,-,-,c3,-⟩:=h.cells
 obtain ⟨ad,cap,hv⟩:=h.fly.form
 rw [hv] at c3
 clear h hv
 go_enter Tryz.func186,Tryz.ntmps186
 go_wp2_with fail
 go_ret
 exact ⟨rfl,rfl⟩
def pickN (V:PX) (q:Nat):Nat:=if V.fly.length=0 then 0 else q % V.fly.length
theorem pick_is (q:Nat) (h:WD w0 w C X zs V m):Calls Tryz.prog 165 #[.pointer (some ⟨X.xb,0,none⟩),.int .i64 (q:Int)] w fun e w'=>e=.returned (.int .i64 (pickN V q:Int))∧w'=w:=by
 have HI:=hid (inflight_is h)
 unfold pickN
 obtain ⟨n,hn⟩:∃ n,V.fly.length=n:=⟨_,rfl⟩
 rw [hn] at HI ⊢
 clear h hn
 by_cases h0:n=0
 ·subst h0
  rw [if_pos rfl]
  go_enter Tryz.func165,Tryz.ntmps165
  go_wp2_with fail
  refine HI.out.mono ?_
  rintro e w1 ⟨rfl,hx⟩
  subst w1
  go_wp2_with fail
  go_ret
  exact ⟨rfl,rfl⟩
 ·rw [if_neg h0]
  have e0:((n:Int) == 0)=false:=beq_eq_false_iff_ne.2 (by omega)
  have e1:Int.tmod (q:Int) (n:Int)=((q % n:Nat):Int):=by rw [Int.tmod_eq_emod_of_nonneg (by omega)]; simp
  go_enter Tryz.func165,Tryz.ntmps165
  go_wp2_with fail
  refine HI.out.mono ?_
  rintro e w1 ⟨rfl,hx⟩
  subst w1
  go_wp2_with fail
  go_ret
  exact ⟨rfl,rfl⟩
theorem pick_some {q:Nat} {f:F9} (hf:pickF V q=some f):∃ h:q % V.fly.length<V.fly.length,V.fly[q % V.fly.length]'h=f∧pickN V q=q % V.fly.length:=by
 obtain ⟨h1,h2⟩:=List.getElem?_eq_some_iff.1 hf
 exact ⟨h1,h2,if_neg (by omega)⟩
theorem pick_none {q:Nat} (hf:pickF V q=none):pickN V q=0∧V.fly.length=0:=by
 have h1:=List.getElem?_eq_none_iff.1 hf
 by_cases h0:V.fly.length=0
 ·exact ⟨if_pos h0,h0⟩
 ·exact absurd (Nat.mod_lt q (Nat.pos_of_ne_zero h0)) (by omega)
def PlayO (A:Nat→Addr) (w0 w:World) (C:Nat→Nat) (X:XB) (zs:List Int) (V:PX) (m mv q:Nat) (e:Ending) (w':World):Prop :=
 e=.returned (ev A (stepP zs V mv q).2)∧WOut w0 w w' C X zs (stepP zs V mv q).1 (m+42)
theorem WOut.mono2 {w':World} {V':PX} {m':Nat} (h:WOut w0 w w' C X zs V' m) (hm:m≤m'):WOut w0 w w' C X zs V' m':=by
 obtain ⟨C',X',h1,h2,h3,h4⟩:=h
 exact ⟨C',X',h1.mono hm,h2,h3,h4⟩
theorem play_drop (q:Nat) (h:WD w0 w C X zs V m) (hE:Held9 w0 A) (hm:m<800000):Calls Tryz.prog 38 #[.pointer (some ⟨X.xb,0,none⟩),.int .i64 (pickN V q:Int)] w (PlayO A w0 w C X zs V m 7 q):=by
 have hs:stepP zs V 7 q=(match pickF V q with|some _=>(takeX V (q % V.fly.length),0)|none=>(V,4)):=if_pos rfl
 cases hf:pickF V q with
 | some f =>
  obtain ⟨h1,-,h3⟩:=pick_some hf
  rw [h3]
  refine (drop_ok _ h h1 (by omega)).mono ?_
  rintro e w' ⟨rfl,ho⟩
  unfold PlayO
  rw [hs,hf]
  exact ⟨rfl,ho.mono2 (by omega)⟩
 | none =>
  obtain ⟨h1,h2⟩:=pick_none hf
  rw [h1]
  refine (drop_no _ h hE (by rw [h2]; omega)).mono ?_
  rintro e w' ⟨rfl,rfl⟩
  unfold PlayO
  rw [hs,hf]
  exact ⟨rfl,h.out (Below.refl _ _) (by omega)⟩
theorem play_twice (q:Nat) (h:WD w0 w C X zs V m) (hE:Held9 w0 A) (hm:m<800000):Calls Tryz.prog 68 #[.pointer (some ⟨X.xb,0,none⟩),.int .i64 (pickN V q:Int)] w (PlayO A w0 w C X zs V m 8 q):=by
 have hs:stepP zs V 8 q=(match pickF V q with|some f=>(twiceX V (q % V.fly.length) f,0)|none=>(V,4)):=(if_neg (by decide)).trans (if_pos rfl)
 cases hf:pickF V q with
 | some f =>
  obtain ⟨h1,h2,h3⟩:=pick_some hf
  rw [h3]
  refine (twice_ok _ f h h1 h2 (by omega)).mono ?_
  rintro e w' ⟨rfl,ho⟩
  unfold PlayO
  rw [hs,hf]
  exact ⟨rfl,ho.mono2 (by omega)⟩
 | none =>
  obtain ⟨h1,h2⟩:=pick_none hf
  rw [h1]
  refine (twice_no _ h hE (by rw [h2]; omega)).mono ?_
  rintro e w' ⟨rfl,rfl⟩
  unfold PlayO
  rw [hs,hf]
  exact ⟨rfl,h.out (Below.refl _ _) (by omega)⟩
theorem play_deliver (mv q:Nat) (hv:mv<7) (h:WD w0 w C X zs V m) (hE:Held9 w0 A) (hm:m<800000):Calls Tryz.prog 20 #[.pointer (some ⟨X.xb,0,none⟩),.int .i64 (pickN V q:Int)] w (PlayO A w0 w C X zs V m mv q):=by
 have hs:stepP zs V mv q=(match pickF V q with|some f=>(deliverX zs V (q % V.fly.length) f,0)|none=>(V,4)):=by
  unfold stepP
  rw [if_neg (by omega),if_neg (by omega),if_neg (by omega),if_neg (by omega),if_neg (by omega),if_neg (by omega),if_neg (by omega),if_neg (by omega),if_neg (by omega)]
 cases hf:pickF V q with
 | some f =>
  obtain ⟨h1,h2,h3⟩:=pick_some hf
  rw [h3]
  refine (deliver_ok _ f h hE h1 h2 (by omega)).mono ?_
  rintro e w' ⟨rfl,ho⟩
  unfold PlayO
  rw [hs,hf]
  exact ⟨rfl,ho.mono2 (by omega)⟩
 | none =>
  obtain ⟨h1,h2⟩:=pick_none hf
  rw [h1]
  refine (deliver_no _ h hE (by rw [h2]; omega)).mono ?_
  rintro e w' ⟨rfl,rfl⟩
  unfold PlayO
  rw [hs,hf]
  exact ⟨rfl,h.out (Below.refl _ _) (by omega)⟩
theorem play_link (q:Nat) (h:WD w0 w C X zs V m) (hE:Held9 w0 A) (hm:m<800000):Calls Tryz.prog 33 #[.pointer (some ⟨X.xb,0,none⟩),.int .i64 ((q % 7:Nat):Int),.int .i64 ((q / 7 % 6:Nat):Int),.bool (q % 2 == 0)] w (PlayO A w0 w C X zs V m 12 q):=by
 have hs:stepP zs V 12 q=(if q % 7<zs.length∧q / 7 % 6<zs.length then (linkX V (q % 7) (q / 7 % 6) (q % 2 == 0),0) else (V,2)):=rfl
 by_cases hf:q % 7<zs.length∧q / 7 % 6<zs.length
 ·refine (link_ok _ _ _ h hf.1 hf.2 (by omega)).mono ?_
  rintro e w' ⟨rfl,ho⟩
  unfold PlayO
  rw [hs,if_pos hf]
  exact ⟨rfl,ho.mono2 (by omega)⟩
 ·refine (link_no _ _ _ h hE (by omega)).mono ?_
  rintro e w' ⟨rfl,rfl⟩
  unfold PlayO
  rw [hs,if_neg hf]
  exact ⟨rfl,h.out (Below.refl _ _) (by omega)⟩
theorem play_begin (q:Nat) (h:WD w0 w C X zs V m) (hE:Held9 w0 A) (hm:m<800000):Calls Tryz.prog 18 #[.pointer (some ⟨X.xb,0,none⟩),.int .i64 ((q % 7:Nat):Int),.int .i64 ((q / 7 % 6:Nat):Int)] w (PlayO A w0 w C X zs V m 9 q):=by
 refine (begin_any _ _ _ h hE (by omega) rfl).mono ?_
 rintro e w' ⟨rfl,ho⟩
 exact ⟨rfl,ho.mono2 (by omega)⟩
theorem play_tick (q:Nat) (h:WD w0 w C X zs V m) (hE:Held9 w0 A) (hm:m<800000):Calls Tryz.prog 67 #[.pointer (some ⟨X.xb,0,none⟩),.int .i64 ((q % 7:Nat):Int)] w (PlayO A w0 w C X zs V m 10 q):=by
 refine (tick_any _ _ h hE (by omega) rfl).mono ?_
 rintro e w' ⟨rfl,ho⟩
 exact ⟨rfl,ho.mono2 (by omega)⟩
theorem play_refuse (q:Nat) (h:WD w0 w C X zs V m) (hE:Held9 w0 A) (hm:m<800000):Calls Tryz.prog 17 #[.pointer (some ⟨X.xb,0,none⟩),.int .i64 ((q % 7:Nat):Int),.int .i64 ((q / 7 % 6:Nat):Int)] w (PlayO A w0 w C X zs V m 11 q):=by
 refine (refuse_any _ _ _ h hE (by omega) rfl).mono ?_
 rintro e w' ⟨rfl,ho⟩
 exact ⟨rfl,ho.mono2 (by omega)⟩
theorem play_cut (q:Nat) (h:WD w0 w C X zs V m) (hE:Held9 w0 A):Calls Tryz.prog 69 #[.pointer (some ⟨X.xb,0,none⟩),.int .i64 ((q % 7:Nat):Int),.int .i64 ((q % 40:Nat):Int)] w (PlayO A w0 w C X zs V m 13 q):=by
 have hs:stepP zs V 13 q=(if q % 7<zs.length then cutX V (q % 7) ((q % 40:Nat):Int) else V,cCut zs.length V ((q % 7:Nat):Int) ((q % 40:Nat):Int)):=rfl
 refine (cut_any _ _ _ h hE (by omega) rfl).mono ?_
 rintro e w' ⟨rfl,ho⟩
 unfold PlayO
 rw [hs]
 refine ⟨rfl,?_⟩
 by_cases hc:q % 7<zs.length
 ·rw [if_pos (by omega)] at ho
  show WOut w0 w w' C X zs (if q % 7<zs.length then _ else _) _
  rw [if_pos hc]
  exact ho.mono2 (by omega)
 ·rw [if_neg (by omega)] at ho
  show WOut w0 w w' C X zs (if q % 7<zs.length then _ else _) _
  rw [if_neg hc]
  exact ho.mono2 (by omega)
theorem play_down (q:Nat) (h:WD w0 w C X zs V m) (hE:Held9 w0 A):Calls Tryz.prog 34 #[.pointer (some ⟨X.xb,0,none⟩),.int .i64 ((q % 7:Nat):Int)] w (PlayO A w0 w C X zs V m 14 q):=by
 refine (down_any _ _ h hE rfl).mono ?_
 rintro e w' ⟨rfl,ho⟩
 exact ⟨rfl,ho.mono2 (by omega)⟩
theorem play_wake (q:Nat) (h:WD w0 w C X zs V m) (hE:Held9 w0 A):Calls Tryz.prog 35 #[.pointer (some ⟨X.xb,0,none⟩),.int .i64 ((q % 7:Nat):Int)] w (PlayO A w0 w C X zs V m 15 q):=by
 refine (wake_any _ _ h hE rfl).mono ?_
 rintro e w' ⟨rfl,ho⟩
 exact ⟨rfl,ho.mono2 (by omega)⟩
end
theorem ownInts_long (v:Value) (zs:List Int) (w:World) (hv:IsSl w v zs) (hl:zs.length≤100000) :
  Calls Tryz.prog 15 #[v] w fun e w'=>∃ v',e=.returned v'∧w'.ownsRow w.heap.size 3 1 v' zs.length (zs.map (Value.int .i64))∧Below w.heap.size w w':=by
 obtain ⟨i0,hi,hz0,hz1,hz2⟩:=info_parts Tryz.infoInt
 obtain ⟨a,cap,rfl,hm,hn,hc⟩:=hv
 have HM:=hid hm
 cases a with
 | none =>
  have hcap:=hn rfl
  subst hcap
  have hz:zs=[]:=by
   cases zs with
   | nil=>rfl
   | cons x r=>obtain ⟨b,off,h,_⟩:=hc (by simp); cases h
  subst hz
  clear hn hc
  go_enter Tryz.func15,Tryz.ntmps15
  go_wp2_with (at_builtin; refine wpList_append_own_none rfl _ _ 22 rfl w.heap.size 3 i0 1 Tryz.underlying22 hi _ 0 [] rfl (World.ownsRow_nil _ _ _ _) rfl ?_)
  go_ret
  exact ⟨_,rfl,World.ownsRow_nil _ _ _ _,Below.refl _ _⟩
 | some ad =>
  have HC:Hid (∀ j u,(zs.map (Value.int .i64))[j]? = some u→w.cell? (ad.add j)=some u):=by
   intro j u hj
   rw [List.getElem?_map] at hj
   rcases Nat.lt_or_ge j zs.length with h|h
   ·obtain ⟨b,off,e,hcc⟩:=hc (by omega)
    have e':=Option.some.inj e
    subst e'
    rw [List.getElem?_eq_getElem h] at hj
    simp at hj
    subst hj
    have:=hcc j h
    rw [getD_lt zs j h] at this
    rw [addr_add]; exact this
   ·rw [List.getElem?_eq_none h] at hj; cases hj
  clear hc hn
  have HO:Hid (∀ u∈zs.map (Value.int .i64),u.oneCell'=true):=by
   intro u hu
   obtain ⟨n,-,rfl⟩:=List.mem_map.1 hu
   rfl
  go_enter Tryz.func15,Tryz.ntmps15
  go_wp2_with (at_builtin; refine wpList_append_own _ rfl _ _ 22 rfl w.heap.size 3 i0 (.int .i64 0) 1 8 Tryz.underlying22 hi hz0 hz1 hz2 rfl (by decide) _ 0 [] rfl (World.ownsRow_nil _ _ _ _) ad zs.length cap (zs.map (Value.int .i64)) rfl (by simp) HC.out HO.out (by have:=HM.out; omega) (by omega) (Nat.le_refl _) ?_)
  intro v' w1 hown hgrow _
  have ho2:w1.ownsRow w.heap.size 3 1 v' zs.length (zs.map (Value.int .i64)):=by simpa using hown
  clear hown
  go_wp2
  go_ret
  exact ⟨_,rfl,ho2,(Below.refl _ _).grown hgrow (Nat.le_refl _) (fun k h=>by cases h)⟩
theorem code_ev (A:Nat→Addr) (c:Nat) (w:World) (hE:Held9 w A) (hc:c≤9) :
  Calls Tryz.prog 86 #[ev A c] w fun e w'=>e=.returned (.tuple #[.int .i64 (c:Int),.int .i64 (-1)])∧Below w.heap.size w w':=by
 match c,hc with
 | 0,_ =>
  refine (code_nil w).mono ?_
  rintro e w' ⟨rfl,rfl⟩
  exact ⟨rfl,Below.refl _ _⟩
 | k+1,h =>
  refine (code_at A k w hE (by omega)).mono ?_
  rintro e w' ⟨rfl,hb⟩
  exact ⟨rfl,hb⟩
section
variable {w0 w:World} {C:Nat→Nat} {X:XB} {m:Nat} {zs:List Int} {V:PX} {A:Nat→Addr}
theorem pl_drop (q:Nat) (h:WD w0 w C X zs V m) (hE:Held9 w0 A) (hm:m<800000) (hq:q≤9223372036854775807) :
  Calls Tryz.prog 134 #[.pointer (some ⟨X.xb,0,none⟩),.int .i64 7,.int .i64 (q:Int)] w (PlayO A w0 w C X zs V m 7 q):=by
 have H:=hid h
 have HE:=hid hE
 clear h hE
 obtain ⟨s,Hs⟩:∃ s,Hid (q % 7=s):=⟨_,rfl⟩
 obtain ⟨q7,Hq7⟩:∃ q7,Hid (q / 7=q7):=⟨_,rfl⟩
 obtain ⟨d,Hd⟩:∃ d,Hid (q7 % 6=d):=⟨_,rfl⟩
 have t7:Int.tmod (q:Int) 7=(s:Int):=by rw [Int.tmod_eq_emod_of_nonneg (by omega),← Hs.out]; simp
 have d7:Int.tdiv (q:Int) 7=(q7:Int):=by rw [Int.tdiv_eq_ediv_of_nonneg (by omega),← Hq7.out]; simp
 have t6:Int.tmod (q7:Int) 6=(d:Int):=by rw [Int.tmod_eq_emod_of_nonneg (by omega),← Hd.out]; simp
 have lq7:q7≤9223372036854775807:=by have:=Hq7.out; omega
 have HP:=hid (play_drop q H.out HE.out hm)
 go_enter Tryz.func134,Tryz.ntmps134
 go_wp2_with fail
 refine (pick_is q H.out).mono ?_
 rintro e w1 ⟨rfl,hx⟩
 subst w1
 go_wp2_with fail
 refine HP.out.mono ?_
 rintro e w2 ⟨rfl,ho⟩
 have HO:=hid ho
 clear ho
 go_wp2_with fail
 go_ret
 exact ⟨rfl,HO.out⟩
theorem pl_twice (q:Nat) (h:WD w0 w C X zs V m) (hE:Held9 w0 A) (hm:m<800000) (hq:q≤9223372036854775807) :
  Calls Tryz.prog 134 #[.pointer (some ⟨X.xb,0,none⟩),.int .i64 8,.int .i64 (q:Int)] w (PlayO A w0 w C X zs V m 8 q):=by
 have H:=hid h
 have HE:=hid hE
 clear h hE
 obtain ⟨s,Hs⟩:∃ s,Hid (q % 7=s):=⟨_,rfl⟩
 obtain ⟨q7,Hq7⟩:∃ q7,Hid (q / 7=q7):=⟨_,rfl⟩
 obtain ⟨d,Hd⟩:∃ d,Hid (q7 % 6=d):=⟨_,rfl⟩
 have t7:Int.tmod (q:Int) 7=(s:Int):=by rw [Int.tmod_eq_emod_of_nonneg (by omega),← Hs.out]; simp
 have d7:Int.tdiv (q:Int) 7=(q7:Int):=by rw [Int.tdiv_eq_ediv_of_nonneg (by omega),← Hq7.out]; simp
 have t6:Int.tmod (q7:Int) 6=(d:Int):=by rw [Int.tmod_eq_emod_of_nonneg (by omega),← Hd.out]; simp
 have lq7:q7≤9223372036854775807:=by have:=Hq7.out; omega
 have HP:=hid (play_twice q H.out HE.out hm)
 go_enter Tryz.func134,Tryz.ntmps134
 go_wp2_with fail
 refine (pick_is q H.out).mono ?_
 rintro e w1 ⟨rfl,hx⟩
 subst w1
 go_wp2_with fail
 refine HP.out.mono ?_
 rintro e w2 ⟨rfl,ho⟩
 have HO:=hid ho
 clear ho
 go_wp2_with fail
 go_ret
 exact ⟨rfl,HO.out⟩
theorem pl_begin (q:Nat) (h:WD w0 w C X zs V m) (hE:Held9 w0 A) (hm:m<800000) (hq:q≤9223372036854775807) :
  Calls Tryz.prog 134 #[.pointer (some ⟨X.xb,0,none⟩),.int .i64 9,.int .i64 (q:Int)] w (PlayO A w0 w C X zs V m 9 q):=by
 have H:=hid h
 have HE:=hid hE
 clear h hE
 obtain ⟨s,Hs⟩:∃ s,Hid (q % 7=s):=⟨_,rfl⟩
 obtain ⟨q7,Hq7⟩:∃ q7,Hid (q / 7=q7):=⟨_,rfl⟩
 obtain ⟨d,Hd⟩:∃ d,Hid (q7 % 6=d):=⟨_,rfl⟩
 have t7:Int.tmod (q:Int) 7=(s:Int):=by rw [Int.tmod_eq_emod_of_nonneg (by omega),← Hs.out]; simp
 have d7:Int.tdiv (q:Int) 7=(q7:Int):=by rw [Int.tdiv_eq_ediv_of_nonneg (by omega),← Hq7.out]; simp
 have t6:Int.tmod (q7:Int) 6=(d:Int):=by rw [Int.tmod_eq_emod_of_nonneg (by omega),← Hd.out]; simp
 have lq7:q7≤9223372036854775807:=by have:=Hq7.out; omega
 have HP:=hid (play_begin q H.out HE.out hm)
 rw [Hs.out,Hq7.out,Hd.out] at HP
 go_enter Tryz.func134,Tryz.ntmps134
 go_wp2_with fail
 refine HP.out.mono ?_
 rintro e w2 ⟨rfl,ho⟩
 have HO:=hid ho
 clear ho
 go_wp2_with fail
 go_ret
 exact ⟨rfl,HO.out⟩
theorem pl_tick (q:Nat) (h:WD w0 w C X zs V m) (hE:Held9 w0 A) (hm:m<800000) (hq:q≤9223372036854775807) :
  Calls Tryz.prog 134 #[.pointer (some ⟨X.xb,0,none⟩),.int .i64 10,.int .i64 (q:Int)] w (PlayO A w0 w C X zs V m 10 q):=by
 have H:=hid h
 have HE:=hid hE
 clear h hE
 obtain ⟨s,Hs⟩:∃ s,Hid (q % 7=s):=⟨_,rfl⟩
 obtain ⟨q7,Hq7⟩:∃ q7,Hid (q / 7=q7):=⟨_,rfl⟩
 obtain ⟨d,Hd⟩:∃ d,Hid (q7 % 6=d):=⟨_,rfl⟩
 have t7:Int.tmod (q:Int) 7=(s:Int):=by rw [Int.tmod_eq_emod_of_nonneg (by omega),← Hs.out]; simp
 have d7:Int.tdiv (q:Int) 7=(q7:Int):=by rw [Int.tdiv_eq_ediv_of_nonneg (by omega),← Hq7.out]; simp
 have t6:Int.tmod (q7:Int) 6=(d:Int):=by rw [Int.tmod_eq_emod_of_nonneg (by omega),← Hd.out]; simp
 have lq7:q7≤9223372036854775807:=by have:=Hq7.out; omega
 have HP:=hid (play_tick q H.out HE.out hm)
 rw [Hs.out] at HP
 go_enter Tryz.func134,Tryz.ntmps134
 go_wp2_with fail
 refine HP.out.mono ?_
 rintro e w2 ⟨rfl,ho⟩
 have HO:=hid ho
 clear ho
 go_wp2_with fail
 go_ret
 exact ⟨rfl,HO.out⟩
theorem pl_refuse (q:Nat) (h:WD w0 w C X zs V m) (hE:Held9 w0 A) (hm:m<800000) (hq:q≤9223372036854775807) :
  Calls Tryz.prog 134 #[.pointer (some ⟨X.xb,0,none⟩),.int .i64 11,.int .i64 (q:Int)] w (PlayO A w0 w C X zs V m 11 q):=by
 have H:=hid h
 have HE:=hid hE
 clear h hE
 obtain ⟨s,Hs⟩:∃ s,Hid (q % 7=s):=⟨_,rfl⟩
 obtain ⟨q7,Hq7⟩:∃ q7,Hid (q / 7=q7):=⟨_,rfl⟩
 obtain ⟨d,Hd⟩:∃ d,Hid (q7 % 6=d):=⟨_,rfl⟩
 have t7:Int.tmod (q:Int) 7=(s:Int):=by rw [Int.tmod_eq_emod_of_nonneg (by omega),← Hs.out]; simp
 have d7:Int.tdiv (q:Int) 7=(q7:Int):=by rw [Int.tdiv_eq_ediv_of_nonneg (by omega),← Hq7.out]; simp
 have t6:Int.tmod (q7:Int) 6=(d:Int):=by rw [Int.tmod_eq_emod_of_nonneg (by omega),← Hd.out]; simp
 have lq7:q7≤9223372036854775807:=by have:=Hq7.out; omega
 have HP:=hid (play_refuse q H.out HE.out hm)
 rw [Hs.out,Hq7.out,Hd.out] at HP
 go_enter Tryz.func134,Tryz.ntmps134
 go_wp2_with fail
 refine HP.out.mono ?_
 rintro e w2 ⟨rfl,ho⟩
 have HO:=hid ho
 clear ho
 go_wp2_with fail
 go_ret
 exact ⟨rfl,HO.out⟩
theorem pl_link (q:Nat) (h:WD w0 w C X zs V m) (hE:Held9 w0 A) (hm:m<800000) (hq:q≤9223372036854775807) :
  Calls Tryz.prog 134 #[.pointer (some ⟨X.xb,0,none⟩),.int .i64 12,.int .i64 (q:Int)] w (PlayO A w0 w C X zs V m 12 q):=by
 have H:=hid h
 have HE:=hid hE
 clear h hE
 obtain ⟨s,Hs⟩:∃ s,Hid (q % 7=s):=⟨_,rfl⟩
 obtain ⟨q7,Hq7⟩:∃ q7,Hid (q / 7=q7):=⟨_,rfl⟩
 obtain ⟨d,Hd⟩:∃ d,Hid (q7 % 6=d):=⟨_,rfl⟩
 have t7:Int.tmod (q:Int) 7=(s:Int):=by rw [Int.tmod_eq_emod_of_nonneg (by omega),← Hs.out]; simp
 have d7:Int.tdiv (q:Int) 7=(q7:Int):=by rw [Int.tdiv_eq_ediv_of_nonneg (by omega),← Hq7.out]; simp
 have t6:Int.tmod (q7:Int) 6=(d:Int):=by rw [Int.tmod_eq_emod_of_nonneg (by omega),← Hd.out]; simp
 have lq7:q7≤9223372036854775807:=by have:=Hq7.out; omega
 obtain ⟨b2,H2⟩:∃ b,Hid ((q % 2 == 0)=b):=⟨_,rfl⟩
 have t2:((q:Int) % 2 == 0)=b2:=by
  rw [← H2.out]
  by_cases g:q % 2=0
  ·rw [beq_iff_eq.2 (show (q:Int) % 2=0 by omega),beq_iff_eq.2 g]
  ·rw [beq_eq_false_iff_ne.2 (show (q:Int) % 2≠0 by omega),beq_eq_false_iff_ne.2 g]
 have HP:=hid (play_link q H.out HE.out hm)
 rw [Hs.out,Hq7.out,Hd.out,H2.out] at HP
 go_enter Tryz.func134,Tryz.ntmps134
 go_wp2_with fail
 refine HP.out.mono ?_
 rintro e w2 ⟨rfl,ho⟩
 have HO:=hid ho
 clear ho
 go_wp2_with fail
 go_ret
 exact ⟨rfl,HO.out⟩
theorem pl_cut (q:Nat) (h:WD w0 w C X zs V m) (hE:Held9 w0 A) (hq:q≤9223372036854775807) :
  Calls Tryz.prog 134 #[.pointer (some ⟨X.xb,0,none⟩),.int .i64 13,.int .i64 (q:Int)] w (PlayO A w0 w C X zs V m 13 q):=by
 have H:=hid h
 have HE:=hid hE
 clear h hE
 obtain ⟨s,Hs⟩:∃ s,Hid (q % 7=s):=⟨_,rfl⟩
 obtain ⟨q7,Hq7⟩:∃ q7,Hid (q / 7=q7):=⟨_,rfl⟩
 obtain ⟨d,Hd⟩:∃ d,Hid (q7 % 6=d):=⟨_,rfl⟩
 have t7:Int.tmod (q:Int) 7=(s:Int):=by rw [Int.tmod_eq_emod_of_nonneg (by omega),← Hs.out]; simp
 have d7:Int.tdiv (q:Int) 7=(q7:Int):=by rw [Int.tdiv_eq_ediv_of_nonneg (by omega),← Hq7.out]; simp
 have t6:Int.tmod (q7:Int) 6=(d:Int):=by rw [Int.tmod_eq_emod_of_nonneg (by omega),← Hd.out]; simp
 have lq7:q7≤9223372036854775807:=by have:=Hq7.out; omega
 obtain ⟨x40,H40⟩:∃ x,Hid (q % 40=x):=⟨_,rfl⟩
 have t40:Int.tmod (q:Int) 40=(x40:Int):=by rw [Int.tmod_eq_emod_of_nonneg (by omega),← H40.out]; simp
 have HP:=hid (play_cut q H.out HE.out)
 rw [Hs.out,H40.out] at HP
 go_enter Tryz.func134,Tryz.ntmps134
 go_wp2_with fail
 refine HP.out.mono ?_
 rintro e w2 ⟨rfl,ho⟩
 have HO:=hid ho
 clear ho
 go_wp2_with fail
 go_ret
 exact ⟨rfl,HO.out⟩
theorem pl_down (q:Nat) (h:WD w0 w C X zs V m) (hE:Held9 w0 A) (hq:q≤9223372036854775807) :
  Calls Tryz.prog 134 #[.pointer (some ⟨X.xb,0,none⟩),.int .i64 14,.int .i64 (q:Int)] w (PlayO A w0 w C X zs V m 14 q):=by
 have H:=hid h
 have HE:=hid hE
 clear h hE
 obtain ⟨s,Hs⟩:∃ s,Hid (q % 7=s):=⟨_,rfl⟩
 obtain ⟨q7,Hq7⟩:∃ q7,Hid (q / 7=q7):=⟨_,rfl⟩
 obtain ⟨d,Hd⟩:∃ d,Hid (q7 % 6=d):=⟨_,rfl⟩
 have t7:Int.tmod (q:Int) 7=(s:Int):=by rw [Int.tmod_eq_emod_of_nonneg (by omega),← Hs.out]; simp
 have d7:Int.tdiv (q:Int) 7=(q7:Int):=by rw [Int.tdiv_eq_ediv_of_nonneg (by omega),← Hq7.out]; simp
 have t6:Int.tmod (q7:Int) 6=(d:Int):=by rw [Int.tmod_eq_emod_of_nonneg (by omega),← Hd.out]; simp
 have lq7:q7≤9223372036854775807:=by have:=Hq7.out; omega
 have HP:=hid (play_down q H.out HE.out)
 rw [Hs.out] at HP
 go_enter Tryz.func134,Tryz.ntmps134
 go_wp2_with fail
 refine HP.out.mono ?_
 rintro e w2 ⟨rfl,ho⟩
 have HO:=hid ho
 clear ho
 go_wp2_with fail
 go_ret
 exact ⟨rfl,HO.out⟩
theorem pl_wake (q:Nat) (h:WD w0 w C X zs V m) (hE:Held9 w0 A) (hq:q≤9223372036854775807) :
  Calls Tryz.prog 134 #[.pointer (some ⟨X.xb,0,none⟩),.int .i64 15,.int .i64 (q:Int)] w (PlayO A w0 w C X zs V m 15 q):=by
 have H:=hid h
 have HE:=hid hE
 clear h hE
 obtain ⟨s,Hs⟩:∃ s,Hid (q % 7=s):=⟨_,rfl⟩
 obtain ⟨q7,Hq7⟩:∃ q7,Hid (q / 7=q7):=⟨_,rfl⟩
 obtain ⟨d,Hd⟩:∃ d,Hid (q7 % 6=d):=⟨_,rfl⟩
 have t7:Int.tmod (q:Int) 7=(s:Int):=by rw [Int.tmod_eq_emod_of_nonneg (by omega),← Hs.out]; simp
 have d7:Int.tdiv (q:Int) 7=(q7:Int):=by rw [Int.tdiv_eq_ediv_of_nonneg (by omega),← Hq7.out]; simp
 have t6:Int.tmod (q7:Int) 6=(d:Int):=by rw [Int.tmod_eq_emod_of_nonneg (by omega),← Hd.out]; simp
 have lq7:q7≤9223372036854775807:=by have:=Hq7.out; omega
 have HP:=hid (play_wake q H.out HE.out)
 rw [Hs.out] at HP
 go_enter Tryz.func134,Tryz.ntmps134
 go_wp2_with fail
 refine HP.out.mono ?_
 rintro e w2 ⟨rfl,ho⟩
 have HO:=hid ho
 clear ho
 go_wp2_with fail
 go_ret
 exact ⟨rfl,HO.out⟩
theorem pl_deliver (mv q:Nat) (hv:mv<7) (h:WD w0 w C X zs V m) (hE:Held9 w0 A) (hm:m<800000) (hq:q≤9223372036854775807) :
  Calls Tryz.prog 134 #[.pointer (some ⟨X.xb,0,none⟩),.int .i64 (mv:Int),.int .i64 (q:Int)] w (PlayO A w0 w C X zs V m mv q):=by
 have H:=hid h
 have HE:=hid hE
 clear h hE
 obtain ⟨s,Hs⟩:∃ s,Hid (q % 7=s):=⟨_,rfl⟩
 obtain ⟨q7,Hq7⟩:∃ q7,Hid (q / 7=q7):=⟨_,rfl⟩
 obtain ⟨d,Hd⟩:∃ d,Hid (q7 % 6=d):=⟨_,rfl⟩
 have t7:Int.tmod (q:Int) 7=(s:Int):=by rw [Int.tmod_eq_emod_of_nonneg (by omega),← Hs.out]; simp
 have d7:Int.tdiv (q:Int) 7=(q7:Int):=by rw [Int.tdiv_eq_ediv_of_nonneg (by omega),← Hq7.out]; simp
 have t6:Int.tmod (q7:Int) 6=(d:Int):=by rw [Int.tmod_eq_emod_of_nonneg (by omega),← Hd.out]; simp
 have lq7:q7≤9223372036854775807:=by have:=Hq7.out; omega
 have e7:((mv:Int) == 7)=false:=beq_eq_false_iff_ne.2 (by omega)
 have e8:((mv:Int) == 8)=false:=beq_eq_false_iff_ne.2 (by omega)
 have e9:((mv:Int) == 9)=false:=beq_eq_false_iff_ne.2 (by omega)
 have e10:((mv:Int) == 10)=false:=beq_eq_false_iff_ne.2 (by omega)
 have e11:((mv:Int) == 11)=false:=beq_eq_false_iff_ne.2 (by omega)
 have e12:((mv:Int) == 12)=false:=beq_eq_false_iff_ne.2 (by omega)
 have e13:((mv:Int) == 13)=false:=beq_eq_false_iff_ne.2 (by omega)
 have e14:((mv:Int) == 14)=false:=beq_eq_false_iff_ne.2 (by omega)
 have e15:((mv:Int) == 15)=false:=beq_eq_false_iff_ne.2 (by omega)
 have HP:=hid (play_deliver mv q hv H.out HE.out hm)
 go_enter Tryz.func134,Tryz.ntmps134
 go_wp2_with fail
 refine (pick_is q H.out).mono ?_
 rintro e w1 ⟨rfl,hx⟩
 subst w1
 go_wp2_with fail
 refine HP.out.mono ?_
 rintro e w2 ⟨rfl,ho⟩
 have HO:=hid ho
 clear ho
 go_wp2_with fail
 go_ret
 exact ⟨rfl,HO.out⟩
theorem play_any (mv q:Nat) (h:WD w0 w C X zs V m) (hE:Held9 w0 A) (hm:m<800000) (hv:mv<16) (hq:q≤9223372036854775807) :
  Calls Tryz.prog 134 #[.pointer (some ⟨X.xb,0,none⟩),.int .i64 (mv:Int),.int .i64 (q:Int)] w (PlayO A w0 w C X zs V m mv q):=by
 by_cases h7:mv<7
 ·exact pl_deliver mv q h7 h hE hm hq
 ·have hc:mv=7 ∨ mv=8 ∨ mv=9 ∨ mv=10 ∨ mv=11 ∨ mv=12 ∨ mv=13 ∨ mv=14 ∨ mv=15:=by omega
  rcases hc with rfl|rfl|rfl|rfl|rfl|rfl|rfl|rfl|rfl
  ·exact pl_drop q h hE hm hq
  ·exact pl_twice q h hE hm hq
  ·exact pl_begin q h hE hm hq
  ·exact pl_tick q h hE hm hq
  ·exact pl_refuse q h hE hm hq
  ·exact pl_link q h hE hm hq
  ·exact pl_cut q h hE hq
  ·exact pl_down q h hE hq
  ·exact pl_wake q h hE hq
theorem answer_any (v:Int) (h:WD w0 w C X zs V m) (hE:Held9 w0 A) (hm:m<800000) (hv:v≤9223372036854775807) :
  Calls Tryz.prog 101 #[.pointer (some ⟨X.xb,0,none⟩),.int .i64 v] w fun e w'=>e=.returned (.int .i64 (numP zs V v).2)∧WOut w0 w w' C X zs (numP zs V v).1 (m+42):=by
 have H:=hid h
 have HE:=hid hE
 clear h hE
 by_cases h0:v<0
 ·have HN:Hid (numP zs V v=(V,-1)):=if_pos h0
  rw [HN.out]
  go_enter Tryz.func101,Tryz.ntmps101
  go_wp2_with fail
  go_ret
  exact ⟨rfl,H.out.out (Below.refl _ _) (by omega)⟩
 ·have HN:Hid (numP zs V v=((stepP zs V (v.toNat % 16) (v.toNat / 16)).1,(((stepP zs V (v.toNat % 16) (v.toNat / 16)).2:Nat):Int))):=if_neg h0
  obtain ⟨k,rfl⟩:=Int.eq_ofNat_of_zero_le (show 0≤v by omega)
  rw [Int.toNat_natCast] at HN
  obtain ⟨mv,Hmv⟩:∃ mv,Hid (k % 16=mv):=⟨_,rfl⟩
  obtain ⟨q,Hq⟩:∃ q,Hid (k / 16=q):=⟨_,rfl⟩
  rw [Hmv.out,Hq.out] at HN
  have tm:Int.tmod (k:Int) 16=(mv:Int):=by rw [Int.tmod_eq_emod_of_nonneg (by omega),← Hmv.out]; simp
  have td:Int.tdiv (k:Int) 16=(q:Int):=by rw [Int.tdiv_eq_ediv_of_nonneg (by omega),← Hq.out]; simp
  have hq9:q≤9223372036854775807:=by have:=Hq.out; omega
  have HP:=hid (play_any mv q H.out HE.out hm (by rw [← Hmv.out]; exact Nat.mod_lt _ (by decide)) hq9)
  rw [HN.out]
  go_enter Tryz.func101,Tryz.ntmps101
  go_wp2_with fail
  refine HP.out.mono ?_
  rintro e w1 ⟨rfl,C1,X1,g1,g2,g3,g4⟩
  have HC:=hid (code_ev A (stepP zs V mv q).2 w1 (g1.held HE.out) (stepP_code mv q))
  have HO:Hid (WOut w0 w w1 C X zs (stepP zs V mv q).1 (m+42)):=⟨C1,X1,g1,g2,g3,g4⟩
  clear g1 g2 g3 g4
  go_wp2_with fail
  refine HC.out.mono ?_
  rintro e w2 ⟨rfl,hb2⟩
  have HO2:=hid (HO.out.later hb2)
  clear hb2
  go_wp2_with fail
  go_ret
  exact ⟨rfl,HO2.out⟩
end
def runX (zs:List Int):List Int→PX→PX
 | [],V=>V
 | v :: r,V=>runX zs r (numP zs V v).1
def runA (zs:List Int):List Int→PX→List Int
 | [],_=>[]
 | v :: r,V=>(numP zs V v).2 :: runA zs r (numP zs V v).1
theorem runX_app (zs:List Int):∀ (a b:List Int) (V:PX),runX zs (a ++ b) V=runX zs b (runX zs a V)
 | [],_,_=>rfl
 | v :: r,b,V=>runX_app zs r b (numP zs V v).1
theorem runA_app (zs:List Int):∀ (a b:List Int) (V:PX),runA zs (a ++ b) V=runA zs a V ++ runA zs b (runX zs a V)
 | [],_,_=>rfl
 | v :: r,b,V=>by
  show (numP zs V v).2 :: runA zs (r ++ b) (numP zs V v).1=_
  rw [runA_app zs r b]; rfl
theorem runA_length (zs:List Int):∀ (a:List Int) (V:PX),(runA zs a V).length=a.length
 | [],_=>rfl
 | v :: r,V=>by
  show (runA zs r (numP zs V v).1).length+1=r.length+1
  rw [runA_length zs r]
theorem takeI_snoc {vs:List Int} {k:Nat} (h:k<vs.length):vs.take (k+1)=vs.take k ++ [vs.getD k 0]:=by
 rw [List.take_add_one,List.getElem?_eq_getElem h]
 simp [List.getD,h]
theorem runX_take (zs:List Int) {vs:List Int} {k:Nat} (h:k<vs.length) (V:PX):runX zs (vs.take (k+1)) V=(numP zs (runX zs (vs.take k) V) (vs.getD k 0)).1:=by
 rw [takeI_snoc h,runX_app]; rfl
theorem runA_take (zs:List Int) {vs:List Int} {k:Nat} (h:k<vs.length) (V:PX):runA zs (vs.take (k+1)) V=runA zs (vs.take k) V ++ [(numP zs (runX zs (vs.take k) V) (vs.getD k 0)).2]:=by
 rw [takeI_snoc h,runA_app]; rfl
theorem wpList_append_i1 {w:World} {ops:Array Oper} {rest:List Oper} {o:Oper} {a:Act} {Q:Exit→Act→World→Prop} (hgd:o.guard=none) (s x:Operand)
  (ho:o.op=.call { callee:=.builtin .append,args:=#[s,x],argTypes:=#[22,22] })
  (base n:Nat) (v:Value) (xs:List Value) (ad:Addr) (c:Nat) (F:Int) (hs:a.eval s=v) (hx:a.eval x=.slice (some ad) 1 c) (hown:w.ownsRow base 3 1 v n xs) (hu:∀ j u,[Value.int .i64 F][j]? = some u→w.cell? (ad.add j)=some u) (hn:n≤1000000000000) (hb:base≤w.heap.size)
  (h:∀ ad' cap' w',w'.ownsRow base 3 1 (.slice ad' (n+1) cap') (n+1) (xs ++ [Value.int .i64 F])→w.grownBy w' v.ownBlock→((Value.slice ad' (n+1) cap').ownBlock=v.ownBlock ∨ (Value.slice ad' (n+1) cap').ownBlock=some w.heap.size)→wpList Tryz.prog ops Q rest (a.put o.dst (.slice ad' (n+1) cap')) w') :
  wpList Tryz.prog ops Q (o :: rest) a w:=by
 refine wpList_plain hgd fun K hK=>?_
 obtain ⟨i0,hi0,hz0,hz1,hz2⟩:=info_parts Tryz.infoInt
 obtain ⟨v',w',hr,h2,h3,-,h5⟩:=run_append_own_at (P:=Tryz.prog) w base 22 o.type 3 i0 _ 1 8 Tryz.underlying22 hi0 hz0 hz1 hz2 rfl (by decide) v n xs hown ad 1 c [.int .i64 F] rfl hu (by intro u hu; simp at hu; subst hu; rfl) (by unfold maxLen; omega) (by omega) hb
 obtain ⟨ad',cap',rfl⟩:∃ ad' cap',v'=.slice ad' (n+1) cap':=by
  rcases h2.2 with ⟨e,h0⟩|⟨g,cap,cur,e,-⟩
  ·omega
  ·exact ⟨_,_,e⟩
 unfold Oper.wp execOp
 simp only [ho,resolve,invoke,builtin,Sem.run_bind,Sem.run_pure,Result.andThen_ok,List.map_toArray,List.map_cons,List.map_nil,hs,hx,hr]
 exact hK _ _ (h ad' cap' w' h2 h3 h5)
structure RuI (w0 w wr:World) (C:Nat→Nat) (X:XB) (zs vs:List Int) (V:PX) (m k:Nat) (u:Value) (C':Nat→Nat) (X':XB):Prop where
 wd:WD w0 wr C' X' zs (runX zs (vs.take k) V) (m+42 * k)
 ky:key X'=key X
 kept:Kept (OwnX C) w wr
 col:∀ x,x<w.heap.size→C' x=C x
 own:wr.ownsRow w.heap.size 3 1 u k ((runA zs (vs.take k) V).map (Value.int .i64))
 far:∀ g,u.ownBlock=some g→2000≤C' g
 alng:∀ I:Nat→PX→Prop,(∀ j U U' q,Stp zs U U'→XI zs U q→q<900000→I j U→I (j+1) U')→I 0 V→I k (runX zs (vs.take k) V)
theorem Kept.past {S T:Nat→Prop} {w w1 w2:World} (h1:Kept S w w1) (h2:Kept T w1 w2) (hT:∀ x,T x→w.heap.size≤x):Kept S w w2 :=
 ⟨h2.os.trans h1.os,h2.tape.trans h1.tape,h2.output.trans h1.output,Nat.le_trans h1.size h2.size,fun y hy hn=>(h2.block y (Nat.lt_of_lt_of_le hy h1.size) (fun e=>by have:=hT y e; omega)).trans (h1.block y hy hn)⟩
section
variable {w0 w wr:World} {C C':Nat→Nat} {X X':XB} {m k:Nat} {zs vs:List Int} {V:PX} {A:Nat→Addr} {u:Value}
theorem new_far {w0 w1:World} {C1:Nat→Nat} {X1:XB} {V1:PX} {m1:Nat} (h:WD w0 w1 C1 X1 zs V1 m1):2000≤C1 w1.heap.size:=by
 rcases Nat.lt_or_ge (C1 w1.heap.size) 2000 with q|q
 ·have:=h.lt _ q; omega
 ·exact q
theorem RuI.answered {w1:World} (h:RuI w0 w wr C X zs vs V m k u C' X') (hk:k<vs.length) (ho:WOut w0 wr w1 C' X' zs (numP zs (runX zs (vs.take k) V) (vs.getD k 0)).1 (m+42 * k+42)) (hm:m+42 * k<900000) :
  ∃ C1 X1,WD w0 w1 C1 X1 zs (runX zs (vs.take (k+1)) V) (m+42 * (k+1))∧key X1=key X∧Kept (OwnX C) w w1∧(∀ x,x<w.heap.size→C1 x=C x)∧w1.ownsRow w.heap.size 3 1 u k ((runA zs (vs.take k) V).map (Value.int .i64))∧(∀ g,u.ownBlock=some g→2000≤C1 g)∧(∀ I:Nat→PX→Prop,(∀ j U U' q,Stp zs U U'→XI zs U q→q<900000→I j U→I (j+1) U')→I 0 V→I (k+1) (runX zs (vs.take (k+1)) V)):=by
 obtain ⟨C1,X1,g1,g2,g3,g4⟩:=ho
 rw [← runX_take zs hk,Nat.add_assoc,show 42 * k+42=42 * (k+1) by omega] at g1
 have hs:=h.kept.size
 refine ⟨C1,X1,g1,g2.trans h.ky,?_,fun x hx=>(g4 x (by omega)).trans (h.col x hx),own_kept h.own g3 (fun g hg=>fun e=>by have:=h.far g hg; have:C' g<2000:=e; omega),fun g hg=>by rw [g4 g (own_lt h.own hg)]; exact h.far g hg,fun I hI h0=>by rw [runX_take zs hk]; exact hI k _ _ _ (numP_stp _) h.wd.inv hm (h.alng I hI h0)⟩
 refine ⟨g3.os.trans h.kept.os,g3.tape.trans h.kept.tape,g3.output.trans h.kept.output,Nat.le_trans hs g3.size,fun y hy hn=>?_⟩
 refine (g3.block y (by omega) (fun e=>hn ?_)).trans (h.kept.block y hy hn)
 show C y<2000
 rw [← h.col y hy]; exact e
theorem RuI.appended {w1 W2 w3:World} {C1:Nat→Nat} {X1:XB} {u':Value} (g1:WD w0 w1 C1 X1 zs (runX zs (vs.take (k+1)) V) (m+42 * (k+1))) (g2:key X1=key X) (g3:Kept (OwnX C) w w1) (g4:∀ x,x<w.heap.size→C1 x=C x) (g5:w1.ownsRow w.heap.size 3 1 u k ((runA zs (vs.take k) V).map (Value.int .i64))) (g6:∀ g,u.ownBlock=some g→2000≤C1 g) (g7:∀ I:Nat→PX→Prop,(∀ j U U' q,Stp zs U U'→XI zs U q→q<900000→I j U→I (j+1) U')→I 0 V→I (k+1) (runX zs (vs.take (k+1)) V)) (h0:w0.heap.size≤w.heap.size) (hk:k<vs.length)
  (hb:Below w1.heap.size w1 W2) (hown:w3.ownsRow w.heap.size 3 1 u' (k+1) ((runA zs (vs.take k) V).map (Value.int .i64) ++ [Value.int .i64 (numP zs (runX zs (vs.take k) V) (vs.getD k 0)).2])) (hg:W2.grownBy w3 u.ownBlock) (hat:u'.ownBlock=u.ownBlock ∨ u'.ownBlock=some W2.heap.size) :
  RuI w0 w w3 C X zs vs V m (k+1) u' C1 X1:=by
 have hlow:∀ x,u.ownBlock=some x→w.heap.size≤x:=fun x hx=>(g5.lt x hx).1
 have hW:=g1.later hb
 have hs1:=g3.size
 refine ⟨hW.far (grown_kept hg) g6 (fun x hx=>Nat.le_trans h0 (hlow x hx)),g2,(g3.past (Kept.of_below hb) (S:=OwnX C) (T:=fun _=>False) (fun _ h=>h.elim)).past (grown_kept hg) hlow,g4,?_,fun g hg'=>?_,g7⟩
 ·rw [runA_take zs hk,List.map_append]; exact hown
 ·rcases hat with e|e
  ·rw [e] at hg'; exact g6 g hg'
  ·rw [e] at hg'
   obtain rfl:=Option.some.inj hg'
   exact new_far hW
theorem own_ints_at {w:World} {base n g cap:Nat} {vs:List Int} (h:w.ownsRow base 3 1 (.slice (some ⟨g,0,none⟩) n cap) n (vs.map (Value.int .i64))) {i:Nat} (hi:i<n):w.cell? ⟨g,i,none⟩=some (.int .i64 (vs.getD i 0)):=by
 have hl:vs.length=n:=by have:=h.1; simpa using this
 have:=h.cellAt i (by omega)
 rw [this,List.getElem?_map,List.getElem?_eq_getElem (by omega)]
 simp [List.getD,hl,hi]
theorem run_any (v:Value) (bs:Nat) (h:WD w0 w C X zs V m) (hE:Held9 w0 A) (hv:w.ownsRow bs 3 1 v vs.length (vs.map (Value.int .i64))) (hl:vs.length≤3000) (hr:∀ x,x∈vs→x≤9223372036854775807) (hm:m+42 * vs.length<800000) (hsl:∀ g,v.ownBlock=some g→2000≤C g) :
  Calls Tryz.prog 44 #[.pointer (some ⟨X.xb,0,none⟩),v] w fun e w'=>∃ u C' X',e=.returned u∧RuI w0 w w' C X zs vs V m vs.length u C' X':=by
 have HE:=hid hE
 have HR:=hid hr
 have h0:=h.bel.size
 have HI0:Hid (RuI w0 w w C X zs vs V m 0 (.slice none 0 0) C X):=⟨h,rfl,Kept.refl _ _,fun _ _=>rfl,World.ownsRow_nil _ _ _ _,(fun g hg=>by cases hg),fun _ _ h=>h⟩
 obtain ⟨n,HN⟩:∃ n,Hid (vs.length=n):=⟨_,rfl⟩
 have HSl:=hid hsl
 have HO:=hid hv
 rw [HN.out] at hl hm HO ⊢
 clear h hE hr hsl
 rcases hv.2 with ⟨e,hz⟩|⟨g,cap,cur,e,-,hrow,hnc,hcm,-⟩
 ·subst e
  have hn0:n=0:=by rw [← HN.out]; exact hz
  subst hn0
  clear hv hz
  go_enter Tryz.func44,Tryz.ntmps44
  go_wp2_with fail
  go_loopw [5,14] (fun u v wr=>u=.slice none 0 0∧v=.int .i64 0∧wr=w) (fun _ _ _=>0)
  case atStart=>exact ⟨rfl,rfl,rfl⟩
  case round =>
   obtain ⟨rfl,rfl,hx⟩:=hrel
   subst hx
   go_wp2_with fail
   go_ret
   exact ⟨_,C,X,rfl,HI0.out⟩
 ·subst e
  rw [HN.out] at hnc HSl ⊢
  have hlt:=row_ltJ hrow
  have h63:cap≤9223372036854775807:=by unfold maxLen at hcm; omega
  rw [HN.out] at HO
  have HCg:Hid (2000≤C g):=HSl.out g rfl
  have hmin:min (n:Int) 3000=(n:Int):=by omega
  have hmax:max (n:Int) 0=(n:Int):=by omega
  clear hv hrow hcm
  go_enter Tryz.func44,Tryz.ntmps44
  go_wp2_with fail
  go_loopw [5,14] (fun u v wr=>∃ (k:Nat) (C':Nat→Nat) (X':XB),k≤n∧v=.int .i64 (k:Int)∧Hid (RuI w0 w wr C X zs vs V m k u C' X')) (fun _ v _=>n - (intOf v).toNat)
  case atStart=>exact ⟨0,C,X,Nat.zero_le _,rfl,HI0.out⟩
  case round =>
   obtain ⟨k,C1,X1,hk,rfl,HI⟩:=hrel
   obtain ⟨adu,capu,hu⟩:∃ ad cp,u5=Value.slice ad k cp:=by
    rcases HI.out.own.2 with ⟨e,hz⟩|⟨g',cap',cur',e,-⟩
    ·exact ⟨none,0,by rw [e,hz]⟩
    ·exact ⟨_,_,e⟩
   subst hu
   by_cases hlt2:k<n
   ·have hlt3:(k:Int)<(n:Int):=by omega
    have c0:wr.cell? ⟨g,k,none⟩=some (.int .i64 (vs.getD k 0)):=cell_kept (own_ints_at HO.out hlt2) HI.out.kept (fun e=>by have h1:=HCg.out; have h2:C g<2000:=e; omega)
    have HKl:Hid (k<vs.length):=by rw [HN.out]; exact hlt2
    have HAns:=hid (answer_any (vs.getD k 0) HI.out.wd HE.out (by omega) (HR.out _ (by rw [List.getD,List.getElem?_eq_getElem HKl.out]; exact List.getElem_mem _)))
    rw [key_xb HI.out.ky] at HAns
    generalize HA0:vs.getD k 0=x0 at c0
    rw [HA0] at HAns
    go_wp2_with fail
    refine HAns.out.mono ?_
    rintro e w1 ⟨rfl,ho⟩
    rw [← HA0] at ho
    obtain ⟨C2,X2,g1,g2,g3,g4,g5,g6,g7⟩:=HI.out.answered HKl.out ho (by omega)
    rw [HA0] at ho
    obtain ⟨a,Ha⟩:∃ a,Hid ((numP zs (runX zs (vs.take k) V) x0).2=a):=⟨_,rfl⟩
    rw [Ha.out]
    obtain ⟨W2,HW2⟩:∃ W2,Hid (w1.alloc (.cells #[.int .i64 a] 3)=W2):=⟨_,rfl⟩
    have HB2:Hid (Below w1.heap.size w1 W2):=by rw [← HW2.out]; exact (Below.refl _ _).alloc (Nat.le_refl _) _
    have HO2:=hid (own_later g5 HB2.out (Nat.le_refl _))
    have HLit:Hid (∀ j z,[Value.int .i64 a][j]? = some z→W2.cell? ((⟨w1.heap.size,0,none⟩:Addr).add j)=some z):=by rw [← HW2.out]; exact lit_cellsQ w1 3 [.int .i64 a]
    have hbs:w.heap.size≤W2.heap.size:=Nat.le_trans g3.size HB2.out.size
    have HG:=hid (And.intro g1 (And.intro g2 (And.intro g3 (And.intro g4 (And.intro g5 (And.intro g6 g7))))))
    have hW2:=HW2.out
    have HX0:=hid HA0
    clear ho g1 g2 g3 g4 g5 g6 g7 c0 HA0
    go_wp2_with (at_builtin; refine wpList_append_i1 rfl _ _ rfl w.heap.size k (.slice adu k capu) ((runA zs (vs.take k) V).map (Value.int .i64)) ⟨w1.heap.size,0,none⟩ 1 a rfl rfl HO2.out HLit.out (by omega) hbs ?_; intro ad' cap' w3 hown hg hat; have HS:=hid (And.intro hown (And.intro hg hat)); clear hown hg hat)
    go_roundw
    case rel =>
     refine ⟨k+1,C2,X2,by omega,by go_num,?_⟩
     rw [← Ha.out,← HX0.out] at HS
     exact RuI.appended HG.out.1 HG.out.2.1 HG.out.2.2.1 HG.out.2.2.2.1 HG.out.2.2.2.2.1 HG.out.2.2.2.2.2.1 HG.out.2.2.2.2.2.2 h0 HKl.out HB2.out HS.out.1 HS.out.2.1 HS.out.2.2
    case measure=>simp [intOf]; omega
   ·obtain rfl:k=n:=by omega
    have hlt3:¬ ((k:Int)<(k:Int)):=by omega
    go_wp2_with fail
    go_ret
    exact ⟨_,rfl,C1,X1,HI.out⟩
end
end Go.Proofs.YtadhpkopkkjmfaaGreatDoor
