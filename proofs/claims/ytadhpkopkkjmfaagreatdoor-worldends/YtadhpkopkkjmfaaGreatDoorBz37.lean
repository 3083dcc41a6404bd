/-
  On the way to WStepsProof, WCommitsProof, WAgreesProof, WEndsProof, WWaitsProof, JTampersProof, PAgreesProof, PAgainProof: VC VF VG.
-/
import Derived.Test.YtadhpkopkkjmfaaGreatDoorBz35
set_option maxHeartbeats 8000000
set_option maxRecDepth 100000
namespace Go.Proofs.YtadhpkopkkjmfaaGreatDoor
open Go.RowKit
section
variable {w0 w:World} {C:Nat→Nat} {X:XB} {m:Nat} {zs:List Int} {V:PX} {A:Nat→Addr}
theorem has_is (s:Int) (b:Bool) (h:WD w0 w C X zs V m) (hb:decide (0≤s∧s<zs.length)=b) :
  Calls Tryz.prog 75 #[.pointer (some ⟨X.xb,0,none⟩),.int .i64 s] w fun e w'=>e=.returned (.bool b)∧w'=w:=by
 obtain ⟨-,c1,-,-,-⟩:=h.cells
 have n7:=h.n7
 obtain ⟨n,hn⟩:∃ n,zs.length=n:=⟨_,rfl⟩
 rw [hn] at c1 n7 hb
 clear h hn
 subst hb
 by_cases h0:0≤s
 ·by_cases h1:s<n
  ·have e:decide (0≤s∧s<n)=true:=decide_eq_true ⟨h0,h1⟩
   rw [e]
   clear e
   go_enter Tryz.func75,Tryz.ntmps75
   go_wp2_with fail
   go_ret
   exact ⟨rfl,rfl⟩
  ·have e:decide (0≤s∧s<n)=false:=decide_eq_false (fun g=>h1 g.2)
   rw [e]
   clear e
   go_enter Tryz.func75,Tryz.ntmps75
   go_wp2_with fail
   go_ret
   exact ⟨rfl,rfl⟩
 ·have e:decide (0≤s∧s<n)=false:=decide_eq_false (fun g=>h0 g.1)
  have h2:decide (0≤s)=false:=decide_eq_false h0
  rw [e]
  clear e
  go_enter Tryz.func75,Tryz.ntmps75
  go_wp2_with fail
  go_ret
  exact ⟨rfl,rfl⟩
theorem find_no (s:Int) (h:WD w0 w C X zs V m) (hE:Held9 w0 A) (hs:¬ (0≤s∧s<zs.length)) :
  Calls Tryz.prog 77 #[.pointer (some ⟨X.xb,0,none⟩),.int .i64 s] w fun e w'=>e=.returned (.tuple #[.pointer none,.iface 276 (.pointer (some (A 1)))])∧Below w.heap.size w w':=by
 have H:=hid h
 have hb:=decide_eq_false hs
 have g1:=(h.held hE).g1
 clear h hE hs
 have HB:=hid hb
 clear hb
 go_enter Tryz.func77,Tryz.ntmps77
 go_wp2_with fail
 refine (has_is s false H.out HB.out).mono ?_
 rintro e w1 ⟨rfl,hx⟩
 subst w1
 go_wp2_with fail
 go_quiet (fail)
 go_wp2
 go_ret2
 exact ⟨rfl,below_drewN (Below.refl _ _) _⟩
theorem find_ok (s:Nat) (h:WD w0 w C X zs V m) (hs:s<zs.length) :
  Calls Tryz.prog 77 #[.pointer (some ⟨X.xb,0,none⟩),.int .i64 (s:Int)] w fun e w'=>e=.returned (.tuple #[.pointer (some ⟨(X.K s).nd,0,none⟩),.nilIface])∧w'=w:=by
 have H:=hid h
 have HB:Hid (decide (0≤(s:Int)∧(s:Int)<zs.length)=true):=decide_eq_true (by omega)
 obtain ⟨-,c1,-,-,-⟩:=h.cells
 have c2:=h.ns s hs
 have n7:=h.n7
 obtain ⟨n,hn⟩:∃ n,Hid (zs.length=n):=⟨_,rfl⟩
 rw [hn.out] at c1 n7 hs
 clear h
 go_enter Tryz.func77,Tryz.ntmps77
 go_wp2_with fail
 refine (has_is (s:Int) true H.out HB.out).mono ?_
 rintro e w1 ⟨rfl,hx⟩
 subst w1
 go_wp2_with fail
 go_ret2
 exact ⟨rfl,rfl⟩
theorem findDeal_no (s d:Int) (h:WD w0 w C X zs V m) (hE:Held9 w0 A) (hs:¬ ((0≤s∧s<zs.length)∧0≤d∧d<6)) :
  Calls Tryz.prog 53 #[.pointer (some ⟨X.xb,0,none⟩),.int .i64 s,.int .i64 d] w fun e w'=>e=.returned (.tuple #[.pointer none,.iface 276 (.pointer (some (A 1)))])∧Below w.heap.size w w':=by
 have H:=hid h
 have HE:=hid hE
 have g1:=(h.held hE).g1
 by_cases d0:0≤d
 ·by_cases d6:d<6
  ·have HS:Hid (¬ (0≤s∧s<zs.length)):=fun g=>hs ⟨g,d0,d6⟩
   clear h hs hE
   go_enter Tryz.func53,Tryz.ntmps53
   go_wp2_with fail
   refine (find_no s H.out HE.out HS.out).mono ?_
   rintro e w1 ⟨rfl,hx⟩
   have HX:=hid hx
   clear hx
   go_wp2_with fail
   go_ret2
   exact ⟨rfl,HX.out⟩
  ·clear h hs hE
   go_enter Tryz.func53,Tryz.ntmps53
   go_wp2_with fail
   go_quiet (fail)
   go_wp2
   go_ret2
   exact ⟨rfl,below_drewN (Below.refl _ _) _⟩
 ·have h0:d<0:=by omega
  clear h hs hE
  go_enter Tryz.func53,Tryz.ntmps53
  go_wp2_with fail
  go_quiet (fail)
  go_wp2
  go_ret2
  exact ⟨rfl,below_drewN (Below.refl _ _) _⟩
theorem findDeal_ok (s d:Nat) (h:WD w0 w C X zs V m) (hs:s<zs.length) (hd:d<6) :
  Calls Tryz.prog 53 #[.pointer (some ⟨X.xb,0,none⟩),.int .i64 (s:Int),.int .i64 (d:Int)] w fun e w'=>e=.returned (.tuple #[.pointer (some ⟨(X.K s).nd,0,none⟩),.nilIface])∧w'=w:=by
 have H:=hid h
 have HS:=hid hs
 have d0:¬ (d:Int)<0:=by omega
 have d6:¬ 6≤(d:Int):=by omega
 clear h hs
 go_enter Tryz.func53,Tryz.ntmps53
 go_wp2_with fail
 refine (find_ok s H.out HS.out).mono ?_
 rintro e w1 ⟨rfl,hx⟩
 subst w1
 go_wp2_with fail
 go_ret2
 exact ⟨rfl,rfl⟩
theorem powered_err (v:Value) (a:Addr) :
  Calls Tryz.prog 52 #[v,.iface 276 (.pointer (some a))] w fun e w'=>e=.returned (.tuple #[.pointer none,.iface 276 (.pointer (some a))])∧w'=w:=by
 go_enter Tryz.func52,Tryz.ntmps52
 go_wp2_with fail
 go_ret2
 exact ⟨rfl,rfl⟩
theorem powered_is {K:NB} {i:Nat} {N:PN} (b:Bool) (h:ND w0 w C K i zs N m) (hE:Held9 w A) (hb:(N.l != -2)=b) :
  Calls Tryz.prog 52 #[.pointer (some ⟨K.nd,0,none⟩),.nilIface] w fun e w'=>e=.returned (.tuple #[if b=true then .pointer (some ⟨K.nd,0,none⟩) else .pointer none,if b=true then .nilIface else .iface 276 (.pointer (some (A 5)))])∧Below w.heap.size w w':=by
 have H:=hid h.sp.jp.pl
 obtain ⟨c0,c1,c2⟩:=h.way
 have g5:=hE.g5
 have HB:=hid hb
 clear h hE hb
 cases b with
 | true =>
  go_enter Tryz.func52,Tryz.ntmps52
  go_wp2_with fail
  refine (power_any K.p K.q N.B N.l w H.out).mono ?_
  rintro e w1 ⟨rfl,hx⟩
  subst w1
  rw [HB.out]
  go_wp2_with fail
  go_ret2
  exact ⟨rfl,Below.refl _ _⟩
 | false =>
  go_enter Tryz.func52,Tryz.ntmps52
  go_wp2_with fail
  refine (power_any K.p K.q N.B N.l w H.out).mono ?_
  rintro e w1 ⟨rfl,hx⟩
  subst w1
  rw [HB.out]
  go_wp2_with fail
  go_quiet (fail)
  go_wp2
  go_ret2
  exact ⟨rfl,below_drewN (Below.refl _ _) _⟩
theorem flies_is (s:Int) (b:Bool) (h:WD w0 w C X zs V m) (hb:decide (0≤s∧s<V.fly.length)=b) :
  Calls Tryz.prog 60 #[.pointer (some ⟨X.xb,0,none⟩),.int .i64 s] w fun e w'=>e=.returned (.bool b)∧w'=w:=by
 obtain ⟨-,-,-,c3,-⟩:=h.cells
 obtain ⟨n,hn⟩:∃ n,V.fly.length=n:=⟨_,rfl⟩
 have hv:∃ ad cap,X.fv=.slice ad n cap:=by
  rw [← hn]
  exact h.fly.form
 obtain ⟨ad,cap,hv⟩:=hv
 rw [hv] at c3
 rw [hn] at hb
 clear h hn
 subst hb
 by_cases h0:0≤s
 ·by_cases h1:s<n
  ·have e:decide (0≤s∧s<n)=true:=decide_eq_true ⟨h0,h1⟩
   rw [e]
   clear e
   go_enter Tryz.func60,Tryz.ntmps60
   go_wp2_with fail
   go_ret
   exact ⟨rfl,rfl⟩
  ·have e:decide (0≤s∧s<n)=false:=decide_eq_false (fun g=>h1 g.2)
   rw [e]
   clear e
   go_enter Tryz.func60,Tryz.ntmps60
   go_wp2_with fail
   go_ret
   exact ⟨rfl,rfl⟩
 ·have e:decide (0≤s∧s<n)=false:=decide_eq_false (fun g=>h0 g.1)
  have h2:decide (0≤s)=false:=decide_eq_false h0
  rw [e]
  clear e
  go_enter Tryz.func60,Tryz.ntmps60
  go_wp2_with fail
  go_ret
  exact ⟨rfl,rfl⟩
end
theorem wisEnd_is (p:Nat) (b:Bool) (w:World) (hb:finB p=b) :
  Calls Tryz.prog 110 #[.int .i64 (p:Int)] w fun e w'=>e=.returned (.bool b)∧w'=w:=by
 subst hb
 unfold finB
 by_cases h2:p=2
 ·subst h2
  go_enter Tryz.func110,Tryz.ntmps110
  go_wp2_with fail
  go_ret
  exact ⟨rfl,rfl⟩
 ·by_cases h3:p=3
  ·subst h3
   go_enter Tryz.func110,Tryz.ntmps110
   go_wp2_with fail
   go_ret
   exact ⟨rfl,rfl⟩
  ·have e:decide (p=2 ∨ p=3)=false:=decide_eq_false (by omega)
   have i2:¬ (p:Int)=2:=by omega
   have i3:¬ (p:Int)=3:=by omega
   rw [e]
   clear e
   have b2:((p:Int) == 2)=false:=beq_eq_false_iff_ne.2 i2
   have b3:((p:Int) == 3)=false:=beq_eq_false_iff_ne.2 i3
   go_enter Tryz.func110,Tryz.ntmps110
   go_wp2_with fail
   go_ret
   exact ⟨rfl,rfl⟩
theorem known_is {w:World} {s j mb p n:Nat} {id:Int} {R:Nat→Bool} {E:Nat→Nat×St} {over:Bool} (d h1 h2 h3:Nat) (hj:JR w j p E over) (h:SR w s j mb id R n) (hd:d<6) (hs:(E d).2=⟨h1,h2,h3⟩) :
  Calls Tryz.prog 83 #[.pointer (some ⟨s,0,none⟩),.int .i64 (d:Int)] w fun e w'=>e=.returned (agS h1 h2 h3)∧Below w.heap.size w w':=by
 obtain ⟨W,HW⟩:∃ W,Hid (w.alloc (.cells #[.int .i64 0,.int .i64 0,.int .i64 0] 43)=W):=⟨_,rfl⟩
 have HB:Hid (Below w.heap.size w W):=by rw [← HW.out]; exact (Below.refl _ _).alloc (Nat.le_refl _) _
 have HR:Hid (W.heap[w.heap.size]? = some (.cells #[.int .i64 0,.int .i64 0,.int .i64 0] 43 (0,0))):=by rw [← HW.out]; exact heap_alloc_new w _
 have HJ:=hid (hj.later HB.out hj.lt)
 have HS2:=hid (h.later HB.out)
 have HS:=hid hs
 have hW:=HW.out
 clear hj h hs
 go_enter Tryz.func83,Tryz.ntmps83
 go_wp2_with (go_at_call 116; (with_reducible refine (sstate_is d h1 h2 h3 HJ.out HS2.out hd HS.out).mono ?_); rintro e w1 ⟨rfl,hb1⟩; have HR1:=hid ((hb1.block _ (row_ltJ HR.out)).trans HR.out); have HB1:=hid (HB.out.trans (hb1.mono HB.out.size)); clear hb1; obtain ⟨W2,HW2⟩:∃ W2,Hid (w1.alloc (.cells #[.int .i64 (h1:Int),.int .i64 (h2:Int),.int .i64 (h3:Int)] 43)=W2):=⟨_,rfl⟩; have hW2:=HW2.out; have HR2:Hid (W2.heap[w.heap.size]? = some (.cells #[.int .i64 0,.int .i64 0,.int .i64 0] 43 (0,0))):=hid (by rw [← HW2.out]; exact (Below.heap_alloc w1 _ _ (row_ltJ HR1.out)).trans HR1.out); have HN2:Hid (W2.heap[w1.heap.size]? = some (.cells #[.int .i64 (h1:Int),.int .i64 (h2:Int),.int .i64 (h3:Int)] 43 (0,0))):=hid (by rw [← HW2.out]; exact heap_alloc_new w1 _); have HB2:Hid (Below w.heap.size w W2):=hid (by rw [← HW2.out]; exact HB1.out.alloc HB1.out.size _); have c0:W2.cell? ⟨w.heap.size,0,none⟩=some (.int .i64 0):=(cell_of_row _ _ 0 _ _ _ HR2.out); have c1:W2.cell? ⟨w.heap.size,1,none⟩=some (.int .i64 0):=(cell_of_row _ _ 1 _ _ _ HR2.out); have c2:W2.cell? ⟨w.heap.size,2,none⟩=some (.int .i64 0):=(cell_of_row _ _ 2 _ _ _ HR2.out); have z0:=frozen_of_row _ _ 0 _ _ HR2.out; have z1:=frozen_of_row _ _ 1 _ _ HR2.out; have z2:=frozen_of_row _ _ 2 _ _ HR2.out; have d0:W2.cell? ⟨w1.heap.size,0,none⟩=some (.int .i64 (h1:Int)):=(cell_of_row _ _ 0 _ _ _ HN2.out); have d1:W2.cell? ⟨w1.heap.size,1,none⟩=some (.int .i64 (h2:Int)):=(cell_of_row _ _ 1 _ _ _ HN2.out); have d2:W2.cell? ⟨w1.heap.size,2,none⟩=some (.int .i64 (h3:Int)):=(cell_of_row _ _ 2 _ _ _ HN2.out))
 refine bodyPost_ret (results_cell_row rfl _ _ w.heap.size 43 _ (0,0) _ rfl (set3 HR2.out _ _ _) Tryz.underlying43 rfl sizeState) rfl ?_
 exact ⟨rfl,((HB2.out.setCell (Nat.le_refl _) _).setCell (Nat.le_refl _) _).setCell (Nat.le_refl _) _⟩
structure Z3 (w W:World) (g:Nat):Prop where
 r:W.heap[g]? = some (.cells #[.int .i64 0,.int .i64 0,.int .i64 0] 43 (0,0))
 b:Below w.heap.size w W
theorem Z3.later {w W W':World} {g:Nat} (h:Z3 w W g) (hb:Below W.heap.size W W'):Z3 w W' g:=⟨(hb.block _ (row_ltJ h.r)).trans h.r,h.b.trans (hb.mono h.b.size)⟩
theorem Z3.cells {w W:World} {g:Nat} (h:Z3 w W g):W.cell? ⟨g,0,none⟩=some (.int .i64 0)∧W.cell? ⟨g,1,none⟩=some (.int .i64 0)∧W.cell? ⟨g,2,none⟩=some (.int .i64 0)∧W.frozen? ⟨g,0,none⟩=false∧W.frozen? ⟨g,1,none⟩=false∧W.frozen? ⟨g,2,none⟩=false :=
 ⟨cell_of_row _ _ 0 _ _ _ h.r,cell_of_row _ _ 1 _ _ _ h.r,cell_of_row _ _ 2 _ _ _ h.r,frozen_of_row _ _ 0 _ _ h.r,frozen_of_row _ _ 1 _ _ h.r,frozen_of_row _ _ 2 _ _ h.r⟩
theorem z3 (w:World):Z3 w (w.alloc (.cells #[.int .i64 0,.int .i64 0,.int .i64 0] 43)) w.heap.size:=⟨heap_alloc_new w _,(Below.refl _ _).alloc (Nat.le_refl _) _⟩
section
variable {w0 w:World} {C:Nat→Nat} {K:NB} {X:XB} {i m:Nat} {zs:List Int} {N:PN} {V:PX} {A:Nat→Addr}
theorem kept_up (d h1 h2 h3:Nat) (h:ND w0 w C K i zs N m) (hu:(N.l != -2)=true) (hd:d<6) (hs:stN N d=⟨h1,h2,h3⟩) :
  Calls Tryz.prog 104 #[.pointer (some ⟨K.nd,0,none⟩),.int .i64 (d:Int)] w fun e w'=>e=.returned (agS h1 h2 h3)∧Below w.heap.size w w':=by
 obtain ⟨W,HW⟩:∃ W,Hid (w.alloc (.cells #[.int .i64 0,.int .i64 0,.int .i64 0] 43)=W):=⟨_,rfl⟩
 have HZ:Hid (Z3 w W w.heap.size):=by rw [← HW.out]; exact z3 w
 have H:=hid (h.later HZ.out.b)
 obtain ⟨c0,c1,c2⟩:=(h.later HZ.out.b).way
 have HU:=hid hu
 have HS:=hid hs
 have hW:=HW.out
 clear h hu hs
 go_enter Tryz.func104,Tryz.ntmps104
 go_wp2_with fail
 refine (power_any K.p K.q N.B N.l W H.out.sp.jp.pl).mono ?_
 rintro e w1 ⟨rfl,hx⟩
 subst w1
 rw [HU.out]
 go_wp2_with fail
 refine (known_is d h1 h2 h3 H.out.sp.jp.jr H.out.sp.sr hd HS.out).mono ?_
 rintro e w1 ⟨rfl,hb1⟩
 have HZ1:=hid (HZ.out.later hb1)
 obtain ⟨d0,d1,d2,z0,z1,z2⟩:=HZ1.out.cells
 clear hb1
 go_wp2_with fail
 refine bodyPost_ret (results_cell_row rfl _ _ w.heap.size 43 _ (0,0) _ rfl (set3 HZ1.out.r _ _ _) Tryz.underlying43 rfl sizeState) rfl ?_
 exact ⟨rfl,((HZ1.out.b.setCell (Nat.le_refl _) _).setCell (Nat.le_refl _) _).setCell (Nat.le_refl _) _⟩
theorem kept_down (d h1 h2 h3:Nat) (h:ND w0 w C K i zs N m) (hE:Held9 w A) (hz:N.B.size=512) (hu:(N.l != -2)=false) (hd:d<6) (hs:stN N d=⟨h1,h2,h3⟩) :
  Calls Tryz.prog 104 #[.pointer (some ⟨K.nd,0,none⟩),.int .i64 (d:Int)] w fun e w'=>e=.returned (agS h1 h2 h3)∧Below w.heap.size w w':=by
 obtain ⟨W,HW⟩:∃ W,Hid (w.alloc (.cells #[.int .i64 0,.int .i64 0,.int .i64 0] 43)=W):=⟨_,rfl⟩
 have HZ:Hid (Z3 w W w.heap.size):=by rw [← HW.out]; exact z3 w
 have H:=hid (h.later HZ.out.b)
 have HE:=hid (hE.later HZ.out.b)
 obtain ⟨c0,c1,c2⟩:=(h.later HZ.out.b).way
 have HU:=hid hu
 have HS:=hid hs
 have HSZ:=hid hz
 have hW:=HW.out
 clear h hu hs hE hz
 go_enter Tryz.func104,Tryz.ntmps104
 go_wp2_with fail
 refine (power_any K.p K.q N.B N.l W H.out.sp.jp.pl).mono ?_
 rintro e w1 ⟨rfl,hx⟩
 subst w1
 rw [HU.out]
 go_wp2_with (go_at_call 140; refine (pbytes_any K.p K.q N.B N.l W H.out.sp.jp.pl).mono ?_; rintro e w1 ⟨rfl,hx⟩; subst w1)
 refine (pfrom_ok N.B W (by rw [HSZ.out]; decide)).mono ?_
 rintro e w1 ⟨rfl,hp,hb1,-⟩
 have HP:=hid hp
 have HZ1:=hid (HZ.out.later hb1)
 have HE1:=hid (HE.out.later hb1)
 clear hp hb1
 go_wp2_with fail
 refine (open_ok A _ _ N.B (-1) w1 HP.out HE1.out.toE (by rw [HSZ.out]; decide) (by rw [HSZ.out]; decide) (by decide)).mono ?_
 rintro e w2 ⟨j2,rfl,hj,hb2,-⟩
 have HJ:=hid hj
 have HZ2:=hid (HZ1.out.later hb2)
 clear hj hb2
 go_wp2_with fail
 refine (get_is j2 _ d _ false h1 h2 h3 _ HJ.out hd HS.out).mono ?_
 rintro e w3 ⟨rfl,hb3⟩
 have HZ3:=hid (HZ2.out.later hb3)
 obtain ⟨W4,HW4⟩:∃ W4,Hid (w3.alloc (.cells #[.int .i64 (h1:Int),.int .i64 (h2:Int),.int .i64 (h3:Int)] 43)=W4):=⟨_,rfl⟩
 have hW4:=HW4.out
 have HZ4:Hid (Z3 w W4 w.heap.size):=by rw [← HW4.out]; exact HZ3.out.later ((Below.refl _ _).alloc (Nat.le_refl _) _)
 have HN4:Hid (W4.heap[w3.heap.size]? = some (.cells #[.int .i64 (h1:Int),.int .i64 (h2:Int),.int .i64 (h3:Int)] 43 (0,0))):=by rw [← HW4.out]; exact heap_alloc_new w3 _
 obtain ⟨d0,d1,d2,z0,z1,z2⟩:=HZ4.out.cells
 have e0:W4.cell? ⟨w3.heap.size,0,none⟩=some (.int .i64 (h1:Int)):=(cell_of_row _ _ 0 _ _ _ HN4.out)
 have e1:W4.cell? ⟨w3.heap.size,1,none⟩=some (.int .i64 (h2:Int)):=(cell_of_row _ _ 1 _ _ _ HN4.out)
 have e2:W4.cell? ⟨w3.heap.size,2,none⟩=some (.int .i64 (h3:Int)):=(cell_of_row _ _ 2 _ _ _ HN4.out)
 clear hb3
 go_wp2_with fail
 refine bodyPost_ret (results_cell_row rfl _ _ w.heap.size 43 _ (0,0) _ rfl (set3 HZ4.out.r _ _ _) Tryz.underlying43 rfl sizeState) rfl ?_
 exact ⟨rfl,((HZ4.out.b.setCell (Nat.le_refl _) _).setCell (Nat.le_refl _) _).setCell (Nat.le_refl _) _⟩
theorem kept_is (d h1 h2 h3:Nat) (h:ND w0 w C K i zs N m) (hE:Held9 w A) (hz:N.B.size=512) (hd:d<6) (hs:stN N d=⟨h1,h2,h3⟩) :
  Calls Tryz.prog 104 #[.pointer (some ⟨K.nd,0,none⟩),.int .i64 (d:Int)] w fun e w'=>e=.returned (agS h1 h2 h3)∧Below w.heap.size w w':=by
 cases hu:N.l != -2 with
 | true=>exact kept_up d h1 h2 h3 h hu hd hs
 | false=>exact kept_down d h1 h2 h3 h hE hz hu hd hs
theorem wstate_no (s d:Int) (h:WD w0 w C X zs V m) (hE:Held9 w0 A) (hs:¬ ((0≤s∧s<zs.length)∧0≤d∧d<6)) :
  Calls Tryz.prog 64 #[.pointer (some ⟨X.xb,0,none⟩),.int .i64 s,.int .i64 d] w fun e w'=>e=.returned (.tuple #[.agg #[.int .i64 0,.int .i64 0,.int .i64 0],ev A 2])∧Below w.heap.size w w':=by
 obtain ⟨W,HW⟩:∃ W,Hid (w.alloc (.cells #[.int .i64 0,.int .i64 0,.int .i64 0] 43)=W):=⟨_,rfl⟩
 have HZ:Hid (Z3 w W w.heap.size):=by rw [← HW.out]; exact z3 w
 have H:=hid (h.later HZ.out.b)
 have HE:=hid hE
 have HS:=hid hs
 have hW:=HW.out
 clear h hE hs
 go_enter Tryz.func64,Tryz.ntmps64
 go_wp2_with fail
 refine (findDeal_no s d H.out HE.out HS.out).mono ?_
 rintro e w1 ⟨rfl,hb1⟩
 have HZ1:=hid (HZ.out.later hb1)
 obtain ⟨d0,d1,d2,z0,z1,z2⟩:=HZ1.out.cells
 clear hb1
 go_wp2_with fail
 refine bodyPost_ret (results_row2 rfl _ _ w.heap.size 43 _ (0,0) _ rfl (set3 HZ1.out.r _ _ _) Tryz.underlying43 rfl sizeState) rfl ?_
 exact ⟨rfl,((HZ1.out.b.setCell (Nat.le_refl _) _).setCell (Nat.le_refl _) _).setCell (Nat.le_refl _) _⟩
theorem wstate_ok (s d h1 h2 h3:Nat) (h:WD w0 w C X zs V m) (hE:Held9 w0 A) (hs:s<zs.length) (hd:d<6) (hst:stN (V.nd s) d=⟨h1,h2,h3⟩) :
  Calls Tryz.prog 64 #[.pointer (some ⟨X.xb,0,none⟩),.int .i64 (s:Int),.int .i64 (d:Int)] w fun e w'=>e=.returned (.tuple #[agS h1 h2 h3,.nilIface])∧Below w.heap.size w w':=by
 obtain ⟨W,HW⟩:∃ W,Hid (w.alloc (.cells #[.int .i64 0,.int .i64 0,.int .i64 0] 43)=W):=⟨_,rfl⟩
 have HZ:Hid (Z3 w W w.heap.size):=by rw [← HW.out]; exact z3 w
 have H:=hid (h.later HZ.out.b)
 have HE:=hid ((h.held hE).later HZ.out.b)
 have HS:=hid hst
 have HL:=hid hs
 have hW:=HW.out
 clear h hE hst hs
 go_enter Tryz.func64,Tryz.ntmps64
 go_wp2_with fail
 refine (findDeal_ok s d H.out HL.out hd).mono ?_
 rintro e w1 ⟨rfl,hx⟩
 subst w1
 go_wp2_with fail
 refine (kept_is d h1 h2 h3 (H.out.nds s HL.out) HE.out (H.out.inv.nd s HL.out).sz hd HS.out).mono ?_
 rintro e w1 ⟨rfl,hb1⟩
 have HZ1:=hid (HZ.out.later hb1)
 obtain ⟨d0,d1,d2,z0,z1,z2⟩:=HZ1.out.cells
 clear hb1
 go_wp2_with fail
 refine bodyPost_ret (results_row2 rfl _ _ w.heap.size 43 _ (0,0) _ rfl (set3 HZ1.out.r _ _ _) Tryz.underlying43 rfl sizeState) rfl ?_
 exact ⟨rfl,((HZ1.out.b.setCell (Nat.le_refl _) _).setCell (Nat.le_refl _) _).setCell (Nat.le_refl _) _⟩
end
def heldN (N:PN) (d:Nat):Bool:=(N.ld d).isSome || !(decide ((stN N d).ph=0∧(stN N d).pr=0∧(stN N d).at_=0))
theorem heldX_any {n:Nat} {V:PX} {d i:Nat} (hi:i<n) (h:heldN (V.nd i) d=true):heldX n V d=true:=by
 unfold heldX
 rw [List.any_eq_true]
 exact ⟨i,List.mem_range.2 hi,h⟩
theorem heldX_none {n:Nat} {V:PX} {d:Nat} (h:∀ i,i<n→heldN (V.nd i) d=false):heldX n V d=false:=by
 unfold heldX
 rw [List.any_eq_false]
 intro i hi
 rw [show (((V.nd i).ld d).isSome || !(decide ((stN (V.nd i) d).ph=0∧(stN (V.nd i) d).pr=0∧(stN (V.nd i) d).at_=0)))=false from h i (List.mem_range.1 hi)]
 decide
theorem st_neI (x0 x1 x2 y0 y1 y2:Int) (w:World):(binOp .neq 43 (.agg #[.int .i64 x0,.int .i64 x1,.int .i64 x2]) (.agg #[.int .i64 y0,.int .i64 y1,.int .i64 y2])).run Tryz.prog w=.ok (.bool (!decide (x0=y0∧x1=y1∧x2=y2))) w:=by
 by_cases h0:x0=y0 <;> by_cases h1:x1=y1 <;> by_cases h2:x2=y2
 all_goals
  simp only [h0,h1,h2,and_true,and_self,and_false,decide_true,decide_false]
  go_simp
theorem st_ne0 (h1 h2 h3:Nat) (w:World):(binOp .neq 43 (agS h1 h2 h3) (.agg #[.int .i64 0,.int .i64 0,.int .i64 0])).run Tryz.prog w=.ok (.bool (!decide (h1=0∧h2=0∧h3=0))) w:=by
 rw [st_neI]
 congr 4
 exact propext (by omega)
section
variable {w0 w:World} {C:Nat→Nat} {K:NB} {X:XB} {i m:Nat} {zs:List Int} {N:PN} {V:PX} {A:Nat→Addr}
theorem isHeld_is (d:Nat) (h:WD w0 w C X zs V m) (hE:Held9 w0 A) (hd:d<6) :
  Calls Tryz.prog 55 #[.pointer (some ⟨X.xb,0,none⟩),.int .i64 (d:Int)] w fun e w'=>e=.returned (.bool (heldX zs.length V d))∧Below w.heap.size w w':=by
 obtain ⟨-,c1,-,-,-⟩:=h.cells
 have n7:=h.n7
 have H:=hid h
 have HE:=hid hE
 obtain ⟨n,hn⟩:∃ n,Hid (zs.length=n):=⟨_,rfl⟩
 rw [hn.out] at c1 n7 ⊢
 clear h hE
 go_enter Tryz.func55,Tryz.ntmps55
 go_wp2_with fail
 go_loopw [12] (fun v wr=>∃ k:Nat,k≤n∧v=.int .i64 (k:Int)∧Below w.heap.size w wr∧∀ j,j<k→heldN (V.nd j) d=false) (fun v _=>n - (intOf v).toNat)
 case atStart=>exact ⟨0,Nat.zero_le _,rfl,Below.refl _ _,fun j hj=>absurd hj (Nat.not_lt_zero _)⟩
 case round =>
  obtain ⟨k,hk,rfl,hb,hno⟩:=hrel
  rename_i wr _
  have HNo:=hid hno
  have HB:=hid hb
  have H1:=hid (H.out.later hb)
  clear hno hb
  by_cases hlt:k<n
  ·have c2:=H1.out.ns k (by rw [hn.out]; exact hlt)
   have HN:=hid (H1.out.nds k (by rw [hn.out]; exact hlt))
   have c3:=HN.out.lead hd
   have hinv:=hid (H1.out.inv.nd k (by rw [hn.out]; exact hlt))
   cases hl:(V.nd k).ld d with
   | some x =>
    rw [ldV_some hl] at c3
    have HH:Hid (heldN (V.nd k) d=true):=by unfold heldN; rw [hl]; rfl
    clear hl
    go_wp2_with fail
    go_ret
    exact ⟨by rw [heldX_any hlt HH.out]; rfl,HB.out⟩
   | none =>
    rw [ldV_none hl] at c3
    obtain ⟨⟨h1,h2,h3⟩,HS⟩:∃ x,Hid (stN (V.nd k) d=x):=⟨_,rfl⟩
    obtain ⟨b,HBn⟩:∃ b,Hid ((!decide (h1=0∧h2=0∧h3=0))=b):=⟨_,rfl⟩
    have HH:Hid (heldN (V.nd k) d=b):=by unfold heldN; rw [hl,HS.out,← HBn.out]; rfl
    have hcmp:∀ w,(binOp .neq 43 (agS h1 h2 h3) (.agg #[.int .i64 0,.int .i64 0,.int .i64 0])).run Tryz.prog w=.ok (.bool b) w:=fun w=>by rw [← HBn.out]; exact st_ne0 h1 h2 h3 w
    clear hl
    cases b with
    | true =>
     go_wp2_with (go_at_call 104; refine (kept_is d h1 h2 h3 HN.out (H1.out.held HE.out) hinv.out.sz hd HS.out).mono ?_; rintro e w2 ⟨rfl,hb2⟩; have HB2:=hid (HB.out.trans (hb2.mono HB.out.size)); clear hb2)
     go_ret
     exact ⟨by rw [heldX_any hlt HH.out]; rfl,HB2.out⟩
    | false =>
     go_wp2_with (go_at_call 104; refine (kept_is d h1 h2 h3 HN.out (H1.out.held HE.out) hinv.out.sz hd HS.out).mono ?_; rintro e w2 ⟨rfl,hb2⟩; have HB2:=hid (HB.out.trans (hb2.mono HB.out.size)); clear hb2)
     go_roundw
     case rel =>
      refine ⟨k+1,by omega,by go_num,HB2.out,fun j hj=>?_⟩
      by_cases e:j=k
      ·subst e; exact HH.out
      ·exact HNo.out j (by omega)
     case measure=>simp [intOf]; omega
  ·obtain rfl:k=n:=by omega
   have HH:=hid (heldX_none HNo.out)
   go_wp2_with fail
   go_ret
   exact ⟨by rw [HH.out]; rfl,HB.out⟩
end
end Go.Proofs.YtadhpkopkkjmfaaGreatDoor
