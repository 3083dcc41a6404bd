/-
  On the way to SPlaysProof: S7 S8 RS.
-/
import Derived.Test.YtaehdgemkafinaaGreatDoorBw12
set_option maxHeartbeats 8000000
set_option maxRecDepth 100000
namespace Go.Proofs.YtaehdgemkafinaaGreatDoor
open Go.RowKit
theorem isend_is (p:Nat) (b:Bool) (w:World) (h:finB p=b):Calls Tryz.prog 256 #[.int .i64 (p:Int)] w fun e w'=>e=.returned (.bool b)∧w'=w:=by
 subst h
 unfold finB
 by_cases h2:p=2
 ·subst h2
  go_enter Tryz.func256,Tryz.ntmps256
  go_wp2_with fail
  go_ret
  exact ⟨rfl,rfl⟩
 ·by_cases h3:p=3
  ·subst h3
   go_enter Tryz.func256,Tryz.ntmps256
   go_wp2_with fail
   go_ret
   exact ⟨rfl,rfl⟩
  ·rw [decide_eq_false (by omega)]
   have g2:¬ (p:Int)=2:=by omega
   have g3:¬ (p:Int)=3:=by omega
   go_enter Tryz.func256,Tryz.ntmps256
   go_wp2_with fail
   go_ret
   exact ⟨by simp; omega,rfl⟩
abbrev agS (h p a:Nat):Value:=.agg #[.int .i64 (h:Int),.int .i64 (p:Int),.int .i64 (a:Int)]
structure In2r (w W:World) (x y z:Int):Prop where
 a:W.heap[w.heap.size]? = some (.cells #[.int .i64 x,.int .i64 y,.int .i64 z] 80 (0,0))
 r:W.heap[w.heap.size+1]? = some (.cells #[.int .i64 0,.int .i64 0,.int .i64 0] 80 (0,0))
 b:Below w.heap.size w W
theorem in2r (w:World) (x y z:Int):In2r w ((w.alloc (.cells #[.int .i64 x,.int .i64 y,.int .i64 z] 80)).alloc (.cells #[.int .i64 0,.int .i64 0,.int .i64 0] 80)) x y z:=by
 have hs:(w.alloc (.cells #[.int .i64 x,.int .i64 y,.int .i64 z] 80)).heap.size=w.heap.size+1:=by simp
 refine ⟨?_,?_,((Below.refl _ _).alloc (Nat.le_refl _) _).alloc (by omega) _⟩
 ·rw [Below.heap_alloc _ _ _ (by omega)]; exact heap_alloc_new w _
 ·rw [← hs]; exact heap_alloc_new _ _
section
variable {w W:World} {x y z:Int}
theorem In2r.cells (h:In2r w W x y z):W.cell? ⟨w.heap.size,0,none⟩=some (.int .i64 x)∧W.cell? ⟨w.heap.size,1,none⟩=some (.int .i64 y)∧W.cell? ⟨w.heap.size,2,none⟩=some (.int .i64 z):=by
 refine ⟨?_,?_,?_⟩ <;> rw [cell_of_row _ _ _ _ _ _ h.a] <;> rfl
theorem In2r.rcells (h:In2r w W x y z):W.cell? ⟨w.heap.size+1,0,none⟩=some (.int .i64 0)∧W.cell? ⟨w.heap.size+1,1,none⟩=some (.int .i64 0)∧W.cell? ⟨w.heap.size+1,2,none⟩=some (.int .i64 0):=by
 refine ⟨?_,?_,?_⟩ <;> rw [cell_of_row _ _ _ _ _ _ h.r] <;> rfl
theorem In2r.fz (h:In2r w W x y z):W.frozen? ⟨w.heap.size,0,none⟩=false∧W.frozen? ⟨w.heap.size,1,none⟩=false∧W.frozen? ⟨w.heap.size+1,0,none⟩=false∧W.frozen? ⟨w.heap.size+1,1,none⟩=false∧W.frozen? ⟨w.heap.size+1,2,none⟩=false :=
 ⟨frozen_of_row _ _ 0 _ _ h.a,frozen_of_row _ _ 1 _ _ h.a,frozen_of_row _ _ 0 _ _ h.r,frozen_of_row _ _ 1 _ _ h.r,frozen_of_row _ _ 2 _ _ h.r⟩
theorem In2r.set (h:In2r w W x y z) (i:Nat) (v:Value):(W.setCell ⟨w.heap.size,i,none⟩ v).heap[w.heap.size+1]? = some (.cells #[.int .i64 0,.int .i64 0,.int .i64 0] 80 (0,0)):=(heap_setCell_other _ _ _ _ (by simp)).trans h.r
theorem In2r.out (h:In2r w W x y z) (a b c:Value):Below w.heap.size w (((W.setCell ⟨w.heap.size+1,0,none⟩ a).setCell ⟨w.heap.size+1,1,none⟩ b).setCell ⟨w.heap.size+1,2,none⟩ c):=((h.b.setCell (Nat.le_succ _) _).setCell (Nat.le_succ _) _).setCell (Nat.le_succ _) _
theorem In2r.out1 (h:In2r w W x y z) (i:Nat) (v a b c:Value):Below w.heap.size w ((((W.setCell ⟨w.heap.size,i,none⟩ v).setCell ⟨w.heap.size+1,0,none⟩ a).setCell ⟨w.heap.size+1,1,none⟩ b).setCell ⟨w.heap.size+1,2,none⟩ c):=(((h.b.setCell (Nat.le_refl _) _).setCell (Nat.le_succ _) _).setCell (Nat.le_succ _) _).setCell (Nat.le_succ _) _
end
theorem promise_no (sh sp sa a:Nat) (w:World) (h:¬ sp<a) :
  Calls Tryz.prog 240 #[agS sh sp sa,.int .i64 (a:Int)] w fun e w'=>e=.returned (.tuple #[agS sh sp sa,.bool false])∧Below w.heap.size w w':=by
 obtain ⟨W,HW⟩:∃ W,Hid (((w.alloc (.cells #[.int .i64 (sh:Int),.int .i64 (sp:Int),.int .i64 (sa:Int)] 80)).alloc (.cells #[.int .i64 0,.int .i64 0,.int .i64 0] 80))=W):=⟨_,rfl⟩
 have HI:Hid (In2r w W sh sp sa):=by rw [← HW.out]; exact in2r w _ _ _
 obtain ⟨c0,c1,c2⟩:=HI.out.cells
 obtain ⟨r0,r1,r2⟩:=HI.out.rcells
 obtain ⟨f0,f1,z0,z1,z2⟩:=HI.out.fz
 have hW:=HW.out
 have hi:(a:Int)≤(sp:Int):=by omega
 go_enter Tryz.func240,Tryz.ntmps240
 go_wp2_with fail
 refine bodyPost_ret (results_row2 rfl _ _ (w.heap.size+1) 80 _ (0,0) _ rfl (set3 HI.out.r _ _ _) Tryz.underlying80 rfl sizeState) rfl ?_
 exact ⟨rfl,HI.out.out _ _ _⟩
theorem promise_yes (sh sp sa a:Nat) (w:World) (h:sp<a) :
  Calls Tryz.prog 240 #[agS sh sp sa,.int .i64 (a:Int)] w fun e w'=>e=.returned (.tuple #[agS sh a sa,.bool true])∧Below w.heap.size w w':=by
 obtain ⟨W,HW⟩:∃ W,Hid (((w.alloc (.cells #[.int .i64 (sh:Int),.int .i64 (sp:Int),.int .i64 (sa:Int)] 80)).alloc (.cells #[.int .i64 0,.int .i64 0,.int .i64 0] 80))=W):=⟨_,rfl⟩
 have HI:Hid (In2r w W sh sp sa):=by rw [← HW.out]; exact in2r w _ _ _
 obtain ⟨c0,c1,c2⟩:=HI.out.cells
 obtain ⟨r0,r1,r2⟩:=HI.out.rcells
 obtain ⟨f0,f1,z0,z1,z2⟩:=HI.out.fz
 have hW:=HW.out
 have hi:¬ (a:Int)≤(sp:Int):=by omega
 go_enter Tryz.func240,Tryz.ntmps240
 go_wp2_with fail
 refine bodyPost_ret (results_row2 rfl _ _ (w.heap.size+1) 80 _ (0,0) _ rfl (set3 (HI.out.set 1 _) _ _ _) Tryz.underlying80 rfl sizeState) rfl ?_
 exact ⟨rfl,HI.out.out1 _ _ _ _ _⟩
theorem prepare_no (sh sp sa ph a:Nat) (fb:Bool) (w:World) (hf:finB sh=fb) (h:¬ (sp≤a∧fb=false)) :
  Calls Tryz.prog 241 #[agS sh sp sa,.int .i64 (ph:Int),.int .i64 (a:Int)] w fun e w'=>e=.returned (.tuple #[agS sh sp sa,.bool false])∧Below w.heap.size w w':=by
 obtain ⟨W,HW⟩:∃ W,Hid (((w.alloc (.cells #[.int .i64 (sh:Int),.int .i64 (sp:Int),.int .i64 (sa:Int)] 80)).alloc (.cells #[.int .i64 0,.int .i64 0,.int .i64 0] 80))=W):=⟨_,rfl⟩
 have HI:Hid (In2r w W sh sp sa):=by rw [← HW.out]; exact in2r w _ _ _
 obtain ⟨c0,c1,c2⟩:=HI.out.cells
 obtain ⟨r0,r1,r2⟩:=HI.out.rcells
 obtain ⟨f0,f1,z0,z1,z2⟩:=HI.out.fz
 have hW:=HW.out
 have HF:=hid hf
 clear hf
 by_cases hpa:sp≤a
 ·obtain rfl:fb=true:=by cases fb with|true=>rfl|false=>exact absurd ⟨hpa,rfl⟩ h
  clear h
  have hi:¬ (a:Int)<(sp:Int):=by omega
  go_enter Tryz.func241,Tryz.ntmps241
  go_wp2_with (go_at_call 256; (with_reducible refine (isend_is sh true _ HF.out).mono ?_); rintro e wx ⟨rfl,hx⟩; subst wx)
  refine bodyPost_ret (results_row2 rfl _ _ (w.heap.size+1) 80 _ (0,0) _ rfl (set3 HI.out.r _ _ _) Tryz.underlying80 rfl sizeState) rfl ?_
  exact ⟨rfl,HI.out.out _ _ _⟩
 ·clear h
  have hi:(a:Int)<(sp:Int):=by omega
  go_enter Tryz.func241,Tryz.ntmps241
  go_wp2_with (go_at_call 256; (with_reducible refine (isend_is sh fb _ HF.out).mono ?_); rintro e wx ⟨rfl,hx⟩; subst wx)
  refine bodyPost_ret (results_row2 rfl _ _ (w.heap.size+1) 80 _ (0,0) _ rfl (set3 HI.out.r _ _ _) Tryz.underlying80 rfl sizeState) rfl ?_
  exact ⟨rfl,HI.out.out _ _ _⟩
theorem prepare_yes (sh sp sa ph a:Nat) (w:World) (hf:finB sh=false) (h:sp≤a) :
  Calls Tryz.prog 241 #[agS sh sp sa,.int .i64 (ph:Int),.int .i64 (a:Int)] w fun e w'=>e=.returned (.tuple #[agS ph a a,.bool true])∧Below w.heap.size w w':=by
 obtain ⟨W,HW⟩:∃ W,Hid (((w.alloc (.cells #[.int .i64 (sh:Int),.int .i64 (sp:Int),.int .i64 (sa:Int)] 80)).alloc (.cells #[.int .i64 0,.int .i64 0,.int .i64 0] 80))=W):=⟨_,rfl⟩
 have HI:Hid (In2r w W sh sp sa):=by rw [← HW.out]; exact in2r w _ _ _
 obtain ⟨c0,c1,c2⟩:=HI.out.cells
 obtain ⟨r0,r1,r2⟩:=HI.out.rcells
 obtain ⟨f0,f1,z0,z1,z2⟩:=HI.out.fz
 have hW:=HW.out
 have HF:=hid hf
 clear hf
 have hi:¬ (a:Int)<(sp:Int):=by omega
 go_enter Tryz.func241,Tryz.ntmps241
 go_wp2_with (go_at_call 256; (with_reducible refine (isend_is sh false _ HF.out).mono ?_); rintro e wx ⟨rfl,hx⟩; subst wx)
 refine bodyPost_ret (results_row2 rfl _ _ (w.heap.size+1) 80 _ (0,0) _ rfl (set3 HI.out.r _ _ _) Tryz.underlying80 rfl sizeState) rfl ?_
 exact ⟨rfl,HI.out.out _ _ _⟩
theorem decide_no (sh sp sa ph:Nat) (fb fc:Bool) (w:World) (hf:finB sh=fb) (hc:finB ph=fc) (h:¬ (fc=true∧fb=false)) :
  Calls Tryz.prog 242 #[agS sh sp sa,.int .i64 (ph:Int)] w fun e w'=>e=.returned (agS sh sp sa)∧Below w.heap.size w w':=by
 obtain ⟨W,HW⟩:∃ W,Hid (((w.alloc (.cells #[.int .i64 (sh:Int),.int .i64 (sp:Int),.int .i64 (sa:Int)] 80)).alloc (.cells #[.int .i64 0,.int .i64 0,.int .i64 0] 80))=W):=⟨_,rfl⟩
 have HI:Hid (In2r w W sh sp sa):=by rw [← HW.out]; exact in2r w _ _ _
 obtain ⟨c0,c1,c2⟩:=HI.out.cells
 obtain ⟨r0,r1,r2⟩:=HI.out.rcells
 obtain ⟨f0,f1,z0,z1,z2⟩:=HI.out.fz
 have hW:=HW.out
 have HF:=hid hf
 have HC:=hid hc
 clear hf hc
 cases fc with
 | false =>
  clear h
  go_enter Tryz.func242,Tryz.ntmps242
  go_wp2_with (go_at_call 256; (with_reducible refine (isend_is ph false _ HC.out).mono ?_); rintro e wx ⟨rfl,hx⟩; subst wx)
  refine bodyPost_ret (results_cell_row rfl _ _ (w.heap.size+1) 80 _ (0,0) _ rfl (set3 HI.out.r _ _ _) Tryz.underlying80 rfl sizeState) rfl ?_
  exact ⟨rfl,HI.out.out _ _ _⟩
 | true =>
  obtain rfl:fb=true:=by cases fb with|true=>rfl|false=>exact absurd ⟨rfl,rfl⟩ h
  clear h
  go_enter Tryz.func242,Tryz.ntmps242
  go_wp2_with (go_at_call 256; first|((with_reducible refine (isend_is ph true _ HC.out).mono ?_); rintro e wx ⟨rfl,hx⟩; subst wx)|((with_reducible refine (isend_is sh true _ HF.out).mono ?_); rintro e wx ⟨rfl,hx⟩; subst wx))
  refine bodyPost_ret (results_cell_row rfl _ _ (w.heap.size+1) 80 _ (0,0) _ rfl (set3 HI.out.r _ _ _) Tryz.underlying80 rfl sizeState) rfl ?_
  exact ⟨rfl,HI.out.out _ _ _⟩
theorem decide_yes (sh sp sa ph:Nat) (w:World) (hf:finB sh=false) (hc:finB ph=true) :
  Calls Tryz.prog 242 #[agS sh sp sa,.int .i64 (ph:Int)] w fun e w'=>e=.returned (agS ph sp sa)∧Below w.heap.size w w':=by
 obtain ⟨W,HW⟩:∃ W,Hid (((w.alloc (.cells #[.int .i64 (sh:Int),.int .i64 (sp:Int),.int .i64 (sa:Int)] 80)).alloc (.cells #[.int .i64 0,.int .i64 0,.int .i64 0] 80))=W):=⟨_,rfl⟩
 have HI:Hid (In2r w W sh sp sa):=by rw [← HW.out]; exact in2r w _ _ _
 obtain ⟨c0,c1,c2⟩:=HI.out.cells
 obtain ⟨r0,r1,r2⟩:=HI.out.rcells
 obtain ⟨f0,f1,z0,z1,z2⟩:=HI.out.fz
 have hW:=HW.out
 have HF:=hid hf
 have HC:=hid hc
 clear hf hc
 go_enter Tryz.func242,Tryz.ntmps242
 go_wp2_with (go_at_call 256; first|((with_reducible refine (isend_is ph true _ HC.out).mono ?_); rintro e wx ⟨rfl,hx⟩; subst wx)|((with_reducible refine (isend_is sh false _ HF.out).mono ?_); rintro e wx ⟨rfl,hx⟩; subst wx))
 refine bodyPost_ret (results_cell_row rfl _ _ (w.heap.size+1) 80 _ (0,0) _ rfl (set3 (HI.out.set 0 _) _ _ _) Tryz.underlying80 rfl sizeState) rfl ?_
 exact ⟨rfl,HI.out.out1 _ _ _ _ _⟩
theorem row_mid (w:World) (o1 o2 o3:Obj):(((w.alloc o1).alloc o2).alloc o3).heap[w.heap.size+1]? = some o2:=by
 have hs:(w.alloc o1).heap.size=w.heap.size+1:=by simp
 rw [Below.heap_alloc _ _ _ (by simp),← hs]
 exact heap_alloc_new _ _
theorem vote_is (s j mb n d sh sp sa v:Nat) (id:Int) (R:Nat→Bool) (w:World) (h:SR w s j mb id R n) (hd:d<6) (hv:askP ⟨sh,sp,sa⟩ (R d)=v) :
  Calls Tryz.prog 239 #[.pointer (some ⟨s,0,none⟩),.int .i64 (d:Int),agS sh sp sa] w fun e w'=>e=.returned (agS v sp sa)∧Below w.heap.size w w':=by
 obtain ⟨W,HW⟩:∃ W,Hid (((w.alloc (.cells #[.int .i64 (sh:Int),.int .i64 (sp:Int),.int .i64 (sa:Int)] 80)).alloc (.cells #[.int .i64 0,.int .i64 0,.int .i64 0] 80))=W):=⟨_,rfl⟩
 have HI:Hid (In2r w W sh sp sa):=by rw [← HW.out]; exact in2r w _ _ _
 obtain ⟨c0,c1,c2⟩:=HI.out.cells
 obtain ⟨r0,r1,r2⟩:=HI.out.rcells
 obtain ⟨f0,f1,z0,z1,z2⟩:=HI.out.fz
 have hW:=HW.out
 have HV:=hid hv
 clear hv
 by_cases h0:sh=0
 ·clear c0 c1 c2 r0 r1 r2 f0 f1 z0 z1 z2 hW HI HW
  subst h0
  obtain ⟨e1,e2⟩:=h.lts
  obtain ⟨x0,x1,x2⟩:=h.cells
  obtain ⟨D,hD,hh⟩:=h.ref
  have HD:=hid hD
  have hhd:=hh d hd
  have hk:=mkeyN hd
  clear hD hh h
  cases hR:R d with
  | true =>
   rw [hR] at hhd HV
   obtain rfl:v=3:=HV.out.symm
   clear HV hR
   go_enter Tryz.func239,Tryz.ntmps239
   go_wp2_with (at_lookup; refine wpList_lookup_own_unit _ rfl _ _ 158 rfl 3 174 mlaw Tryz.underlying158 (munit _) mb n D rfl ((HD.out.alloc _).alloc _) _ _ rfl hk ?_)
   refine bodyPost_ret (results_cell_row rfl _ _ (w.heap.size+1) 80 _ (0,0) _ rfl (row_mid w _ _ _) Tryz.underlying80 rfl sizeState) rfl ?_
   exact ⟨rfl,(((Below.refl _ _).alloc (Nat.le_refl _) _).alloc (by simp) _).alloc (by simp; omega) _⟩
  | false =>
   rw [hR] at hhd HV
   obtain rfl:v=1:=HV.out.symm
   clear HV hR
   go_enter Tryz.func239,Tryz.ntmps239
   go_wp2_with (at_lookup; refine wpList_lookup_own_unit _ rfl _ _ 158 rfl 3 174 mlaw Tryz.underlying158 (munit _) mb n D rfl ((HD.out.alloc _).alloc _) _ _ rfl hk ?_)
   refine bodyPost_ret (results_cell_row rfl _ _ (w.heap.size+1) 80 _ (0,0) _ rfl (row_mid w _ _ _) Tryz.underlying80 rfl sizeState) rfl ?_
   exact ⟨rfl,(((Below.refl _ _).alloc (Nat.le_refl _) _).alloc (by simp) _).alloc (by simp; omega) _⟩
 ·have hi:¬ (sh:Int)=0:=by omega
  obtain rfl:v=sh:=by rw [← HV.out]; unfold askP; exact if_neg h0
  clear h HV
  go_enter Tryz.func239,Tryz.ntmps239
  go_wp2_with fail
  refine bodyPost_ret (results_cell_row rfl _ _ (w.heap.size+1) 80 _ (0,0) _ rfl (set3 HI.out.r _ _ _) Tryz.underlying80 rfl sizeState) rfl ?_
  exact ⟨rfl,HI.out.out _ _ _⟩
theorem results_row4 {P:Program} {fn:Func} {p u v:Tmp} {ty:TypeId} (h:fn.results=#[.cell p ty,.tmp u,.tmp v]) (tmps:Array Value) (w:World) (g:Nat) (t:TypeId) (cs:Array Value) (fr:Nat×Nat) (d:TypeDesc)
  (hp:tmps.getD p undef=.pointer (some ⟨g,0,none⟩)) (hg:w.heap[g]? = some (.cells cs t fr))
  (hu:P.underlying ty=some d) (hd:(match d with|.struct _|.array _ _=>true|_=>false)=true) (hi:(P.info? ty).map (·.size)=some cs.size) :
  (results fn tmps).run P w=.ok (.tuple #[.agg cs,tmps.getD u undef,tmps.getD v undef]) w:=by
 have hp':tmps[p]?.getD undef=.pointer (some ⟨g,0,none⟩):=by simpa using hp
 simp [results,h,hp',asAddr,run_loadVar_row w g t ty cs fr d hg hu hd hi]
structure In3r (w W:World) (f t d k a:Int) (b:Bool) (ph pr pa:Int) (x y z:Int):Prop where
 f:W.heap[w.heap.size]? = some (.cells #[.int .i64 f,.int .i64 t,.int .i64 d,.int .i64 k,.int .i64 a,.bool b,.int .i64 ph,.int .i64 pr,.int .i64 pa] 125 (0,0))
 a:W.heap[w.heap.size+1]? = some (.cells #[.int .i64 x,.int .i64 y,.int .i64 z] 80 (0,0))
 r:W.heap[w.heap.size+1+1]? = some (.cells #[.int .i64 0,.int .i64 0,.int .i64 0] 80 (0,0))
 b:Below w.heap.size w W
theorem in3r (w:World) (f t d k a:Int) (b:Bool) (ph pr pa:Int) (x y z:Int) :
  In3r w (((w.alloc (.cells #[.int .i64 f,.int .i64 t,.int .i64 d,.int .i64 k,.int .i64 a,.bool b,.int .i64 ph,.int .i64 pr,.int .i64 pa] 125)).alloc (.cells #[.int .i64 x,.int .i64 y,.int .i64 z] 80)).alloc (.cells #[.int .i64 0,.int .i64 0,.int .i64 0] 80)) f t d k a b ph pr pa x y z:=by
 obtain ⟨V,HV⟩:∃ V,w.alloc (.cells #[.int .i64 f,.int .i64 t,.int .i64 d,.int .i64 k,.int .i64 a,.bool b,.int .i64 ph,.int .i64 pr,.int .i64 pa] 125)=V:=⟨_,rfl⟩
 have hs:V.heap.size=w.heap.size+1:=by rw [← HV]; simp
 have hf:V.heap[w.heap.size]? = some (.cells #[.int .i64 f,.int .i64 t,.int .i64 d,.int .i64 k,.int .i64 a,.bool b,.int .i64 ph,.int .i64 pr,.int .i64 pa] 125 (0,0)):=by rw [← HV]; exact heap_alloc_new w _
 have hb:Below w.heap.size w V:=by rw [← HV]; exact (Below.refl _ _).alloc (Nat.le_refl _) _
 rw [HV]
 have hi:=in2r V x y z
 have h1:=hi.a
 have h2:=hi.r
 have h3:=hi.b
 rw [hs] at h1 h2 h3
 exact ⟨(h3.block _ (by omega)).trans hf,h1,h2,hb.trans (h3.mono (by omega))⟩
section
variable {w W:World} {f t d k a:Int} {b:Bool} {ph pr pa:Int} {x y z:Int}
theorem In3r.cells (h:In3r w W f t d k a b ph pr pa x y z):W.cell? ⟨w.heap.size+1,0,none⟩=some (.int .i64 x)∧W.cell? ⟨w.heap.size+1,1,none⟩=some (.int .i64 y)∧W.cell? ⟨w.heap.size+1,2,none⟩=some (.int .i64 z):=by
 refine ⟨?_,?_,?_⟩ <;> rw [cell_of_row _ _ _ _ _ _ h.a] <;> rfl
theorem In3r.rcells (h:In3r w W f t d k a b ph pr pa x y z):W.cell? ⟨w.heap.size+1+1,0,none⟩=some (.int .i64 0)∧W.cell? ⟨w.heap.size+1+1,1,none⟩=some (.int .i64 0)∧W.cell? ⟨w.heap.size+1+1,2,none⟩=some (.int .i64 0):=by
 refine ⟨?_,?_,?_⟩ <;> rw [cell_of_row _ _ _ _ _ _ h.r] <;> rfl
theorem In3r.fz (h:In3r w W f t d k a b ph pr pa x y z):W.frozen? ⟨w.heap.size+1,0,none⟩=false∧W.frozen? ⟨w.heap.size+1,1,none⟩=false∧W.frozen? ⟨w.heap.size+1,2,none⟩=false∧W.frozen? ⟨w.heap.size+1+1,0,none⟩=false∧W.frozen? ⟨w.heap.size+1+1,1,none⟩=false∧W.frozen? ⟨w.heap.size+1+1,2,none⟩=false :=
 ⟨frozen_of_row _ _ 0 _ _ h.a,frozen_of_row _ _ 1 _ _ h.a,frozen_of_row _ _ 2 _ _ h.a,frozen_of_row _ _ 0 _ _ h.r,frozen_of_row _ _ 1 _ _ h.r,frozen_of_row _ _ 2 _ _ h.r⟩
theorem In3r.later {V:World} (h:In3r w W f t d k a b ph pr pa x y z) (hb:Below W.heap.size W V):In3r w V f t d k a b ph pr pa x y z :=
 ⟨(hb.block _ (row_ltJ h.f)).trans h.f,(hb.block _ (row_ltJ h.a)).trans h.a,(hb.block _ (row_ltJ h.r)).trans h.r,h.b.trans (hb.mono h.b.size)⟩
theorem In3r.st (h:In3r w W f t d k a b ph pr pa x y z) (x' y' z':Int) :
  In3r w (((W.setCell ⟨w.heap.size+1,0,none⟩ (.int .i64 x')).setCell ⟨w.heap.size+1,1,none⟩ (.int .i64 y')).setCell ⟨w.heap.size+1,2,none⟩ (.int .i64 z')) f t d k a b ph pr pa x' y' z':=by
 refine ⟨?_,set3 h.a _ _ _,?_,((h.b.setCell (Nat.le_succ _) _).setCell (Nat.le_succ _) _).setCell (Nat.le_succ _) _⟩
 ·rw [heap_setCell_other _ _ _ _ (by simp),heap_setCell_other _ _ _ _ (by simp),heap_setCell_other _ _ _ _ (by simp)]; exact h.f
 ·rw [heap_setCell_other _ _ _ _ (by simp),heap_setCell_other _ _ _ _ (by simp),heap_setCell_other _ _ _ _ (by simp)]; exact h.r
theorem In3r.out (h:In3r w W f t d k a b ph pr pa x y z) (u v q:Value):Below w.heap.size w (((W.setCell ⟨w.heap.size+1+1,0,none⟩ u).setCell ⟨w.heap.size+1+1,1,none⟩ v).setCell ⟨w.heap.size+1+1,2,none⟩ q):=((h.b.setCell (by simp; omega) _).setCell (by simp; omega) _).setCell (by simp; omega) _
end
theorem set3d {w:World} {g:Nat} {a b c:Value} {t:TypeId} (h:w.heap[g]? = some (.cells #[a,b,c] t (0,0))) (x0 x1 x2:Value) :
  ((((w.setCell ⟨g,0,none⟩ x0).setCell ⟨g,1,none⟩ x1).setCell ⟨g,2,none⟩ x2).drew).heap[g]? = some (.cells #[x0,x1,x2] t (0,0)):=set3 h x0 x1 x2
theorem row_top (w:World) (o1 o2 o3:Obj):(((w.alloc o1).alloc o2).alloc o3).heap[w.heap.size+1+1]? = some o3:=by
 have hs:((w.alloc o1).alloc o2).heap.size=w.heap.size+1+1:=by simp
 rw [← hs]
 exact heap_alloc_new _ _
theorem prepare_z (sh sp sa ph a:Nat) (z:Int) (w:World) (hz:z=(ph:Int)) (hf:finB sh=false) (h:sp≤a) :
  Calls Tryz.prog 241 #[agS sh sp sa,.int .i64 z,.int .i64 (a:Int)] w fun e w'=>e=.returned (.tuple #[.agg #[.int .i64 z,.int .i64 (a:Int),.int .i64 (a:Int)],.bool true])∧Below w.heap.size w w':=by
 subst hz; exact prepare_yes sh sp sa ph a w hf h
theorem prepare_zn (sh sp sa ph a:Nat) (fb:Bool) (z:Int) (w:World) (hz:z=(ph:Int)) (hf:finB sh=fb) (h:¬ (sp≤a∧fb=false)) :
  Calls Tryz.prog 241 #[agS sh sp sa,.int .i64 z,.int .i64 (a:Int)] w fun e w'=>e=.returned (.tuple #[agS sh sp sa,.bool false])∧Below w.heap.size w w':=by
 subst hz; exact prepare_no sh sp sa ph a fb w hf h
section
variable (s j mb n d a ph sh sp sa:Nat) (id fr to_ pr pa:Int) (yb:Bool) (R:Nat→Bool) (w:World)
theorem step_1 (v:Nat) (y3:Bool) (h:SR w s j mb id R n) (hd:d<6) (hv:askP ⟨sh,sp,sa⟩ (R d)=v) (hy3:((v:Int) != 3)=y3) :
  Calls Tryz.prog 215 #[.pointer (some ⟨s,0,none⟩),frV fr to_ d 1 a yb ph pr pa,agS sh sp sa] w fun e w'=>e=.returned (.tuple #[agS v sp sa,.int .i64 2,.bool y3])∧Below w.heap.size w w':=by
 have HS:=hid h
 have HV:=hid hv
 clear h hv
 go_enter Tryz.func215,Tryz.ntmps215
 go_wp2_with (go_at_call 239; (with_reducible refine (vote_is s j mb n d sh sp sa v id R _ (HS.out.later (in3r w _ _ _ _ _ _ _ _ _ _ _ _).b) hd HV.out).mono ?_); rintro e w1 ⟨rfl,hb1⟩; have HI1:=hid ((in3r w _ _ _ _ _ _ _ _ _ _ _ _).later hb1); clear hb1; obtain ⟨c0,c1,c2⟩:=HI1.out.cells; obtain ⟨r0,r1,r2⟩:=HI1.out.rcells; obtain ⟨z0,z1,z2,z3,z4,z5⟩:=HI1.out.fz)
 have HI2:=hid (HI1.out.st (v:Int) (sp:Int) (sa:Int))
 go_region
 all_goals go_wp2_with fail
 all_goals refine bodyPost_ret (results_row4 rfl _ _ (w.heap.size+1+1) 80 _ (0,0) _ rfl (set3d HI2.out.r _ _ _) Tryz.underlying80 rfl sizeState) rfl ?_
 all_goals exact ⟨rfl,(HI2.out.out _ _ _).drew⟩
theorem step_3y (hpa:sp<a) :
  Calls Tryz.prog 215 #[.pointer (some ⟨s,0,none⟩),frV fr to_ d 3 a yb ph pr pa,agS sh sp sa] w fun e w'=>e=.returned (.tuple #[agS sh a sa,.int .i64 4,.bool true])∧Below w.heap.size w w':=by
 go_enter Tryz.func215,Tryz.ntmps215
 go_wp2_with (go_at_call 240; (with_reducible refine (promise_yes sh sp sa a _ hpa).mono ?_); rintro e w1 ⟨rfl,hb1⟩; have HI1:=hid ((in3r w _ _ _ _ _ _ _ _ _ _ _ _).later hb1); clear hb1; obtain ⟨c0,c1,c2⟩:=HI1.out.cells; obtain ⟨r0,r1,r2⟩:=HI1.out.rcells; obtain ⟨z0,z1,z2,z3,z4,z5⟩:=HI1.out.fz)
 have HI2:=hid (HI1.out.st (sh:Int) (a:Int) (sa:Int))
 refine bodyPost_ret (results_row4 rfl _ _ (w.heap.size+1+1) 80 _ (0,0) _ rfl (set3 HI2.out.r _ _ _) Tryz.underlying80 rfl sizeState) rfl ?_
 exact ⟨rfl,HI2.out.out _ _ _⟩
theorem step_3n (hpa:¬ sp<a) :
  Calls Tryz.prog 215 #[.pointer (some ⟨s,0,none⟩),frV fr to_ d 3 a yb ph pr pa,agS sh sp sa] w fun e w'=>e=.returned (.tuple #[agS sh sp sa,.int .i64 4,.bool false])∧Below w.heap.size w w':=by
 go_enter Tryz.func215,Tryz.ntmps215
 go_wp2_with (go_at_call 240; (with_reducible refine (promise_no sh sp sa a _ hpa).mono ?_); rintro e w1 ⟨rfl,hb1⟩; have HI1:=hid ((in3r w _ _ _ _ _ _ _ _ _ _ _ _).later hb1); clear hb1; obtain ⟨c0,c1,c2⟩:=HI1.out.cells; obtain ⟨r0,r1,r2⟩:=HI1.out.rcells; obtain ⟨z0,z1,z2,z3,z4,z5⟩:=HI1.out.fz)
 have HI2:=hid (HI1.out.st (sh:Int) (sp:Int) (sa:Int))
 refine bodyPost_ret (results_row4 rfl _ _ (w.heap.size+1+1) 80 _ (0,0) _ rfl (set3 HI2.out.r _ _ _) Tryz.underlying80 rfl sizeState) rfl ?_
 exact ⟨rfl,HI2.out.out _ _ _⟩
theorem step_5n (hph:¬ (ph=4 ∨ ph=5)) :
  Calls Tryz.prog 215 #[.pointer (some ⟨s,0,none⟩),frV fr to_ d 5 a yb ph pr pa,agS sh sp sa] w fun e w'=>e=.returned (.tuple #[agS sh sp sa,.int .i64 0,.bool false])∧Below w.heap.size w w':=by
 have hp4:¬ (ph:Int)=4:=by omega
 have hp5:¬ (ph:Int)=5:=by omega
 have e4:((ph:Int) != 4)=true:=bne_iff_ne.2 hp4
 have e5:((ph:Int) != 5)=true:=bne_iff_ne.2 hp5
 clear hph
 go_enter Tryz.func215,Tryz.ntmps215
 go_wp2_with fail
 refine bodyPost_ret (results_row4 rfl _ _ (w.heap.size+1+1) 80 _ (0,0) _ rfl (row_top w _ _ _) Tryz.underlying80 rfl sizeState) rfl ?_
 exact ⟨rfl,(((Below.refl _ _).alloc (Nat.le_refl _) _).alloc (by simp) _).alloc (by simp; omega) _⟩
theorem step_7y (hf:finB sh=false) (hc:finB ph=true) :
  Calls Tryz.prog 215 #[.pointer (some ⟨s,0,none⟩),frV fr to_ d 7 a yb ph pr pa,agS sh sp sa] w fun e w'=>e=.returned (.tuple #[agS ph sp sa,.int .i64 0,.bool false])∧Below w.heap.size w w':=by
 have HF:=hid hf
 have HC:=hid hc
 clear hf hc
 go_enter Tryz.func215,Tryz.ntmps215
 go_wp2_with (go_at_call 242; (with_reducible refine (decide_yes sh sp sa ph _ HF.out HC.out).mono ?_); rintro e w1 ⟨rfl,hb1⟩; have HI1:=hid ((in3r w _ _ _ _ _ _ _ _ _ _ _ _).later hb1); clear hb1; obtain ⟨c0,c1,c2⟩:=HI1.out.cells; obtain ⟨r0,r1,r2⟩:=HI1.out.rcells; obtain ⟨z0,z1,z2,z3,z4,z5⟩:=HI1.out.fz)
 refine bodyPost_ret (results_row4 rfl _ _ (w.heap.size+1+1) 80 _ (0,0) _ rfl (set3 HI1.out.r _ _ _) Tryz.underlying80 rfl sizeState) rfl ?_
 exact ⟨rfl,HI1.out.out _ _ _⟩
theorem step_7n (fb fc:Bool) (hf:finB sh=fb) (hc:finB ph=fc) (h:¬ (fc=true∧fb=false)) :
  Calls Tryz.prog 215 #[.pointer (some ⟨s,0,none⟩),frV fr to_ d 7 a yb ph pr pa,agS sh sp sa] w fun e w'=>e=.returned (.tuple #[agS sh sp sa,.int .i64 0,.bool false])∧Below w.heap.size w w':=by
 have HF:=hid hf
 have HC:=hid hc
 have HN:=hid h
 clear hf hc h
 go_enter Tryz.func215,Tryz.ntmps215
 go_wp2_with (go_at_call 242; (with_reducible refine (decide_no sh sp sa ph fb fc _ HF.out HC.out HN.out).mono ?_); rintro e w1 ⟨rfl,hb1⟩; have HI1:=hid ((in3r w _ _ _ _ _ _ _ _ _ _ _ _).later hb1); clear hb1; obtain ⟨c0,c1,c2⟩:=HI1.out.cells; obtain ⟨r0,r1,r2⟩:=HI1.out.rcells; obtain ⟨z0,z1,z2,z3,z4,z5⟩:=HI1.out.fz)
 refine bodyPost_ret (results_row4 rfl _ _ (w.heap.size+1+1) 80 _ (0,0) _ rfl (set3 HI1.out.r _ _ _) Tryz.underlying80 rfl sizeState) rfl ?_
 exact ⟨rfl,HI1.out.out _ _ _⟩
theorem step_5y_4 (hf:finB sh=false) (h:sp≤a) :
  Calls Tryz.prog 215 #[.pointer (some ⟨s,0,none⟩),frV fr to_ d 5 a yb 4 pr pa,agS sh sp sa] w fun e w'=>e=.returned (.tuple #[.agg #[.int .i64 4,.int .i64 (a:Int),.int .i64 (a:Int)],.int .i64 6,.bool true])∧Below w.heap.size w w':=by
 have HF:=hid hf
 clear hf
 go_enter Tryz.func215,Tryz.ntmps215
 go_wp2_with (go_at_call 241; (with_reducible refine (prepare_z sh sp sa 4 a 4 _ rfl HF.out h).mono ?_); rintro e w1 ⟨rfl,hb1⟩; have HI1:=hid ((in3r w _ _ _ _ _ _ _ _ _ _ _ _).later hb1); clear hb1; obtain ⟨c0,c1,c2⟩:=HI1.out.cells; obtain ⟨r0,r1,r2⟩:=HI1.out.rcells; obtain ⟨z0,z1,z2,z3,z4,z5⟩:=HI1.out.fz)
 have HI2:=hid (HI1.out.st 4 (a:Int) (a:Int))
 refine bodyPost_ret (results_row4 rfl _ _ (w.heap.size+1+1) 80 _ (0,0) _ rfl (set3 HI2.out.r _ _ _) Tryz.underlying80 rfl sizeState) rfl ?_
 exact ⟨rfl,HI2.out.out _ _ _⟩
theorem step_5z_4 (fb:Bool) (hf:finB sh=fb) (h:¬ (sp≤a∧fb=false)) :
  Calls Tryz.prog 215 #[.pointer (some ⟨s,0,none⟩),frV fr to_ d 5 a yb 4 pr pa,agS sh sp sa] w fun e w'=>e=.returned (.tuple #[agS sh sp sa,.int .i64 6,.bool false])∧Below w.heap.size w w':=by
 have HF:=hid hf
 have HN:=hid h
 clear hf h
 go_enter Tryz.func215,Tryz.ntmps215
 go_wp2_with (go_at_call 241; (with_reducible refine (prepare_zn sh sp sa 4 a fb 4 _ rfl HF.out HN.out).mono ?_); rintro e w1 ⟨rfl,hb1⟩; have HI1:=hid ((in3r w _ _ _ _ _ _ _ _ _ _ _ _).later hb1); clear hb1; obtain ⟨c0,c1,c2⟩:=HI1.out.cells; obtain ⟨r0,r1,r2⟩:=HI1.out.rcells; obtain ⟨z0,z1,z2,z3,z4,z5⟩:=HI1.out.fz)
 have HI2:=hid (HI1.out.st (sh:Int) (sp:Int) (sa:Int))
 refine bodyPost_ret (results_row4 rfl _ _ (w.heap.size+1+1) 80 _ (0,0) _ rfl (set3 HI2.out.r _ _ _) Tryz.underlying80 rfl sizeState) rfl ?_
 exact ⟨rfl,HI2.out.out _ _ _⟩
theorem step_5y_5 (hf:finB sh=false) (h:sp≤a) :
  Calls Tryz.prog 215 #[.pointer (some ⟨s,0,none⟩),frV fr to_ d 5 a yb 5 pr pa,agS sh sp sa] w fun e w'=>e=.returned (.tuple #[.agg #[.int .i64 5,.int .i64 (a:Int),.int .i64 (a:Int)],.int .i64 6,.bool true])∧Below w.heap.size w w':=by
 have HF:=hid hf
 clear hf
 go_enter Tryz.func215,Tryz.ntmps215
 go_wp2_with (go_at_call 241; (with_reducible refine (prepare_z sh sp sa 5 a 5 _ rfl HF.out h).mono ?_); rintro e w1 ⟨rfl,hb1⟩; have HI1:=hid ((in3r w _ _ _ _ _ _ _ _ _ _ _ _).later hb1); clear hb1; obtain ⟨c0,c1,c2⟩:=HI1.out.cells; obtain ⟨r0,r1,r2⟩:=HI1.out.rcells; obtain ⟨z0,z1,z2,z3,z4,z5⟩:=HI1.out.fz)
 have HI2:=hid (HI1.out.st 5 (a:Int) (a:Int))
 refine bodyPost_ret (results_row4 rfl _ _ (w.heap.size+1+1) 80 _ (0,0) _ rfl (set3 HI2.out.r _ _ _) Tryz.underlying80 rfl sizeState) rfl ?_
 exact ⟨rfl,HI2.out.out _ _ _⟩
theorem step_5z_5 (fb:Bool) (hf:finB sh=fb) (h:¬ (sp≤a∧fb=false)) :
  Calls Tryz.prog 215 #[.pointer (some ⟨s,0,none⟩),frV fr to_ d 5 a yb 5 pr pa,agS sh sp sa] w fun e w'=>e=.returned (.tuple #[agS sh sp sa,.int .i64 6,.bool false])∧Below w.heap.size w w':=by
 have HF:=hid hf
 have HN:=hid h
 clear hf h
 go_enter Tryz.func215,Tryz.ntmps215
 go_wp2_with (go_at_call 241; (with_reducible refine (prepare_zn sh sp sa 5 a fb 5 _ rfl HF.out HN.out).mono ?_); rintro e w1 ⟨rfl,hb1⟩; have HI1:=hid ((in3r w _ _ _ _ _ _ _ _ _ _ _ _).later hb1); clear hb1; obtain ⟨c0,c1,c2⟩:=HI1.out.cells; obtain ⟨r0,r1,r2⟩:=HI1.out.rcells; obtain ⟨z0,z1,z2,z3,z4,z5⟩:=HI1.out.fz)
 have HI2:=hid (HI1.out.st (sh:Int) (sp:Int) (sa:Int))
 refine bodyPost_ret (results_row4 rfl _ _ (w.heap.size+1+1) 80 _ (0,0) _ rfl (set3 HI2.out.r _ _ _) Tryz.underlying80 rfl sizeState) rfl ?_
 exact ⟨rfl,HI2.out.out _ _ _⟩
theorem step_n2 :
  Calls Tryz.prog 215 #[.pointer (some ⟨s,0,none⟩),frV fr to_ d 2 a yb ph pr pa,agS sh sp sa] w fun e w'=>e=.returned (.tuple #[agS sh sp sa,.int .i64 0,.bool false])∧Below w.heap.size w w':=by
 go_enter Tryz.func215,Tryz.ntmps215
 go_wp2_with fail
 refine bodyPost_ret (results_row4 rfl _ _ (w.heap.size+1+1) 80 _ (0,0) _ rfl (row_top w _ _ _) Tryz.underlying80 rfl sizeState) rfl ?_
 exact ⟨rfl,(((Below.refl _ _).alloc (Nat.le_refl _) _).alloc (by simp) _).alloc (by simp; omega) _⟩
theorem step_n4 :
  Calls Tryz.prog 215 #[.pointer (some ⟨s,0,none⟩),frV fr to_ d 4 a yb ph pr pa,agS sh sp sa] w fun e w'=>e=.returned (.tuple #[agS sh sp sa,.int .i64 0,.bool false])∧Below w.heap.size w w':=by
 go_enter Tryz.func215,Tryz.ntmps215
 go_wp2_with fail
 refine bodyPost_ret (results_row4 rfl _ _ (w.heap.size+1+1) 80 _ (0,0) _ rfl (row_top w _ _ _) Tryz.underlying80 rfl sizeState) rfl ?_
 exact ⟨rfl,(((Below.refl _ _).alloc (Nat.le_refl _) _).alloc (by simp) _).alloc (by simp; omega) _⟩
theorem step_n6 :
  Calls Tryz.prog 215 #[.pointer (some ⟨s,0,none⟩),frV fr to_ d 6 a yb ph pr pa,agS sh sp sa] w fun e w'=>e=.returned (.tuple #[agS sh sp sa,.int .i64 0,.bool false])∧Below w.heap.size w w':=by
 go_enter Tryz.func215,Tryz.ntmps215
 go_wp2_with fail
 refine bodyPost_ret (results_row4 rfl _ _ (w.heap.size+1+1) 80 _ (0,0) _ rfl (row_top w _ _ _) Tryz.underlying80 rfl sizeState) rfl ?_
 exact ⟨rfl,(((Below.refl _ _).alloc (Nat.le_refl _) _).alloc (by simp) _).alloc (by simp; omega) _⟩
theorem step_is (k:Nat) (g:HOut) (h:SR w s j mb id R n) (hd:d<6) (hk:1≤k∧k≤7) (hg:hearL ⟨sh,sp,sa⟩ (R d) k a ph=g) :
  Calls Tryz.prog 215 #[.pointer (some ⟨s,0,none⟩),frV fr to_ d k a yb ph pr pa,agS sh sp sa] w fun e w'=>e=.returned (.tuple #[agS g.st.ph g.st.pr g.st.at_,.int .i64 (g.k:Int),.bool g.yes])∧Below w.heap.size w w':=by
 subst hg
 rcases (by omega:k=1 ∨ k=3 ∨ k=5 ∨ k=7 ∨ k=2 ∨ k=4 ∨ k=6) with rfl|rfl|rfl|rfl|rfl|rfl|rfl
 ·have e3:((askP ⟨sh,sp,sa⟩ (R d):Int) != 3)=decide (askP ⟨sh,sp,sa⟩ (R d)≠3):=by
   rw [Bool.eq_iff_iff]; simp; omega
  exact step_1 s j mb n d a ph sh sp sa id fr to_ pr pa yb R w _ _ h hd rfl e3
 ·by_cases hpa:sp<a
  ·rw [show hearL ⟨sh,sp,sa⟩ (R d) 3 a ph=⟨⟨sh,a,sa⟩,4,true⟩ by simp [hearL,hpa]]
   exact step_3y s d a ph sh sp sa fr to_ pr pa yb w hpa
  ·rw [show hearL ⟨sh,sp,sa⟩ (R d) 3 a ph=⟨⟨sh,sp,sa⟩,4,false⟩ by simp [hearL,hpa]]
   exact step_3n s d a ph sh sp sa fr to_ pr pa yb w hpa
 ·by_cases hph:ph=4 ∨ ph=5
  ·by_cases hpa:sp≤a∧finB sh=false
   ·rw [show hearL ⟨sh,sp,sa⟩ (R d) 5 a ph=⟨⟨ph,a,a⟩,6,true⟩ by simp [hearL,hph,hpa]]
    rcases hph with rfl|rfl
    ·exact step_5y_4 s d a sh sp sa fr to_ pr pa yb w hpa.2 hpa.1
    ·exact step_5y_5 s d a sh sp sa fr to_ pr pa yb w hpa.2 hpa.1
   ·rw [show hearL ⟨sh,sp,sa⟩ (R d) 5 a ph=⟨⟨sh,sp,sa⟩,6,false⟩ by unfold hearL; rw [if_neg (by decide),if_neg (by decide),if_pos (by decide),if_pos hph,if_neg hpa]]
    rcases hph with rfl|rfl
    ·exact step_5z_4 s d a sh sp sa fr to_ pr pa yb w _ rfl hpa
    ·exact step_5z_5 s d a sh sp sa fr to_ pr pa yb w _ rfl hpa
  ·rw [show hearL ⟨sh,sp,sa⟩ (R d) 5 a ph=⟨⟨sh,sp,sa⟩,0,false⟩ by simp [hearL,hph]]
   exact step_5n s d a ph sh sp sa fr to_ pr pa yb w hph
 ·by_cases hc:finB ph=true∧finB sh=false
  ·rw [show hearL ⟨sh,sp,sa⟩ (R d) 7 a ph=⟨⟨ph,sp,sa⟩,0,false⟩ by simp [hearL,hc]]
   exact step_7y s d a ph sh sp sa fr to_ pr pa yb w hc.2 hc.1
  ·rw [show hearL ⟨sh,sp,sa⟩ (R d) 7 a ph=⟨⟨sh,sp,sa⟩,0,false⟩ by unfold hearL; rw [if_neg (by decide),if_neg (by decide),if_neg (by decide),if_pos (by decide),if_neg hc]]
   exact step_7n s d a ph sh sp sa fr to_ pr pa yb w _ _ rfl rfl hc
 ·exact step_n2 s d a ph sh sp sa fr to_ pr pa yb w
 ·exact step_n4 s d a ph sh sp sa fr to_ pr pa yb w
 ·exact step_n6 s d a ph sh sp sa fr to_ pr pa yb w
end
def In4 (m gn gs r k:Nat):Prop:=k=m ∨ k=gn ∨ k=gs ∨ k=r
structure RK (w:World) (m gn gs r:Nat) (E:Nat→Nat×St) (dead:Bool) (B:ByteArray) (l:Int):Prop where
 rj:RJ w m gn gs r E dead
 rp:∃ off l' cuts,RP w r B off l' cuts∧Lk l off l' cuts
 rm:r≠m
 rn:r≠gn
 rs:r≠gs
 sz:B.size≤1000
 s6:216≤B.size
section
variable {w w':World} {m gn gs r:Nat} {E:Nat→Nat×St} {dead:Bool} {B B':ByteArray} {l l':Int}
theorem RJ.kept {S:Nat→Prop} (h:RJ w m gn gs r E dead) (k:Kept S w w') (h1:¬ S m) (h2:¬ S gn) (h3:¬ S gs):RJ w' m gn gs r E dead:=by
 obtain ⟨⟨cn,cs,r1⟩,⟨N,n1,n2⟩,⟨T,t1,t2⟩,a,b,c⟩:=h
 exact ⟨⟨cn,cs,k.row r1 h1⟩,⟨N,k.row n1 h2,n2⟩,⟨T,k.row t1 h3,t2⟩,a,b,c⟩
theorem RK.kept {S:Nat→Prop} (h:RK w m gn gs r E dead B l) (k:Kept S w w') (h1:¬ S m) (h2:¬ S gn) (h3:¬ S gs) (h4:¬ S r):RK w' m gn gs r E dead B l:=by
 obtain ⟨off,l',cuts,p1,p2⟩:=h.rp
 exact ⟨h.rj.kept k h1 h2 h3,⟨off,l',cuts,p1.kept k h4,p2⟩,h.rm,h.rn,h.rs,h.sz,h.s6⟩
theorem RK.later (h:RK w m gn gs r E dead B l) (hb:Below w.heap.size w w'):RK w' m gn gs r E dead B l:=h.kept (S:=fun _=>False) (Kept.of_below hb) (fun x=>x) (fun x=>x) (fun x=>x) (fun x=>x)
theorem RK.drew (h:RK w m gn gs r E dead B l):RK w.drew m gn gs r E dead B l:=h.later (Below.refl _ _).drew
theorem RK.lts (h:RK w m gn gs r E dead B l):m<w.heap.size∧gn<w.heap.size∧gs<w.heap.size∧r<w.heap.size:=by
 obtain ⟨⟨⟨cn,cs,r1⟩,⟨N,n1,_⟩,⟨T,t1,_⟩,_,_,_⟩,⟨off,l',cuts,p1,_⟩,_,_,_,_,_⟩:=h
 exact ⟨row_ltJ r1,row_ltJ n1,row_ltJ t1,row_ltJ p1⟩
theorem RK.bytes (h:RK w m gn gs r E dead B l):w.cell? ⟨r,0,none⟩=some (.string B):=by
 obtain ⟨off,l',cuts,p1,_⟩:=h.rp
 exact p1.c0
theorem RK.cells (h:RK w m gn gs r E dead B l):∃ cn cs,w.cell? ⟨m,0,none⟩=some (.pointer (some ⟨r,0,none⟩))∧w.cell? ⟨m,1,none⟩=some (.slice (some ⟨gn,0,none⟩) 6 cn)∧w.cell? ⟨m,2,none⟩=some (.slice (some ⟨gs,0,none⟩) 6 cs)∧w.cell? ⟨m,3,none⟩=some (.bool dead)∧w.frozen? ⟨m,3,none⟩=false:=by
 obtain ⟨cn,cs,r1⟩:=h.rj.row
 refine ⟨cn,cs,?_,?_,?_,?_,frozen_of_row w m 3 _ _ r1⟩
 all_goals rw [cell_of_row _ _ _ _ _ _ r1]; rfl
theorem RK.num (h:RK w m gn gs r E dead B l) {d:Nat} (hd:d<6):w.cell? ⟨gn,d,none⟩=some (.int .i64 ((E d).1:Int))∧w.frozen? ⟨gn,d,none⟩=false:=by
 obtain ⟨N,n1,n2⟩:=h.rj.nums
 exact ⟨by rw [cell_of_row _ _ _ _ _ _ n1]; exact n2 d hd,frozen_of_row w gn d _ _ n1⟩
theorem RK.st (h:RK w m gn gs r E dead B l) {d:Nat} (hd:d<6):w.cell? ⟨gs,d * 3,none⟩=some (.int .i64 ((E d).2.ph:Int))∧w.cell? ⟨gs,d * 3+1,none⟩=some (.int .i64 ((E d).2.pr:Int))∧w.cell? ⟨gs,d * 3+2,none⟩=some (.int .i64 ((E d).2.at_:Int))∧(∀ i,w.frozen? ⟨gs,i,none⟩=false):=by
 obtain ⟨T,t1,t2⟩:=h.rj.sts
 obtain ⟨a,b,c⟩:=t2 d hd
 refine ⟨?_,?_,?_,fun i=>frozen_of_row w gs i _ _ t1⟩
 all_goals (rw [cell_of_row _ _ _ _ _ _ t1]; assumption)
theorem write_rk (s:ByteArray) (a:Int) (c:Nat) (h:RK w m gn gs r E dead B l) (hc:wC B s l a=c) :
  Calls Tryz.prog 210 #[.pointer (some ⟨r,0,none⟩),.int .i64 a,.string s] w fun e w'=>e=.returned (.int .i64 (c:Int))∧RK w' m gn gs r E dead (wB B s l a) (wL B s l a)∧Kept (In4 m gn gs r) w w':=by
 rw [← hc]
 obtain ⟨off,l',cuts,p1,p2⟩:=h.rp
 refine (write_rp r B s l a l' off cuts w p1 p2 h.sz).mono ?_
 rintro e w' ⟨rfl,hx,hk⟩
 refine ⟨rfl,⟨h.rj.kept hk (fun e=>h.rm e.symm) (fun e=>h.rn e.symm) (fun e=>h.rs e.symm),hx,h.rm,h.rn,h.rs,by rw [wB_size]; exact h.sz,by rw [wB_size]; exact h.s6⟩,hk.mono (fun k e=>.inr (.inr (.inr e)))⟩
theorem error_rk (a n:Int) (c:Nat) (h:RK w m gn gs r E dead B l) (hc:rC B l a n=c) :
  Calls Tryz.prog 209 #[.pointer (some ⟨r,0,none⟩),.int .i64 a,.int .i64 n] w fun e w'=>e=.returned (.int .i64 (c:Int))∧w'=w:=by
 rw [← hc]
 obtain ⟨off,l',cuts,p1,p2⟩:=h.rp
 exact err_rp r B l a n l' off cuts w p1 p2 h.sz
theorem RK.die (h:RK w m gn gs r E dead B l):RK (w.setCell ⟨m,3,none⟩ (.bool true)) m gn gs r E true B l∧Kept (In4 m gn gs r) w (w.setCell ⟨m,3,none⟩ (.bool true)):=by
 have hk:Kept (In1 m) w (w.setCell ⟨m,3,none⟩ (.bool true)):=(Kept.refl _ _).set1 3 _
 obtain ⟨⟨⟨cn,cs,r1⟩,⟨N,n1,n2⟩,⟨T,t1,t2⟩,a,b,c⟩,⟨off,l',cuts,p1,p2⟩,rm,rn,rs,sz,s6⟩:=h
 refine ⟨⟨⟨⟨cn,cs,?_⟩,⟨N,hk.row n1 (fun e=>a e.symm),n2⟩,⟨T,hk.row t1 (fun e=>b e.symm),t2⟩,a,b,c⟩,⟨off,l',cuts,p1.kept hk (fun e=>rm e),p2⟩,rm,rn,rs,sz,s6⟩,hk.mono (fun k e=>.inl e)⟩
 exact heap_setCell_same w m 3 _ _ _ r1
theorem RK.put (h:RK w m gn gs r E dead B l) {d:Nat} (hd:d<6) (n:Nat) (s:St) (z:Int) (hz:z=(n:Int)) :
  RK ((((w.setCell ⟨gn,d,none⟩ (.int .i64 z)).setCell ⟨gs,d * 3,none⟩ (.int .i64 (s.ph:Int))).setCell ⟨gs,d * 3+1,none⟩ (.int .i64 (s.pr:Int))).setCell ⟨gs,d * 3+2,none⟩ (.int .i64 (s.at_:Int))) m gn gs r (updE E d (n,s)) dead B l ∧
   Kept (In4 m gn gs r) w ((((w.setCell ⟨gn,d,none⟩ (.int .i64 z)).setCell ⟨gs,d * 3,none⟩ (.int .i64 (s.ph:Int))).setCell ⟨gs,d * 3+1,none⟩ (.int .i64 (s.pr:Int))).setCell ⟨gs,d * 3+2,none⟩ (.int .i64 (s.at_:Int))):=by
 subst hz
 have k1:Kept (In1 gn) w (w.setCell ⟨gn,d,none⟩ (.int .i64 (n:Int))):=(Kept.refl _ _).set1 d _
 have k2:Kept (In1 gs) (w.setCell ⟨gn,d,none⟩ (.int .i64 (n:Int))) ((((w.setCell ⟨gn,d,none⟩ (.int .i64 (n:Int))).setCell ⟨gs,d * 3,none⟩ (.int .i64 (s.ph:Int))).setCell ⟨gs,d * 3+1,none⟩ (.int .i64 (s.pr:Int))).setCell ⟨gs,d * 3+2,none⟩ (.int .i64 (s.at_:Int))):=(((Kept.refl _ _).set1 (d * 3) _).set1 (d * 3+1) _).set1 (d * 3+2) _
 obtain ⟨⟨⟨cn,cs,r1⟩,⟨N,n1,n2⟩,⟨T,t1,t2⟩,a,b,c⟩,⟨off,l',cuts,p1,p2⟩,rm,rn,rs,sz,s6⟩:=h
 refine ⟨⟨⟨⟨cn,cs,k2.row (k1.row r1 a) b⟩,⟨N.setIfInBounds d (.int .i64 (n:Int)),k2.row (heap_setCell_same w gn d _ _ _ n1) c,?_⟩,⟨((T.setIfInBounds (d * 3) (.int .i64 (s.ph:Int))).setIfInBounds (d * 3+1) (.int .i64 (s.pr:Int))).setIfInBounds (d * 3+2) (.int .i64 (s.at_:Int)),?_,?_⟩,a,b,c⟩,⟨off,l',cuts,(p1.kept k1 rn).kept k2 rs,p2⟩,rm,rn,rs,sz,s6⟩,(k1.mono (fun k e=>.inr (.inl e))).trans (k2.mono (fun k e=>.inr (.inr (.inl e))))⟩
 ·intro e he
  unfold updE
  rw [Array.getElem?_setIfInBounds]
  have hl:∀ i x,N[i]? = some x→i<N.size:=fun i x hx=>(Array.getElem?_eq_some_iff.1 hx).1
  by_cases h1:d=e
  ·subst h1
   rw [if_pos rfl,if_pos (hl _ _ (n2 d hd)),if_pos rfl]
  ·rw [if_neg h1,n2 e he,if_neg (fun g=>h1 g.symm)]
 ·have q1:=heap_setCell_same (w.setCell ⟨gn,d,none⟩ (.int .i64 (n:Int))) gs (d * 3) T _ (.int .i64 (s.ph:Int)) (k1.row t1 (fun e=>c e.symm))
  have q2:=heap_setCell_same _ gs (d * 3+1) _ _ (.int .i64 (s.pr:Int)) q1
  exact heap_setCell_same _ gs (d * 3+2) _ _ (.int .i64 (s.at_:Int)) q2
 ·intro e he
  unfold updE
  have hl:∀ i x,T[i]? = some x→i<T.size:=fun i x hx=>(Array.getElem?_eq_some_iff.1 hx).1
  obtain ⟨u0,u1,u2⟩:=t2 e he
  have l0:=hl _ _ u0
  have l1:=hl _ _ u1
  have l2:=hl _ _ u2
  simp only [Array.getElem?_setIfInBounds,Array.size_setIfInBounds]
  by_cases h1:e=d
  ·subst h1
   rw [show (if e=e then (n,s) else E e)=(n,s) from if_pos rfl]
   refine ⟨?_,?_,?_⟩
   ·rw [if_neg (by omega),if_neg (by omega),if_pos rfl,if_pos l0]
   ·rw [if_neg (by omega),if_pos rfl,if_pos l1]
   ·rw [if_pos rfl,if_pos l2]
  ·rw [show (if e=d then (n,s) else E e)=E e from if_neg h1]
   refine ⟨?_,?_,?_⟩
   ·rw [if_neg (by omega),if_neg (by omega),if_neg (by omega)]; exact u0
   ·rw [if_neg (by omega),if_neg (by omega),if_neg (by omega)]; exact u1
   ·rw [if_neg (by omega),if_neg (by omega),if_neg (by omega)]; exact u2
end
end Go.Proofs.YtaehdgemkafinaaGreatDoor
namespace Go.Proofs.YtaehdgemkafinaaGreatDoor
open Go.RowKit
section
variable {w:World} {m gn gs r:Nat} {E:Nat→Nat×St} {B:ByteArray} {l:Int}
theorem rput_over (d ph pr a:Int) (h:RK w m gn gs r E true B l) :
  Calls Tryz.prog 182 #[.pointer (some ⟨m,0,none⟩),.int .i64 d,.agg #[.int .i64 ph,.int .i64 pr,.int .i64 a]] w fun e w'=>e=.returned (.int .i64 6)∧Below w.heap.size w w':=by
 obtain ⟨W,HW⟩:∃ W,Hid (w.alloc (.cells #[.int .i64 ph,.int .i64 pr,.int .i64 a] 80)=W):=⟨_,rfl⟩
 have HB:Hid (Below w.heap.size w W):=by rw [← HW.out]; exact (Below.refl _ _).alloc (Nat.le_refl _) _
 have HS:Hid (W.heap[w.heap.size]? = some (.cells #[.int .i64 ph,.int .i64 pr,.int .i64 a] 80 (0,0))):=by rw [← HW.out]; exact heap_alloc_new w _
 have hW:=HW.out
 obtain ⟨cn,cs,c0,c1,c2,c3,f3⟩:=(h.later HB.out).cells
 clear h
 go_enter Tryz.func182,Tryz.ntmps182
 go_wp2_with fail
 go_ret
 exact ⟨rfl,HB.out⟩
theorem rput_bound (d ph pr a:Int) (h:RK w m gn gs r E false B l) (hb:¬ ((0≤d∧d<6)∧fitsB ph pr a=true)) :
  Calls Tryz.prog 182 #[.pointer (some ⟨m,0,none⟩),.int .i64 d,.agg #[.int .i64 ph,.int .i64 pr,.int .i64 a]] w fun e w'=>e=.returned (.int .i64 2)∧Below w.heap.size w w':=by
 obtain ⟨W,HW⟩:∃ W,Hid (w.alloc (.cells #[.int .i64 ph,.int .i64 pr,.int .i64 a] 80)=W):=⟨_,rfl⟩
 have HB:Hid (Below w.heap.size w W):=by rw [← HW.out]; exact (Below.refl _ _).alloc (Nat.le_refl _) _
 have HS:Hid (W.heap[w.heap.size]? = some (.cells #[.int .i64 ph,.int .i64 pr,.int .i64 a] 80 (0,0))):=by rw [← HW.out]; exact heap_alloc_new w _
 have hW:=HW.out
 obtain ⟨cn,cs,c0,c1,c2,c3,f3⟩:=(h.later HB.out).cells
 have s0:W.cell? ⟨w.heap.size,0,none⟩=some (.int .i64 ph):=by rw [cell_of_row _ _ _ _ _ _ HS.out]; rfl
 have s1:W.cell? ⟨w.heap.size,1,none⟩=some (.int .i64 pr):=by rw [cell_of_row _ _ _ _ _ _ HS.out]; rfl
 have s2:W.cell? ⟨w.heap.size,2,none⟩=some (.int .i64 a):=by rw [cell_of_row _ _ _ _ _ _ HS.out]; rfl
 have HK:=hid hb
 clear h hb
 by_cases g0:d<0
 ·clear HK
  go_enter Tryz.func182,Tryz.ntmps182
  go_wp2_with fail
  go_ret
  exact ⟨rfl,HB.out⟩
 by_cases g1:6≤d
 ·clear HK
  go_enter Tryz.func182,Tryz.ntmps182
  go_wp2_with fail
  go_ret
  exact ⟨rfl,HB.out⟩
 by_cases g2:ph<0
 ·clear HK
  go_enter Tryz.func182,Tryz.ntmps182
  go_wp2_with fail
  go_ret
  exact ⟨rfl,HB.out⟩
 by_cases g3:255<ph
 ·clear HK
  go_enter Tryz.func182,Tryz.ntmps182
  go_wp2_with fail
  go_ret
  exact ⟨rfl,HB.out⟩
 by_cases g4:pr<0
 ·clear HK
  go_enter Tryz.func182,Tryz.ntmps182
  go_wp2_with fail
  go_ret
  exact ⟨rfl,HB.out⟩
 by_cases g5:1048576<pr
 ·clear HK
  go_enter Tryz.func182,Tryz.ntmps182
  go_wp2_with fail
  go_ret
  exact ⟨rfl,HB.out⟩
 by_cases g6:a<0
 ·clear HK
  go_enter Tryz.func182,Tryz.ntmps182
  go_wp2_with fail
  go_ret
  exact ⟨rfl,HB.out⟩
 by_cases g7:1048576<a
 ·clear HK
  go_enter Tryz.func182,Tryz.ntmps182
  go_wp2_with fail
  go_ret
  exact ⟨rfl,HB.out⟩
 exfalso
 apply HK.out
 unfold fitsB
 exact ⟨by omega,decide_eq_true (by omega)⟩
end
end Go.Proofs.YtaehdgemkafinaaGreatDoor
