/-
  On the way to WStepsProof, WCommitsProof, WAgreesProof, WEndsProof, WWaitsProof, JTampersProof, PAgreesProof, PAgainProof: S7 S8 S9.
-/
import Derived.Test.YtadhpkopkkjmfaaGreatDoorBz23
set_option maxHeartbeats 8000000
set_option maxRecDepth 100000
namespace Go.Proofs.YtadhpkopkkjmfaaGreatDoor
open Go.RowKit
theorem isend_is (p:Nat) (b:Bool) (w:World) (h:finB p=b):Calls Tryz.prog 208 #[.int .i64 (p:Int)] w fun e w'=>e=.returned (.bool b)∧w'=w:=by
 subst h
 unfold finB
 by_cases h2:p=2
 ·subst h2
  go_enter Tryz.func208,Tryz.ntmps208
  go_wp2_with fail
  go_ret
  exact ⟨rfl,rfl⟩
 ·by_cases h3:p=3
  ·subst h3
   go_enter Tryz.func208,Tryz.ntmps208
   go_wp2_with fail
   go_ret
   exact ⟨rfl,rfl⟩
  ·rw [decide_eq_false (by omega)]
   have g2:¬ (p:Int)=2:=by omega
   have g3:¬ (p:Int)=3:=by omega
   go_enter Tryz.func208,Tryz.ntmps208
   go_wp2_with fail
   go_ret
   exact ⟨by simp; omega,rfl⟩
abbrev agS (h p a:Nat):Value:=.agg #[.int .i64 (h:Int),.int .i64 (p:Int),.int .i64 (a:Int)]
structure In2r (w W:World) (x y z:Int):Prop where
 a:W.heap[w.heap.size]? = some (.cells #[.int .i64 x,.int .i64 y,.int .i64 z] 43 (0,0))
 r:W.heap[w.heap.size+1]? = some (.cells #[.int .i64 0,.int .i64 0,.int .i64 0] 43 (0,0))
 b:Below w.heap.size w W
theorem in2r (w:World) (x y z:Int):In2r w ((w.alloc (.cells #[.int .i64 x,.int .i64 y,.int .i64 z] 43)).alloc (.cells #[.int .i64 0,.int .i64 0,.int .i64 0] 43)) x y z:=by
 have hs:(w.alloc (.cells #[.int .i64 x,.int .i64 y,.int .i64 z] 43)).heap.size=w.heap.size+1:=by simp
 refine ⟨?_,?_,((Below.refl _ _).alloc (Nat.le_refl _) _).alloc (by omega) _⟩
 ·rw [Below.heap_alloc _ _ _ (by omega)]; exact heap_alloc_new w _
 ·rw [← hs]; exact heap_alloc_new _ _
section
variable {w W:World} {x y z:Int}
theorem In2r.cells (h:In2r w W x y z):W.cell? ⟨w.heap.size,0,none⟩=some (.int .i64 x)∧W.cell? ⟨w.heap.size,1,none⟩=some (.int .i64 y)∧W.cell? ⟨w.heap.size,2,none⟩=some (.int .i64 z):=by
 refine ⟨?_,?_,?_⟩ <;> rw [cell_of_row _ _ _ _ _ _ h.a] <;> rfl
theorem In2r.rcells (h:In2r w W x y z):W.cell? ⟨w.heap.size+1,0,none⟩=some (.int .i64 0)∧W.cell? ⟨w.heap.size+1,1,none⟩=some (.int .i64 0)∧W.cell? ⟨w.heap.size+1,2,none⟩=some (.int .i64 0):=by
 refine ⟨?_,?_,?_⟩ <;> rw [cell_of_row _ _ _ _ _ _ h.r] <;> rfl
theorem In2r.fz (h:In2r w W x y z):W.frozen? ⟨w.heap.size,0,none⟩=false∧W.frozen? ⟨w.heap.size,1,none⟩=false∧W.frozen? ⟨w.heap.size+1,0,none⟩=false∧W.frozen? ⟨w.heap.size+1,1,none⟩=false∧W.frozen? ⟨w.heap.size+1,2,none⟩=false :=
 ⟨frozen_of_row _ _ 0 _ _ h.a,frozen_of_row _ _ 1 _ _ h.a,frozen_of_row _ _ 0 _ _ h.r,frozen_of_row _ _ 1 _ _ h.r,frozen_of_row _ _ 2 _ _ h.r⟩
theorem In2r.set (h:In2r w W x y z) (i:Nat) (v:Value):(W.setCell ⟨w.heap.size,i,none⟩ v).heap[w.heap.size+1]? = some (.cells #[.int .i64 0,.int .i64 0,.int .i64 0] 43 (0,0)):=(heap_setCell_other _ _ _ _ (by simp)).trans h.r
theorem In2r.out (h:In2r w W x y z) (a b c:Value):Below w.heap.size w (((W.setCell ⟨w.heap.size+1,0,none⟩ a).setCell ⟨w.heap.size+1,1,none⟩ b).setCell ⟨w.heap.size+1,2,none⟩ c):=((h.b.setCell (Nat.le_succ _) _).setCell (Nat.le_succ _) _).setCell (Nat.le_succ _) _
theorem In2r.out1 (h:In2r w W x y z) (i:Nat) (v a b c:Value):Below w.heap.size w ((((W.setCell ⟨w.heap.size,i,none⟩ v).setCell ⟨w.heap.size+1,0,none⟩ a).setCell ⟨w.heap.size+1,1,none⟩ b).setCell ⟨w.heap.size+1,2,none⟩ c):=(((h.b.setCell (Nat.le_refl _) _).setCell (Nat.le_succ _) _).setCell (Nat.le_succ _) _).setCell (Nat.le_succ _) _
end
theorem promise_no (sh sp sa a:Nat) (w:World) (h:¬ sp<a) :
  Calls Tryz.prog 194 #[agS sh sp sa,.int .i64 (a:Int)] w fun e w'=>e=.returned (.tuple #[agS sh sp sa,.bool false])∧Below w.heap.size w w':=by
 obtain ⟨W,HW⟩:∃ W,Hid (((w.alloc (.cells #[.int .i64 (sh:Int),.int .i64 (sp:Int),.int .i64 (sa:Int)] 43)).alloc (.cells #[.int .i64 0,.int .i64 0,.int .i64 0] 43))=W):=⟨_,rfl⟩
 have HI:Hid (In2r w W sh sp sa):=by rw [← HW.out]; exact in2r w _ _ _
 obtain ⟨c0,c1,c2⟩:=HI.out.cells
 obtain ⟨r0,r1,r2⟩:=HI.out.rcells
 obtain ⟨f0,f1,z0,z1,z2⟩:=HI.out.fz
 have hW:=HW.out
 have hi:(a:Int)≤(sp:Int):=by omega
 go_enter Tryz.func194,Tryz.ntmps194
 go_wp2_with fail
 refine bodyPost_ret (results_row2 rfl _ _ (w.heap.size+1) 43 _ (0,0) _ rfl (set3 HI.out.r _ _ _) Tryz.underlying43 rfl sizeState) rfl ?_
 exact ⟨rfl,HI.out.out _ _ _⟩
theorem promise_yes (sh sp sa a:Nat) (w:World) (h:sp<a) :
  Calls Tryz.prog 194 #[agS sh sp sa,.int .i64 (a:Int)] w fun e w'=>e=.returned (.tuple #[agS sh a sa,.bool true])∧Below w.heap.size w w':=by
 obtain ⟨W,HW⟩:∃ W,Hid (((w.alloc (.cells #[.int .i64 (sh:Int),.int .i64 (sp:Int),.int .i64 (sa:Int)] 43)).alloc (.cells #[.int .i64 0,.int .i64 0,.int .i64 0] 43))=W):=⟨_,rfl⟩
 have HI:Hid (In2r w W sh sp sa):=by rw [← HW.out]; exact in2r w _ _ _
 obtain ⟨c0,c1,c2⟩:=HI.out.cells
 obtain ⟨r0,r1,r2⟩:=HI.out.rcells
 obtain ⟨f0,f1,z0,z1,z2⟩:=HI.out.fz
 have hW:=HW.out
 have hi:¬ (a:Int)≤(sp:Int):=by omega
 go_enter Tryz.func194,Tryz.ntmps194
 go_wp2_with fail
 refine bodyPost_ret (results_row2 rfl _ _ (w.heap.size+1) 43 _ (0,0) _ rfl (set3 (HI.out.set 1 _) _ _ _) Tryz.underlying43 rfl sizeState) rfl ?_
 exact ⟨rfl,HI.out.out1 _ _ _ _ _⟩
theorem prepare_no (sh sp sa ph a:Nat) (fb:Bool) (w:World) (hf:finB sh=fb) (h:¬ (sp≤a∧fb=false)) :
  Calls Tryz.prog 195 #[agS sh sp sa,.int .i64 (ph:Int),.int .i64 (a:Int)] w fun e w'=>e=.returned (.tuple #[agS sh sp sa,.bool false])∧Below w.heap.size w w':=by
 obtain ⟨W,HW⟩:∃ W,Hid (((w.alloc (.cells #[.int .i64 (sh:Int),.int .i64 (sp:Int),.int .i64 (sa:Int)] 43)).alloc (.cells #[.int .i64 0,.int .i64 0,.int .i64 0] 43))=W):=⟨_,rfl⟩
 have HI:Hid (In2r w W sh sp sa):=by rw [← HW.out]; exact in2r w _ _ _
 obtain ⟨c0,c1,c2⟩:=HI.out.cells
 obtain ⟨r0,r1,r2⟩:=HI.out.rcells
 obtain ⟨f0,f1,z0,z1,z2⟩:=HI.out.fz
 have hW:=HW.out
 have HF:=hid hf
 clear hf
 by_cases hpa:sp≤a
 ·obtain rfl:fb=true:=by cases fb with|true=>rfl|false=>exact absurd ⟨hpa,rfl⟩ h
  clear h
  have hi:¬ (a:Int)<(sp:Int):=by omega
  go_enter Tryz.func195,Tryz.ntmps195
  go_wp2_with (go_at_call 208; (with_reducible refine (isend_is sh true _ HF.out).mono ?_); rintro e wx ⟨rfl,hx⟩; subst wx)
  refine bodyPost_ret (results_row2 rfl _ _ (w.heap.size+1) 43 _ (0,0) _ rfl (set3 HI.out.r _ _ _) Tryz.underlying43 rfl sizeState) rfl ?_
  exact ⟨rfl,HI.out.out _ _ _⟩
 ·clear h
  have hi:(a:Int)<(sp:Int):=by omega
  go_enter Tryz.func195,Tryz.ntmps195
  go_wp2_with (go_at_call 208; (with_reducible refine (isend_is sh fb _ HF.out).mono ?_); rintro e wx ⟨rfl,hx⟩; subst wx)
  refine bodyPost_ret (results_row2 rfl _ _ (w.heap.size+1) 43 _ (0,0) _ rfl (set3 HI.out.r _ _ _) Tryz.underlying43 rfl sizeState) rfl ?_
  exact ⟨rfl,HI.out.out _ _ _⟩
theorem prepare_yes (sh sp sa ph a:Nat) (w:World) (hf:finB sh=false) (h:sp≤a) :
  Calls Tryz.prog 195 #[agS sh sp sa,.int .i64 (ph:Int),.int .i64 (a:Int)] w fun e w'=>e=.returned (.tuple #[agS ph a a,.bool true])∧Below w.heap.size w w':=by
 obtain ⟨W,HW⟩:∃ W,Hid (((w.alloc (.cells #[.int .i64 (sh:Int),.int .i64 (sp:Int),.int .i64 (sa:Int)] 43)).alloc (.cells #[.int .i64 0,.int .i64 0,.int .i64 0] 43))=W):=⟨_,rfl⟩
 have HI:Hid (In2r w W sh sp sa):=by rw [← HW.out]; exact in2r w _ _ _
 obtain ⟨c0,c1,c2⟩:=HI.out.cells
 obtain ⟨r0,r1,r2⟩:=HI.out.rcells
 obtain ⟨f0,f1,z0,z1,z2⟩:=HI.out.fz
 have hW:=HW.out
 have HF:=hid hf
 clear hf
 have hi:¬ (a:Int)<(sp:Int):=by omega
 go_enter Tryz.func195,Tryz.ntmps195
 go_wp2_with (go_at_call 208; (with_reducible refine (isend_is sh false _ HF.out).mono ?_); rintro e wx ⟨rfl,hx⟩; subst wx)
 refine bodyPost_ret (results_row2 rfl _ _ (w.heap.size+1) 43 _ (0,0) _ rfl (set3 HI.out.r _ _ _) Tryz.underlying43 rfl sizeState) rfl ?_
 exact ⟨rfl,HI.out.out _ _ _⟩
theorem decide_no (sh sp sa ph:Nat) (fb fc:Bool) (w:World) (hf:finB sh=fb) (hc:finB ph=fc) (h:¬ (fc=true∧fb=false)) :
  Calls Tryz.prog 196 #[agS sh sp sa,.int .i64 (ph:Int)] w fun e w'=>e=.returned (agS sh sp sa)∧Below w.heap.size w w':=by
 obtain ⟨W,HW⟩:∃ W,Hid (((w.alloc (.cells #[.int .i64 (sh:Int),.int .i64 (sp:Int),.int .i64 (sa:Int)] 43)).alloc (.cells #[.int .i64 0,.int .i64 0,.int .i64 0] 43))=W):=⟨_,rfl⟩
 have HI:Hid (In2r w W sh sp sa):=by rw [← HW.out]; exact in2r w _ _ _
 obtain ⟨c0,c1,c2⟩:=HI.out.cells
 obtain ⟨r0,r1,r2⟩:=HI.out.rcells
 obtain ⟨f0,f1,z0,z1,z2⟩:=HI.out.fz
 have hW:=HW.out
 have HF:=hid hf
 have HC:=hid hc
 clear hf hc
 cases fc with
 | false =>
  clear h
  go_enter Tryz.func196,Tryz.ntmps196
  go_wp2_with (go_at_call 208; (with_reducible refine (isend_is ph false _ HC.out).mono ?_); rintro e wx ⟨rfl,hx⟩; subst wx)
  refine bodyPost_ret (results_cell_row rfl _ _ (w.heap.size+1) 43 _ (0,0) _ rfl (set3 HI.out.r _ _ _) Tryz.underlying43 rfl sizeState) rfl ?_
  exact ⟨rfl,HI.out.out _ _ _⟩
 | true =>
  obtain rfl:fb=true:=by cases fb with|true=>rfl|false=>exact absurd ⟨rfl,rfl⟩ h
  clear h
  go_enter Tryz.func196,Tryz.ntmps196
  go_wp2_with (go_at_call 208; first|((with_reducible refine (isend_is ph true _ HC.out).mono ?_); rintro e wx ⟨rfl,hx⟩; subst wx)|((with_reducible refine (isend_is sh true _ HF.out).mono ?_); rintro e wx ⟨rfl,hx⟩; subst wx))
  refine bodyPost_ret (results_cell_row rfl _ _ (w.heap.size+1) 43 _ (0,0) _ rfl (set3 HI.out.r _ _ _) Tryz.underlying43 rfl sizeState) rfl ?_
  exact ⟨rfl,HI.out.out _ _ _⟩
theorem decide_yes (sh sp sa ph:Nat) (w:World) (hf:finB sh=false) (hc:finB ph=true) :
  Calls Tryz.prog 196 #[agS sh sp sa,.int .i64 (ph:Int)] w fun e w'=>e=.returned (agS ph sp sa)∧Below w.heap.size w w':=by
 obtain ⟨W,HW⟩:∃ W,Hid (((w.alloc (.cells #[.int .i64 (sh:Int),.int .i64 (sp:Int),.int .i64 (sa:Int)] 43)).alloc (.cells #[.int .i64 0,.int .i64 0,.int .i64 0] 43))=W):=⟨_,rfl⟩
 have HI:Hid (In2r w W sh sp sa):=by rw [← HW.out]; exact in2r w _ _ _
 obtain ⟨c0,c1,c2⟩:=HI.out.cells
 obtain ⟨r0,r1,r2⟩:=HI.out.rcells
 obtain ⟨f0,f1,z0,z1,z2⟩:=HI.out.fz
 have hW:=HW.out
 have HF:=hid hf
 have HC:=hid hc
 clear hf hc
 go_enter Tryz.func196,Tryz.ntmps196
 go_wp2_with (go_at_call 208; first|((with_reducible refine (isend_is ph true _ HC.out).mono ?_); rintro e wx ⟨rfl,hx⟩; subst wx)|((with_reducible refine (isend_is sh false _ HF.out).mono ?_); rintro e wx ⟨rfl,hx⟩; subst wx))
 refine bodyPost_ret (results_cell_row rfl _ _ (w.heap.size+1) 43 _ (0,0) _ rfl (set3 (HI.out.set 0 _) _ _ _) Tryz.underlying43 rfl sizeState) rfl ?_
 exact ⟨rfl,HI.out.out1 _ _ _ _ _⟩
section
variable {w W:World} {x y z:Int}
theorem In2r.set0 (h:In2r w W x y z) (v:Int):In2r w (W.setCell ⟨w.heap.size,0,none⟩ (.int .i64 v)) v y z :=
 ⟨by rw [heap_setCell_same W w.heap.size 0 _ _ _ h.a]; rfl,h.set 0 _,h.b.setCell (Nat.le_refl _) _⟩
theorem In2r.alloc (h:In2r w W x y z) (o:Obj):In2r w (W.alloc o) x y z :=
 ⟨(Below.heap_alloc W _ _ (row_ltJ h.a)).trans h.a,(Below.heap_alloc W _ _ (row_ltJ h.r)).trans h.r,h.b.alloc h.b.size _⟩
end
theorem row_mid (w:World) (o1 o2 o3:Obj):(((w.alloc o1).alloc o2).alloc o3).heap[w.heap.size+1]? = some o2:=by
 have hs:(w.alloc o1).heap.size=w.heap.size+1:=by simp
 rw [Below.heap_alloc _ _ _ (by simp),← hs]
 exact heap_alloc_new _ _
theorem vote_is (s j mb n d sh sp sa v:Nat) (id:Int) (R:Nat→Bool) (w:World) (h:SR w s j mb id R n) (hd:d<6) (hv:askP ⟨sh,sp,sa⟩ (R d)=v) :
  Calls Tryz.prog 193 #[.pointer (some ⟨s,0,none⟩),.int .i64 (d:Int),agS sh sp sa] w fun e w'=>e=.returned (agS v sp sa)∧Below w.heap.size w w':=by
 obtain ⟨W,HW⟩:∃ W,Hid (((w.alloc (.cells #[.int .i64 (sh:Int),.int .i64 (sp:Int),.int .i64 (sa:Int)] 43)).alloc (.cells #[.int .i64 0,.int .i64 0,.int .i64 0] 43))=W):=⟨_,rfl⟩
 have HI:Hid (In2r w W sh sp sa):=by rw [← HW.out]; exact in2r w _ _ _
 obtain ⟨c0,c1,c2⟩:=HI.out.cells
 obtain ⟨r0,r1,r2⟩:=HI.out.rcells
 obtain ⟨f0,f1,z0,z1,z2⟩:=HI.out.fz
 have hW:=HW.out
 have HV:=hid hv
 clear hv
 by_cases h0:sh=0
 ·clear c0 c1 c2 r0 r1 r2 f0 f1 z0 z1 z2 hW HI HW
  subst h0
  obtain ⟨e1,e2⟩:=h.lts
  obtain ⟨x0,x1,x2⟩:=h.cells
  obtain ⟨D,hD,hh⟩:=h.ref
  have HD:=hid hD
  have hhd:=hh d hd
  have hk:=mkeyN hd
  clear hD hh h
  cases hR:R d with
  | true =>
   rw [hR] at hhd HV
   obtain rfl:v=3:=HV.out.symm
   clear HV hR
   go_enter Tryz.func193,Tryz.ntmps193
   go_wp2_with (at_lookup; refine wpList_lookup_own_unit _ rfl _ _ 129 rfl 3 126 mlaw Tryz.underlying129 (munit _) mb n D rfl ((HD.out.alloc _).alloc _) _ _ rfl hk ?_)
   refine bodyPost_ret (results_cell_row rfl _ _ (w.heap.size+1) 43 _ (0,0) _ rfl (row_mid w _ _ _) Tryz.underlying43 rfl sizeState) rfl ?_
   exact ⟨rfl,(((Below.refl _ _).alloc (Nat.le_refl _) _).alloc (by simp) _).alloc (by simp; omega) _⟩
  | false =>
   rw [hR] at hhd HV
   obtain rfl:v=1:=HV.out.symm
   clear HV hR
   go_enter Tryz.func193,Tryz.ntmps193
   go_wp2_with (at_lookup; refine wpList_lookup_own_unit _ rfl _ _ 129 rfl 3 126 mlaw Tryz.underlying129 (munit _) mb n D rfl ((HD.out.alloc _).alloc _) _ _ rfl hk ?_)
   refine bodyPost_ret (results_cell_row rfl _ _ (w.heap.size+1) 43 _ (0,0) _ rfl (row_mid w _ _ _) Tryz.underlying43 rfl sizeState) rfl ?_
   exact ⟨rfl,(((Below.refl _ _).alloc (Nat.le_refl _) _).alloc (by simp) _).alloc (by simp; omega) _⟩
 ·have hi:¬ (sh:Int)=0:=by omega
  obtain rfl:v=sh:=by rw [← HV.out]; unfold askP; exact if_neg h0
  clear h HV
  go_enter Tryz.func193,Tryz.ntmps193
  go_wp2_with fail
  refine bodyPost_ret (results_cell_row rfl _ _ (w.heap.size+1) 43 _ (0,0) _ rfl (set3 HI.out.r _ _ _) Tryz.underlying43 rfl sizeState) rfl ?_
  exact ⟨rfl,HI.out.out _ _ _⟩
theorem results_row4 {P:Program} {fn:Func} {p u v:Tmp} {ty:TypeId} (h:fn.results=#[.cell p ty,.tmp u,.tmp v]) (tmps:Array Value) (w:World) (g:Nat) (t:TypeId) (cs:Array Value) (fr:Nat×Nat) (d:TypeDesc)
  (hp:tmps.getD p undef=.pointer (some ⟨g,0,none⟩)) (hg:w.heap[g]? = some (.cells cs t fr))
  (hu:P.underlying ty=some d) (hd:(match d with|.struct _|.array _ _=>true|_=>false)=true) (hi:(P.info? ty).map (·.size)=some cs.size) :
  (results fn tmps).run P w=.ok (.tuple #[.agg cs,tmps.getD u undef,tmps.getD v undef]) w:=by
 have hp':tmps[p]?.getD undef=.pointer (some ⟨g,0,none⟩):=by simpa using hp
 simp [results,h,hp',asAddr,run_loadVar_row w g t ty cs fr d hg hu hd hi]
structure In3r (w W:World) (f t d k a:Int) (b:Bool) (ph pr pa:Int) (x y z:Int):Prop where
 f:W.heap[w.heap.size]? = some (.cells #[.int .i64 f,.int .i64 t,.int .i64 d,.int .i64 k,.int .i64 a,.bool b,.int .i64 ph,.int .i64 pr,.int .i64 pa] 104 (0,0))
 a:W.heap[w.heap.size+1]? = some (.cells #[.int .i64 x,.int .i64 y,.int .i64 z] 43 (0,0))
 r:W.heap[w.heap.size+1+1]? = some (.cells #[.int .i64 0,.int .i64 0,.int .i64 0] 43 (0,0))
 b:Below w.heap.size w W
theorem in3r (w:World) (f t d k a:Int) (b:Bool) (ph pr pa:Int) (x y z:Int) :
  In3r w (((w.alloc (.cells #[.int .i64 f,.int .i64 t,.int .i64 d,.int .i64 k,.int .i64 a,.bool b,.int .i64 ph,.int .i64 pr,.int .i64 pa] 104)).alloc (.cells #[.int .i64 x,.int .i64 y,.int .i64 z] 43)).alloc (.cells #[.int .i64 0,.int .i64 0,.int .i64 0] 43)) f t d k a b ph pr pa x y z:=by
 obtain ⟨V,HV⟩:∃ V,w.alloc (.cells #[.int .i64 f,.int .i64 t,.int .i64 d,.int .i64 k,.int .i64 a,.bool b,.int .i64 ph,.int .i64 pr,.int .i64 pa] 104)=V:=⟨_,rfl⟩
 have hs:V.heap.size=w.heap.size+1:=by rw [← HV]; simp
 have hf:V.heap[w.heap.size]? = some (.cells #[.int .i64 f,.int .i64 t,.int .i64 d,.int .i64 k,.int .i64 a,.bool b,.int .i64 ph,.int .i64 pr,.int .i64 pa] 104 (0,0)):=by rw [← HV]; exact heap_alloc_new w _
 have hb:Below w.heap.size w V:=by rw [← HV]; exact (Below.refl _ _).alloc (Nat.le_refl _) _
 rw [HV]
 have hi:=in2r V x y z
 have h1:=hi.a
 have h2:=hi.r
 have h3:=hi.b
 rw [hs] at h1 h2 h3
 exact ⟨(h3.block _ (by omega)).trans hf,h1,h2,hb.trans (h3.mono (by omega))⟩
section
variable {w W:World} {f t d k a:Int} {b:Bool} {ph pr pa:Int} {x y z:Int}
theorem In3r.cells (h:In3r w W f t d k a b ph pr pa x y z):W.cell? ⟨w.heap.size+1,0,none⟩=some (.int .i64 x)∧W.cell? ⟨w.heap.size+1,1,none⟩=some (.int .i64 y)∧W.cell? ⟨w.heap.size+1,2,none⟩=some (.int .i64 z):=by
 refine ⟨?_,?_,?_⟩ <;> rw [cell_of_row _ _ _ _ _ _ h.a] <;> rfl
theorem In3r.rcells (h:In3r w W f t d k a b ph pr pa x y z):W.cell? ⟨w.heap.size+1+1,0,none⟩=some (.int .i64 0)∧W.cell? ⟨w.heap.size+1+1,1,none⟩=some (.int .i64 0)∧W.cell? ⟨w.heap.size+1+1,2,none⟩=some (.int .i64 0):=by
 refine ⟨?_,?_,?_⟩ <;> rw [cell_of_row _ _ _ _ _ _ h.r] <;> rfl
theorem In3r.fz (h:In3r w W f t d k a b ph pr pa x y z):W.frozen? ⟨w.heap.size+1,0,none⟩=false∧W.frozen? ⟨w.heap.size+1,1,none⟩=false∧W.frozen? ⟨w.heap.size+1,2,none⟩=false∧W.frozen? ⟨w.heap.size+1+1,0,none⟩=false∧W.frozen? ⟨w.heap.size+1+1,1,none⟩=false∧W.frozen? ⟨w.heap.size+1+1,2,none⟩=false :=
 ⟨frozen_of_row _ _ 0 _ _ h.a,frozen_of_row _ _ 1 _ _ h.a,frozen_of_row _ _ 2 _ _ h.a,frozen_of_row _ _ 0 _ _ h.r,frozen_of_row _ _ 1 _ _ h.r,frozen_of_row _ _ 2 _ _ h.r⟩
theorem In3r.later {V:World} (h:In3r w W f t d k a b ph pr pa x y z) (hb:Below W.heap.size W V):In3r w V f t d k a b ph pr pa x y z :=
 ⟨(hb.block _ (row_ltJ h.f)).trans h.f,(hb.block _ (row_ltJ h.a)).trans h.a,(hb.block _ (row_ltJ h.r)).trans h.r,h.b.trans (hb.mono h.b.size)⟩
theorem In3r.st (h:In3r w W f t d k a b ph pr pa x y z) (x' y' z':Int) :
  In3r w (((W.setCell ⟨w.heap.size+1,0,none⟩ (.int .i64 x')).setCell ⟨w.heap.size+1,1,none⟩ (.int .i64 y')).setCell ⟨w.heap.size+1,2,none⟩ (.int .i64 z')) f t d k a b ph pr pa x' y' z':=by
 refine ⟨?_,set3 h.a _ _ _,?_,((h.b.setCell (Nat.le_succ _) _).setCell (Nat.le_succ _) _).setCell (Nat.le_succ _) _⟩
 ·rw [heap_setCell_other _ _ _ _ (by simp),heap_setCell_other _ _ _ _ (by simp),heap_setCell_other _ _ _ _ (by simp)]; exact h.f
 ·rw [heap_setCell_other _ _ _ _ (by simp),heap_setCell_other _ _ _ _ (by simp),heap_setCell_other _ _ _ _ (by simp)]; exact h.r
theorem In3r.out (h:In3r w W f t d k a b ph pr pa x y z) (u v q:Value):Below w.heap.size w (((W.setCell ⟨w.heap.size+1+1,0,none⟩ u).setCell ⟨w.heap.size+1+1,1,none⟩ v).setCell ⟨w.heap.size+1+1,2,none⟩ q):=((h.b.setCell (by simp; omega) _).setCell (by simp; omega) _).setCell (by simp; omega) _
end
theorem set3d {w:World} {g:Nat} {a b c:Value} {t:TypeId} (h:w.heap[g]? = some (.cells #[a,b,c] t (0,0))) (x0 x1 x2:Value) :
  ((((w.setCell ⟨g,0,none⟩ x0).setCell ⟨g,1,none⟩ x1).setCell ⟨g,2,none⟩ x2).drew).heap[g]? = some (.cells #[x0,x1,x2] t (0,0)):=set3 h x0 x1 x2
theorem row_top (w:World) (o1 o2 o3:Obj):(((w.alloc o1).alloc o2).alloc o3).heap[w.heap.size+1+1]? = some o3:=by
 have hs:((w.alloc o1).alloc o2).heap.size=w.heap.size+1+1:=by simp
 rw [← hs]
 exact heap_alloc_new _ _
theorem prepare_z (sh sp sa ph a:Nat) (z:Int) (w:World) (hz:z=(ph:Int)) (hf:finB sh=false) (h:sp≤a) :
  Calls Tryz.prog 195 #[agS sh sp sa,.int .i64 z,.int .i64 (a:Int)] w fun e w'=>e=.returned (.tuple #[.agg #[.int .i64 z,.int .i64 (a:Int),.int .i64 (a:Int)],.bool true])∧Below w.heap.size w w':=by
 subst hz; exact prepare_yes sh sp sa ph a w hf h
theorem prepare_zn (sh sp sa ph a:Nat) (fb:Bool) (z:Int) (w:World) (hz:z=(ph:Int)) (hf:finB sh=fb) (h:¬ (sp≤a∧fb=false)) :
  Calls Tryz.prog 195 #[agS sh sp sa,.int .i64 z,.int .i64 (a:Int)] w fun e w'=>e=.returned (.tuple #[agS sh sp sa,.bool false])∧Below w.heap.size w w':=by
 subst hz; exact prepare_no sh sp sa ph a fb w hf h
section
variable (s j mb n d a ph sh sp sa:Nat) (id fr to_ pr pa:Int) (yb:Bool) (R:Nat→Bool) (w:World)
theorem step_1 (v:Nat) (y3:Bool) (h:SR w s j mb id R n) (hd:d<6) (hv:askP ⟨sh,sp,sa⟩ (R d)=v) (hy3:((v:Int) != 3)=y3) :
  Calls Tryz.prog 175 #[.pointer (some ⟨s,0,none⟩),frV fr to_ d 1 a yb ph pr pa,agS sh sp sa] w fun e w'=>e=.returned (.tuple #[agS v sp sa,.int .i64 2,.bool y3])∧Below w.heap.size w w':=by
 have HS:=hid h
 have HV:=hid hv
 clear h hv
 go_enter Tryz.func175,Tryz.ntmps175
 go_wp2_with (go_at_call 193; (with_reducible refine (vote_is s j mb n d sh sp sa v id R _ (HS.out.later (in3r w _ _ _ _ _ _ _ _ _ _ _ _).b) hd HV.out).mono ?_); rintro e w1 ⟨rfl,hb1⟩; have HI1:=hid ((in3r w _ _ _ _ _ _ _ _ _ _ _ _).later hb1); clear hb1; obtain ⟨c0,c1,c2⟩:=HI1.out.cells; obtain ⟨r0,r1,r2⟩:=HI1.out.rcells; obtain ⟨z0,z1,z2,z3,z4,z5⟩:=HI1.out.fz)
 have HI2:=hid (HI1.out.st (v:Int) (sp:Int) (sa:Int))
 go_region
 all_goals go_wp2_with fail
 all_goals refine bodyPost_ret (results_row4 rfl _ _ (w.heap.size+1+1) 43 _ (0,0) _ rfl (set3d HI2.out.r _ _ _) Tryz.underlying43 rfl sizeState) rfl ?_
 all_goals exact ⟨rfl,(HI2.out.out _ _ _).drew⟩
theorem step_3y (hpa:sp<a) :
  Calls Tryz.prog 175 #[.pointer (some ⟨s,0,none⟩),frV fr to_ d 3 a yb ph pr pa,agS sh sp sa] w fun e w'=>e=.returned (.tuple #[agS sh a sa,.int .i64 4,.bool true])∧Below w.heap.size w w':=by
 go_enter Tryz.func175,Tryz.ntmps175
 go_wp2_with (go_at_call 194; (with_reducible refine (promise_yes sh sp sa a _ hpa).mono ?_); rintro e w1 ⟨rfl,hb1⟩; have HI1:=hid ((in3r w _ _ _ _ _ _ _ _ _ _ _ _).later hb1); clear hb1; obtain ⟨c0,c1,c2⟩:=HI1.out.cells; obtain ⟨r0,r1,r2⟩:=HI1.out.rcells; obtain ⟨z0,z1,z2,z3,z4,z5⟩:=HI1.out.fz)
 have HI2:=hid (HI1.out.st (sh:Int) (a:Int) (sa:Int))
 refine bodyPost_ret (results_row4 rfl _ _ (w.heap.size+1+1) 43 _ (0,0) _ rfl (set3 HI2.out.r _ _ _) Tryz.underlying43 rfl sizeState) rfl ?_
 exact ⟨rfl,HI2.out.out _ _ _⟩
theorem step_3n (hpa:¬ sp<a) :
  Calls Tryz.prog 175 #[.pointer (some ⟨s,0,none⟩),frV fr to_ d 3 a yb ph pr pa,agS sh sp sa] w fun e w'=>e=.returned (.tuple #[agS sh sp sa,.int .i64 4,.bool false])∧Below w.heap.size w w':=by
 go_enter Tryz.func175,Tryz.ntmps175
 go_wp2_with (go_at_call 194; (with_reducible refine (promise_no sh sp sa a _ hpa).mono ?_); rintro e w1 ⟨rfl,hb1⟩; have HI1:=hid ((in3r w _ _ _ _ _ _ _ _ _ _ _ _).later hb1); clear hb1; obtain ⟨c0,c1,c2⟩:=HI1.out.cells; obtain ⟨r0,r1,r2⟩:=HI1.out.rcells; obtain ⟨z0,z1,z2,z3,z4,z5⟩:=HI1.out.fz)
 have HI2:=hid (HI1.out.st (sh:Int) (sp:Int) (sa:Int))
 refine bodyPost_ret (results_row4 rfl _ _ (w.heap.size+1+1) 43 _ (0,0) _ rfl (set3 HI2.out.r _ _ _) Tryz.underlying43 rfl sizeState) rfl ?_
 exact ⟨rfl,HI2.out.out _ _ _⟩
theorem step_5n (hph:¬ (ph=4 ∨ ph=5)) :
  Calls Tryz.prog 175 #[.pointer (some ⟨s,0,none⟩),frV fr to_ d 5 a yb ph pr pa,agS sh sp sa] w fun e w'=>e=.returned (.tuple #[agS sh sp sa,.int .i64 0,.bool false])∧Below w.heap.size w w':=by
 have hp4:¬ (ph:Int)=4:=by omega
 have hp5:¬ (ph:Int)=5:=by omega
 have e4:((ph:Int) != 4)=true:=bne_iff_ne.2 hp4
 have e5:((ph:Int) != 5)=true:=bne_iff_ne.2 hp5
 clear hph
 go_enter Tryz.func175,Tryz.ntmps175
 go_wp2_with fail
 refine bodyPost_ret (results_row4 rfl _ _ (w.heap.size+1+1) 43 _ (0,0) _ rfl (row_top w _ _ _) Tryz.underlying43 rfl sizeState) rfl ?_
 exact ⟨rfl,(((Below.refl _ _).alloc (Nat.le_refl _) _).alloc (by simp) _).alloc (by simp; omega) _⟩
theorem step_7y (hf:finB sh=false) (hc:finB ph=true) :
  Calls Tryz.prog 175 #[.pointer (some ⟨s,0,none⟩),frV fr to_ d 7 a yb ph pr pa,agS sh sp sa] w fun e w'=>e=.returned (.tuple #[agS ph sp sa,.int .i64 0,.bool false])∧Below w.heap.size w w':=by
 have HF:=hid hf
 have HC:=hid hc
 clear hf hc
 go_enter Tryz.func175,Tryz.ntmps175
 go_wp2_with (go_at_call 196; (with_reducible refine (decide_yes sh sp sa ph _ HF.out HC.out).mono ?_); rintro e w1 ⟨rfl,hb1⟩; have HI1:=hid ((in3r w _ _ _ _ _ _ _ _ _ _ _ _).later hb1); clear hb1; obtain ⟨c0,c1,c2⟩:=HI1.out.cells; obtain ⟨r0,r1,r2⟩:=HI1.out.rcells; obtain ⟨z0,z1,z2,z3,z4,z5⟩:=HI1.out.fz)
 refine bodyPost_ret (results_row4 rfl _ _ (w.heap.size+1+1) 43 _ (0,0) _ rfl (set3 HI1.out.r _ _ _) Tryz.underlying43 rfl sizeState) rfl ?_
 exact ⟨rfl,HI1.out.out _ _ _⟩
theorem step_7n (fb fc:Bool) (hf:finB sh=fb) (hc:finB ph=fc) (h:¬ (fc=true∧fb=false)) :
  Calls Tryz.prog 175 #[.pointer (some ⟨s,0,none⟩),frV fr to_ d 7 a yb ph pr pa,agS sh sp sa] w fun e w'=>e=.returned (.tuple #[agS sh sp sa,.int .i64 0,.bool false])∧Below w.heap.size w w':=by
 have HF:=hid hf
 have HC:=hid hc
 have HN:=hid h
 clear hf hc h
 go_enter Tryz.func175,Tryz.ntmps175
 go_wp2_with (go_at_call 196; (with_reducible refine (decide_no sh sp sa ph fb fc _ HF.out HC.out HN.out).mono ?_); rintro e w1 ⟨rfl,hb1⟩; have HI1:=hid ((in3r w _ _ _ _ _ _ _ _ _ _ _ _).later hb1); clear hb1; obtain ⟨c0,c1,c2⟩:=HI1.out.cells; obtain ⟨r0,r1,r2⟩:=HI1.out.rcells; obtain ⟨z0,z1,z2,z3,z4,z5⟩:=HI1.out.fz)
 refine bodyPost_ret (results_row4 rfl _ _ (w.heap.size+1+1) 43 _ (0,0) _ rfl (set3 HI1.out.r _ _ _) Tryz.underlying43 rfl sizeState) rfl ?_
 exact ⟨rfl,HI1.out.out _ _ _⟩
theorem step_5y_4 (hf:finB sh=false) (h:sp≤a) :
  Calls Tryz.prog 175 #[.pointer (some ⟨s,0,none⟩),frV fr to_ d 5 a yb 4 pr pa,agS sh sp sa] w fun e w'=>e=.returned (.tuple #[.agg #[.int .i64 4,.int .i64 (a:Int),.int .i64 (a:Int)],.int .i64 6,.bool true])∧Below w.heap.size w w':=by
 have HF:=hid hf
 clear hf
 go_enter Tryz.func175,Tryz.ntmps175
 go_wp2_with (go_at_call 195; (with_reducible refine (prepare_z sh sp sa 4 a 4 _ rfl HF.out h).mono ?_); rintro e w1 ⟨rfl,hb1⟩; have HI1:=hid ((in3r w _ _ _ _ _ _ _ _ _ _ _ _).later hb1); clear hb1; obtain ⟨c0,c1,c2⟩:=HI1.out.cells; obtain ⟨r0,r1,r2⟩:=HI1.out.rcells; obtain ⟨z0,z1,z2,z3,z4,z5⟩:=HI1.out.fz)
 have HI2:=hid (HI1.out.st 4 (a:Int) (a:Int))
 refine bodyPost_ret (results_row4 rfl _ _ (w.heap.size+1+1) 43 _ (0,0) _ rfl (set3 HI2.out.r _ _ _) Tryz.underlying43 rfl sizeState) rfl ?_
 exact ⟨rfl,HI2.out.out _ _ _⟩
theorem step_5z_4 (fb:Bool) (hf:finB sh=fb) (h:¬ (sp≤a∧fb=false)) :
  Calls Tryz.prog 175 #[.pointer (some ⟨s,0,none⟩),frV fr to_ d 5 a yb 4 pr pa,agS sh sp sa] w fun e w'=>e=.returned (.tuple #[agS sh sp sa,.int .i64 6,.bool false])∧Below w.heap.size w w':=by
 have HF:=hid hf
 have HN:=hid h
 clear hf h
 go_enter Tryz.func175,Tryz.ntmps175
 go_wp2_with (go_at_call 195; (with_reducible refine (prepare_zn sh sp sa 4 a fb 4 _ rfl HF.out HN.out).mono ?_); rintro e w1 ⟨rfl,hb1⟩; have HI1:=hid ((in3r w _ _ _ _ _ _ _ _ _ _ _ _).later hb1); clear hb1; obtain ⟨c0,c1,c2⟩:=HI1.out.cells; obtain ⟨r0,r1,r2⟩:=HI1.out.rcells; obtain ⟨z0,z1,z2,z3,z4,z5⟩:=HI1.out.fz)
 have HI2:=hid (HI1.out.st (sh:Int) (sp:Int) (sa:Int))
 refine bodyPost_ret (results_row4 rfl _ _ (w.heap.size+1+1) 43 _ (0,0) _ rfl (set3 HI2.out.r _ _ _) Tryz.underlying43 rfl sizeState) rfl ?_
 exact ⟨rfl,HI2.out.out _ _ _⟩
theorem step_5y_5 (hf:finB sh=false) (h:sp≤a) :
  Calls Tryz.prog 175 #[.pointer (some ⟨s,0,none⟩),frV fr to_ d 5 a yb 5 pr pa,agS sh sp sa] w fun e w'=>e=.returned (.tuple #[.agg #[.int .i64 5,.int .i64 (a:Int),.int .i64 (a:Int)],.int .i64 6,.bool true])∧Below w.heap.size w w':=by
 have HF:=hid hf
 clear hf
 go_enter Tryz.func175,Tryz.ntmps175
 go_wp2_with (go_at_call 195; (with_reducible refine (prepare_z sh sp sa 5 a 5 _ rfl HF.out h).mono ?_); rintro e w1 ⟨rfl,hb1⟩; have HI1:=hid ((in3r w _ _ _ _ _ _ _ _ _ _ _ _).later hb1); clear hb1; obtain ⟨c0,c1,c2⟩:=HI1.out.cells; obtain ⟨r0,r1,r2⟩:=HI1.out.rcells; obtain ⟨z0,z1,z2,z3,z4,z5⟩:=HI1.out.fz)
 have HI2:=hid (HI1.out.st 5 (a:Int) (a:Int))
 refine bodyPost_ret (results_row4 rfl _ _ (w.heap.size+1+1) 43 _ (0,0) _ rfl (set3 HI2.out.r _ _ _) Tryz.underlying43 rfl sizeState) rfl ?_
 exact ⟨rfl,HI2.out.out _ _ _⟩
theorem step_5z_5 (fb:Bool) (hf:finB sh=fb) (h:¬ (sp≤a∧fb=false)) :
  Calls Tryz.prog 175 #[.pointer (some ⟨s,0,none⟩),frV fr to_ d 5 a yb 5 pr pa,agS sh sp sa] w fun e w'=>e=.returned (.tuple #[agS sh sp sa,.int .i64 6,.bool false])∧Below w.heap.size w w':=by
 have HF:=hid hf
 have HN:=hid h
 clear hf h
 go_enter Tryz.func175,Tryz.ntmps175
 go_wp2_with (go_at_call 195; (with_reducible refine (prepare_zn sh sp sa 5 a fb 5 _ rfl HF.out HN.out).mono ?_); rintro e w1 ⟨rfl,hb1⟩; have HI1:=hid ((in3r w _ _ _ _ _ _ _ _ _ _ _ _).later hb1); clear hb1; obtain ⟨c0,c1,c2⟩:=HI1.out.cells; obtain ⟨r0,r1,r2⟩:=HI1.out.rcells; obtain ⟨z0,z1,z2,z3,z4,z5⟩:=HI1.out.fz)
 have HI2:=hid (HI1.out.st (sh:Int) (sp:Int) (sa:Int))
 refine bodyPost_ret (results_row4 rfl _ _ (w.heap.size+1+1) 43 _ (0,0) _ rfl (set3 HI2.out.r _ _ _) Tryz.underlying43 rfl sizeState) rfl ?_
 exact ⟨rfl,HI2.out.out _ _ _⟩
theorem step_n2 :
  Calls Tryz.prog 175 #[.pointer (some ⟨s,0,none⟩),frV fr to_ d 2 a yb ph pr pa,agS sh sp sa] w fun e w'=>e=.returned (.tuple #[agS sh sp sa,.int .i64 0,.bool false])∧Below w.heap.size w w':=by
 go_enter Tryz.func175,Tryz.ntmps175
 go_wp2_with fail
 refine bodyPost_ret (results_row4 rfl _ _ (w.heap.size+1+1) 43 _ (0,0) _ rfl (row_top w _ _ _) Tryz.underlying43 rfl sizeState) rfl ?_
 exact ⟨rfl,(((Below.refl _ _).alloc (Nat.le_refl _) _).alloc (by simp) _).alloc (by simp; omega) _⟩
theorem step_n4 :
  Calls Tryz.prog 175 #[.pointer (some ⟨s,0,none⟩),frV fr to_ d 4 a yb ph pr pa,agS sh sp sa] w fun e w'=>e=.returned (.tuple #[agS sh sp sa,.int .i64 0,.bool false])∧Below w.heap.size w w':=by
 go_enter Tryz.func175,Tryz.ntmps175
 go_wp2_with fail
 refine bodyPost_ret (results_row4 rfl _ _ (w.heap.size+1+1) 43 _ (0,0) _ rfl (row_top w _ _ _) Tryz.underlying43 rfl sizeState) rfl ?_
 exact ⟨rfl,(((Below.refl _ _).alloc (Nat.le_refl _) _).alloc (by simp) _).alloc (by simp; omega) _⟩
theorem step_n6 :
  Calls Tryz.prog 175 #[.pointer (some ⟨s,0,none⟩),frV fr to_ d 6 a yb ph pr pa,agS sh sp sa] w fun e w'=>e=.returned (.tuple #[agS sh sp sa,.int .i64 0,.bool false])∧Below w.heap.size w w':=by
 go_enter Tryz.func175,Tryz.ntmps175
 go_wp2_with fail
 refine bodyPost_ret (results_row4 rfl _ _ (w.heap.size+1+1) 43 _ (0,0) _ rfl (row_top w _ _ _) Tryz.underlying43 rfl sizeState) rfl ?_
 exact ⟨rfl,(((Below.refl _ _).alloc (Nat.le_refl _) _).alloc (by simp) _).alloc (by simp; omega) _⟩
theorem step_is (k:Nat) (g:HOut) (h:SR w s j mb id R n) (hd:d<6) (hk:1≤k∧k≤7) (hg:hearL ⟨sh,sp,sa⟩ (R d) k a ph=g) :
  Calls Tryz.prog 175 #[.pointer (some ⟨s,0,none⟩),frV fr to_ d k a yb ph pr pa,agS sh sp sa] w fun e w'=>e=.returned (.tuple #[agS g.st.ph g.st.pr g.st.at_,.int .i64 (g.k:Int),.bool g.yes])∧Below w.heap.size w w':=by
 subst hg
 rcases (by omega:k=1 ∨ k=3 ∨ k=5 ∨ k=7 ∨ k=2 ∨ k=4 ∨ k=6) with rfl|rfl|rfl|rfl|rfl|rfl|rfl
 ·have e3:((askP ⟨sh,sp,sa⟩ (R d):Int) != 3)=decide (askP ⟨sh,sp,sa⟩ (R d)≠3):=by
   rw [Bool.eq_iff_iff]; simp; omega
  exact step_1 s j mb n d a ph sh sp sa id fr to_ pr pa yb R w _ _ h hd rfl e3
 ·by_cases hpa:sp<a
  ·rw [show hearL ⟨sh,sp,sa⟩ (R d) 3 a ph=⟨⟨sh,a,sa⟩,4,true⟩ by simp [hearL,hpa]]
   exact step_3y s d a ph sh sp sa fr to_ pr pa yb w hpa
  ·rw [show hearL ⟨sh,sp,sa⟩ (R d) 3 a ph=⟨⟨sh,sp,sa⟩,4,false⟩ by simp [hearL,hpa]]
   exact step_3n s d a ph sh sp sa fr to_ pr pa yb w hpa
 ·by_cases hph:ph=4 ∨ ph=5
  ·by_cases hpa:sp≤a∧finB sh=false
   ·rw [show hearL ⟨sh,sp,sa⟩ (R d) 5 a ph=⟨⟨ph,a,a⟩,6,true⟩ by simp [hearL,hph,hpa]]
    rcases hph with rfl|rfl
    ·exact step_5y_4 s d a sh sp sa fr to_ pr pa yb w hpa.2 hpa.1
    ·exact step_5y_5 s d a sh sp sa fr to_ pr pa yb w hpa.2 hpa.1
   ·rw [show hearL ⟨sh,sp,sa⟩ (R d) 5 a ph=⟨⟨sh,sp,sa⟩,6,false⟩ by unfold hearL; rw [if_neg (by decide),if_neg (by decide),if_pos (by decide),if_pos hph,if_neg hpa]]
    rcases hph with rfl|rfl
    ·exact step_5z_4 s d a sh sp sa fr to_ pr pa yb w _ rfl hpa
    ·exact step_5z_5 s d a sh sp sa fr to_ pr pa yb w _ rfl hpa
  ·rw [show hearL ⟨sh,sp,sa⟩ (R d) 5 a ph=⟨⟨sh,sp,sa⟩,0,false⟩ by simp [hearL,hph]]
   exact step_5n s d a ph sh sp sa fr to_ pr pa yb w hph
 ·by_cases hc:finB ph=true∧finB sh=false
  ·rw [show hearL ⟨sh,sp,sa⟩ (R d) 7 a ph=⟨⟨ph,sp,sa⟩,0,false⟩ by simp [hearL,hc]]
   exact step_7y s d a ph sh sp sa fr to_ pr pa yb w hc.2 hc.1
  ·rw [show hearL ⟨sh,sp,sa⟩ (R d) 7 a ph=⟨⟨sh,sp,sa⟩,0,false⟩ by unfold hearL; rw [if_neg (by decide),if_neg (by decide),if_neg (by decide),if_pos (by decide),if_neg hc]]
   exact step_7n s d a ph sh sp sa fr to_ pr pa yb w _ _ rfl rfl hc
 ·exact step_n2 s d a ph sh sp sa fr to_ pr pa yb w
 ·exact step_n4 s d a ph sh sp sa fr to_ pr pa yb w
 ·exact step_n6 s d a ph sh sp sa fr to_ pr pa yb w
end
theorem kept_grown {w w':World} {b:Nat} (h:w.grownBy w' (some b)):Kept (In1 b) w w':=⟨h.os,h.tape,h.output,h.size,fun k hk hs=>h.block k hk (fun e=>hs (Option.some.inj e))⟩
theorem snew_ok (A:Nat→Addr) (id:Int) (p q:Nat) (B:ByteArray) (l:Int) (w:World) (h:Pl w p q B l) (hE:HeldE w A) (hB:B.size≤1000) (h6:216≤B.size) (hl:¬ l=-2) (h0:0≤id) (h7:id<7) :
  Calls Tryz.prog 51 #[.int .i64 id,.pointer (some ⟨p,0,none⟩)] w fun e w'=>∃ s j mb,e=.returned (.tuple #[.pointer (some ⟨s,0,none⟩),.nilIface])∧JR w' j p (dealL B.data.toList) false∧SR w' s j mb id (fun _=>false) 0∧Below w.heap.size w w'∧w.heap.size≤j∧j<mb∧mb<s:=by
 have H:=hid h
 have HE:=hid hE
 clear h hE
 have hmm:=@run_makeMap Tryz.prog
 go_enter Tryz.func51,Tryz.ntmps51
 go_wp2_with (go_at_call 102; (with_reducible refine (open_ok A p q B l _ H.out HE.out hB h6 hl).mono ?_); rintro e w1 ⟨j,rfl,hj,hb,hj0⟩; have HJ:=hid hj; have HB:=hid hb; have HJ0:=hid hj0; clear hj hb hj0)
 go_ret2
 have hs:(w1.alloc (.map #[] 0)).heap.size=w1.heap.size+1:=by simp
 have hb2:Below w1.heap.size w1 (w1.alloc (.map #[] 0)):=(Below.refl _ _).alloc (Nat.le_refl _) _
 have hb3:=hb2.alloc hb2.size (.cells #[.pointer (some ⟨j,0,none⟩),.int .i64 id,.map (some w1.heap.size)] 131)
 refine ⟨w1.heap.size+1,j,w1.heap.size,rfl,HJ.out.later hb3 HJ.out.lt,⟨?_,.map [],(World.ownsMap_made w1 _ _ _).alloc _,fun d _=>rfl⟩,HB.out.trans (hb3.mono HB.out.size),HJ0.out,HJ.out.lt,Nat.lt_succ_self _⟩
 have:=heap_alloc_new (w1.alloc (.map #[] 0)) (.cells #[.pointer (some ⟨j,0,none⟩),.int .i64 id,.map (some w1.heap.size)] 131)
 rw [hs] at this
 exact this
section
variable {w0 w w1 w2:World} {s j mb p q n:Nat} {id:Int} {R:Nat→Bool} {E:Nat→Nat×St} {over:Bool} {B:ByteArray} {l:Int} {A:Nat→Addr}
theorem sp_new (hb:Below w0.heap.size w0 w1) (h:Pl w1 p q B l) (hp:w0.heap.size≤p) (hq:w0.heap.size≤q) (hj:JR w2 j p E over) (hs:SR w2 s j mb id R n) (hb2:Below w1.heap.size w1 w2) (hj0:w1.heap.size≤j) (hm:j<mb) (hms:mb<s) (h0:-2≤l) (h1:l≤9223372036854775807) (hz:B.size≤1000) (h6:216≤B.size) :
  SP w0 w2 s j mb p q id R n E over B l:=by
 have e1:=row_lt h.head
 have e2:=row_lt h.row
 have e3:=hb.size
 exact ⟨jp_new hb h hp hq hj hb2 hj0 h0 h1 hz h6,hs,fun g=>by unfold In3 at g; omega,fun g=>by unfold In3 at g; omega,by omega,by omega,by omega⟩
theorem sstate_is (d h1 h2 h3:Nat) (hj:JR w j p E over) (h:SR w s j mb id R n) (hd:d<6) (hs:(E d).2=⟨h1,h2,h3⟩) :
  Calls Tryz.prog 116 #[.pointer (some ⟨s,0,none⟩),.int .i64 (d:Int)] w fun e w'=>e=.returned (.tuple #[agS h1 h2 h3,.nilIface])∧Below w.heap.size w w':=by
 obtain ⟨W,HW⟩:∃ W,Hid (w.alloc (.cells #[.int .i64 0,.int .i64 0,.int .i64 0] 43)=W):=⟨_,rfl⟩
 have HB:Hid (Below w.heap.size w W):=by rw [← HW.out]; exact (Below.refl _ _).alloc (Nat.le_refl _) _
 have HR:Hid (W.heap[w.heap.size]? = some (.cells #[.int .i64 0,.int .i64 0,.int .i64 0] 43 (0,0))):=by rw [← HW.out]; exact heap_alloc_new w _
 have HJ:=hid (hj.later HB.out hj.lt)
 obtain ⟨x0,x1,x2⟩:=(h.later HB.out).cells
 have HS:=hid hs
 have hW:=HW.out
 clear hj h hs
 go_enter Tryz.func116,Tryz.ntmps116
 go_wp2_with (go_at_call 103; (with_reducible refine (get_is j p d E over h1 h2 h3 _ HJ.out hd HS.out).mono ?_); rintro e w1 ⟨rfl,hb1⟩; have HR1:=hid ((hb1.block _ (row_ltJ HR.out)).trans HR.out); have HB1:=hid (HB.out.trans (hb1.mono HB.out.size)); clear hb1; have c0:w1.cell? ⟨w.heap.size,0,none⟩=some (.int .i64 0):=(cell_of_row _ _ 0 _ _ _ HR1.out); have c1:w1.cell? ⟨w.heap.size,1,none⟩=some (.int .i64 0):=(cell_of_row _ _ 1 _ _ _ HR1.out); have c2:w1.cell? ⟨w.heap.size,2,none⟩=some (.int .i64 0):=(cell_of_row _ _ 2 _ _ _ HR1.out); have z0:=frozen_of_row _ _ 0 _ _ HR1.out; have z1:=frozen_of_row _ _ 1 _ _ HR1.out; have z2:=frozen_of_row _ _ 2 _ _ HR1.out)
 refine bodyPost_ret (results_row2 rfl _ _ w.heap.size 43 _ (0,0) _ rfl (set3 HR1.out _ _ _) Tryz.underlying43 rfl sizeState) rfl ?_
 exact ⟨rfl,((HB1.out.setCell (Nat.le_refl _) _).setCell (Nat.le_refl _) _).setCell (Nat.le_refl _) _⟩
theorem has_upd {D:DataW Unit} {R:Nat→Bool} (hm:Maps.IsMap D) (hh:∀ d:Nat,d<6→Maps.has D (.int .i64 (d:Int))=R d) (x:DataW Unit) (e:Nat):∀ d:Nat,d<6→Maps.has (D.put (.int .i64 (e:Int)) x) (.int .i64 (d:Int))=updR R e d:=by
 intro d hd
 unfold updR
 by_cases g:d=e
 ·subst g
  rw [if_pos rfl]
  exact Maps.has_put_same (k:=.int .i64 (d:Int)) hm (by unfold WideAt.IsKeyLit; trivial) x
 ·rw [if_neg g,Maps.has_put_other (fun h=>g (by injection h with _ h2; omega))]
  exact hh d hd
theorem srefuse_ok (d:Nat) (hj:JR w j p E over) (h:SR w s j mb id R n) (hd:d<6) (hn:n≤1000000) :
  Calls Tryz.prog 54 #[.pointer (some ⟨s,0,none⟩),.int .i64 (d:Int)] w fun e w'=>e=.returned .nilIface∧SR w' s j mb id (updR R d) (n+1)∧Kept (In1 mb) w w'∧s≠mb:=by
 obtain ⟨⟨h1,h2,h3⟩,HS⟩:∃ x,Hid ((E d).2=x):=⟨_,rfl⟩
 have HJ:=hid hj
 have HR:=hid h
 obtain ⟨x0,x1,x2⟩:=h.cells
 have hk:=mkeyN hd
 have hne:s≠mb:=by
  obtain ⟨r,D,⟨es,cl,hb,_⟩,_⟩:=h
  intro e
  subst e
  rw [r] at hb
  cases hb
 clear hj h
 go_enter Tryz.func54,Tryz.ntmps54
 go_wp2_with (first|(go_at_call 103; (with_reducible refine (get_is j p d E over h1 h2 h3 _ HJ.out hd HS.out).mono ?_); rintro e w1 ⟨rfl,hb1⟩; have HR1:=hid (HR.out.later hb1); have HB1:=hid hb1; clear hb1; obtain ⟨D,hD,hh⟩:=HR1.out.ref; have HD:=hid hD; have HH:=hid hh; clear hD hh; obtain ⟨x0,x1,x2⟩:=HR1.out.cells; have hs1:=HR1.out.lts)|(at_mapUpdate; refine wpList_mapUpdate_own _ rfl _ _ _ 129 rfl 3 126 mlaw Tryz.underlying129 (unitElem (H:=Unit)) mb n D rfl (HD.out.alloc _) (by unfold maxLen; omega) _ _ _ rfl rfl hk _ [] unitElem_mk ?_; intro w2 hown2 hgrow2))
 go_ret
 have b2:=(Below.refl w1.heap.size w1).alloc (Nat.le_refl _) (.cells #[.int .i64 (h1:Int),.int .i64 (h2:Int),.int .i64 (h3:Int)] 43)
 have k2:=(Kept.of_below (S:=In1 mb) (HB1.out)).trans ((Kept.of_below b2).trans (kept_grown hgrow2))
 exact ⟨rfl,⟨k2.row HR.out.row hne,_,hown2,has_upd HD.out.isMap HH.out _ d⟩,k2,hne⟩
theorem SP.refuse (h:SP w0 w s j mb p q id R n E over B l) {d:Nat} (hr:SR w1 s j mb id (updR R d) (n+1)) (hk:Kept (In1 mb) w w1):SP w0 w1 s j mb p q id (updR R d) (n+1) E over B l :=
 ⟨h.jp.far hk (fun x e=>by unfold In1 at e; rw [e]; exact h.m0) (fun x hx e=>by unfold In1 at e; exact h.nm (e ▸ hx)),hr,h.ns,h.nm,h.sm,h.s0,h.m0⟩
end
end Go.Proofs.YtadhpkopkkjmfaaGreatDoor
