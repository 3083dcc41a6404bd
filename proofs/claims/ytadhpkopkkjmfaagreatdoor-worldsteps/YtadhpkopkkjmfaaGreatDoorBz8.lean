/-
  On the way to WStepsProof: L2 L3 L4 L5 L6.
-/
import Derived.Test.YtadhpkopkkjmfaaGreatDoorBz3
import Derived.Test.YtadhpkopkkjmfaaGreatDoorBz2
import Derived.Laws.ResultCell
set_option maxHeartbeats 8000000
set_option maxRecDepth 100000
namespace Go.Proofs.YtadhpkopkkjmfaaGreatDoor
open Go.RowKit
theorem Tryz.infoFr:(Tryz.prog.info? 104).map (fun i=>(i.zero,i.size,i.bytes))=some (some (frV 0 0 0 0 0 false 0 0 0),9,72):=by kernel_rfl
def sentL (id:Nat) (deal kind att ph:Int) (itself:Bool):Nat→List F9
 | 0=>[]
 | k+1=>if k=id∧itself=false then sentL id deal kind att ph itself k else sentL id deal kind att ph itself k ++ [⟨id,k,deal,kind,att,false,ph,0,0⟩]
theorem sentL_le (id:Nat) (deal kind att ph:Int) (itself:Bool):∀ k,(sentL id deal kind att ph itself k).length≤k
 | 0=>Nat.le_refl _
 | k+1=>by
  have:=sentL_le id deal kind att ph itself k
  unfold sentL
  split
  ·omega
  ·rw [List.length_append]; simp; omega
def rlC (id deal att:Int) (vw:Value) (st:ByteArray) (wait:Int) (vh:Value) (ph seen:Int):Array Value:=#[.int .i64 id,.int .i64 deal,.int .i64 att,vw,.string st,.int .i64 wait,vh,.int .i64 ph,.int .i64 seen]
theorem lit_cellsF (w:World) (t:TypeId) (L:List Value):∀ j u,L[j]? = some u→(w.alloc (.cells L.toArray t)).cell? ((⟨w.heap.size,0,none⟩:Addr).add j)=some u:=by
 intro j u h
 rw [addr_add,cell_of_row _ _ _ _ _ _ (heap_alloc_new w _),List.getElem?_toArray,Nat.zero_add]
 exact h
theorem f9_one (x:F9):∀ u∈f9L x,u.oneCell'=true:=by
 intro u hu
 simp [f9L] at hu
 rcases hu with rfl|rfl|rfl|rfl|rfl|rfl|rfl|rfl|rfl <;> rfl
theorem rlsend_any (lb id n cap:Nat) (deal kind att ph:Int) (itself:Bool) (aw:Option Addr) (st:ByteArray) (wait:Int) (vh:Value) (ph0 seen:Int) (w:World)
  (h:w.heap[lb]? = some (.cells (rlC id deal att (.slice aw n cap) st wait vh ph0 seen) 194 (0,0))) (hn:n≤30) :
  Calls Tryz.prog 124 #[.pointer (some ⟨lb,0,none⟩),.int .i64 kind,.int .i64 ph,.bool itself] w fun e w'=>∃ v,e=.returned v∧w'.ownsRow w.heap.size 104 9 v (sentL id deal kind att ph itself n).length (frCells (sentL id deal kind att ph itself n))∧Below w.heap.size w w':=by
 obtain ⟨i0,hi,hz0,hz1,hz2⟩:=info_parts Tryz.infoFr
 have H:=hid h
 clear h
 unfold rlC at H
 obtain ⟨L,HL⟩:∃ L,Hid (sentL id deal kind att ph itself=L):=⟨_,rfl⟩
 rw [HL.out]
 have HLE:Hid (∀ k,(L k).length≤k):=by rw [← HL.out]; exact sentL_le _ _ _ _ _ _
 have H0:Hid (L 0=[]):=by rw [← HL.out]; rfl
 go_enter Tryz.func124,Tryz.ntmps124
 go_wp2_with fail
 go_loopw [9,10] (fun v i wr=>∃ k:Nat,k≤n∧i=.int .i64 (k:Int)∧wr.ownsRow w.heap.size 104 9 v (L k).length (frCells (L k))∧Below w.heap.size w wr) (fun _ i _=>n - (intOf i).toNat)
 case atStart=>exact ⟨0,Nat.zero_le _,rfl,by rw [H0.out]; exact World.ownsRow_nil _ _ _ _,Below.refl _ _⟩
 case round =>
  obtain ⟨k,hk,rfl,hown,hb⟩:=hrel
  have HO:=hid hown
  have HB:=hid hb
  have hr:=(hb.block _ (row_ltJ H.out)).trans H.out
  have c0:wr.cell? ⟨lb,0,none⟩=some (.int .i64 (id:Int)):=by rw [cell_of_row _ _ _ _ _ _ hr]; rfl
  have c1:wr.cell? ⟨lb,1,none⟩=some (.int .i64 deal):=by rw [cell_of_row _ _ _ _ _ _ hr]; rfl
  have c2:wr.cell? ⟨lb,2,none⟩=some (.int .i64 att):=by rw [cell_of_row _ _ _ _ _ _ hr]; rfl
  have c3:wr.cell? ⟨lb,3,none⟩=some (.slice aw n cap):=by rw [cell_of_row _ _ _ _ _ _ hr]; rfl
  have hlb:lb<wr.heap.size:=row_ltJ hr
  have hle:=HLE.out k
  clear hown hb hr
  by_cases hlt:k<n
  ·by_cases hki:k=id∧itself=false
   ·obtain ⟨rfl,rfl⟩:=hki
    have HS:Hid (L (k+1)=L k):=by rw [← HL.out]; unfold Hid; exact if_pos ⟨rfl,rfl⟩
    go_wp2_with fail
    go_roundw
    case rel=>exact ⟨k+1,by omega,by go_num,by rw [HS.out]; exact HO.out,HB.out⟩
    case measure=>simp [intOf]; omega
   ·have HS:Hid (L (k+1)=L k ++ [⟨id,k,deal,kind,att,false,ph,0,0⟩]):=by rw [← HL.out]; unfold Hid; exact if_neg hki
    have HS2:Hid ((L (k+1)).length=(L k).length+1∧frCells (L (k+1))=frCells (L k) ++ f9L ⟨id,k,deal,kind,att,false,ph,0,0⟩):=by
     rw [HS.out]
     exact ⟨by simp,by rw [frCells_append]; rfl⟩
    by_cases e:k=id
    ·have hit:itself=true:=by
      cases itself with
      | true=>rfl
      | false=>exact absurd ⟨e,rfl⟩ hki
     subst hit
     clear hki
     subst e
     have HZ:=World.ownsRow.alloc HO.out
     have hws:=HB.out.size
     go_wp2_with fail
     go_region_law ((refine step_append_lies _ (by rfl) _ _ _ (by rfl) w.heap.size 104 i0 (frV 0 0 0 0 0 false 0 0 0) 9 72 Tryz.underlying34 hi hz0 hz1 hz2 (by rfl) (by decide) _ (L k).length (frCells (L k)) (by rfl) (by exact HZ _) ⟨wr.heap.size,0,none⟩ 1 1 (f9L ⟨k,k,deal,kind,att,false,ph,0,0⟩) (by rfl) (by rfl) (by exact lit_cellsF wr 104 (f9L ⟨k,k,deal,kind,att,false,ph,0,0⟩)) (by exact f9_one _) (by decide) (by unfold maxLen; omega) (by omega) (by exact Nat.le_trans hws (by simp)) (wr.heap.size+1) (by simp) ?_; intro g5 c5 w5 hown5 hg5 hat5 hlt5; have HQ5:=hid (And.intro (show w5.ownsRow w.heap.size 104 9 (.slice (some ⟨g5,0,none⟩) ((L k).length+1) c5) (L (k+1)).length (frCells (L (k+1))) by rw [HS2.out.1,HS2.out.2]; exact hown5) ((HB.out.alloc HB.out.size (.cells (f9L ⟨k,k,deal,kind,att,false,ph,0,0⟩).toArray 104)).drew.grown hg5 (by simp; omega) (fun j hj=>(HO.out.lt j hj).1))); clear hown5 hg5 hat5))
     all_goals go_wp2_with fail
     all_goals go_roundw
     all_goals first|exact ⟨k+1,by omega,by go_num,HQ5.out.1,HQ5.out.2⟩|exact ⟨k+1,by omega,by go_num,HQ5.out.1,HQ5.out.2.drew⟩|(simp [intOf]; omega)
    ·have hne:¬ (k:Int)=(id:Int):=by omega
     clear hki
     have HZ:=World.ownsRow.alloc HO.out
     have hws:=HB.out.size
     go_wp2_with fail
     go_region_law ((refine step_append_lies _ (by rfl) _ _ _ (by rfl) w.heap.size 104 i0 (frV 0 0 0 0 0 false 0 0 0) 9 72 Tryz.underlying34 hi hz0 hz1 hz2 (by rfl) (by decide) _ (L k).length (frCells (L k)) (by rfl) (by exact HZ _) ⟨wr.heap.size,0,none⟩ 1 1 (f9L ⟨id,k,deal,kind,att,false,ph,0,0⟩) (by rfl) (by rfl) (by exact lit_cellsF wr 104 (f9L ⟨id,k,deal,kind,att,false,ph,0,0⟩)) (by exact f9_one _) (by decide) (by unfold maxLen; omega) (by omega) (by exact Nat.le_trans hws (by simp)) (wr.heap.size+1) (by simp) ?_; intro g5 c5 w5 hown5 hg5 hat5 hlt5; have HQ5:=hid (And.intro (show w5.ownsRow w.heap.size 104 9 (.slice (some ⟨g5,0,none⟩) ((L k).length+1) c5) (L (k+1)).length (frCells (L (k+1))) by rw [HS2.out.1,HS2.out.2]; exact hown5) ((HB.out.alloc HB.out.size (.cells (f9L ⟨id,k,deal,kind,att,false,ph,0,0⟩).toArray 104)).drew.grown hg5 (by simp; omega) (fun j hj=>(HO.out.lt j hj).1))); clear hown5 hg5 hat5))
     all_goals go_wp2_with fail
     all_goals go_roundw
     all_goals first|exact ⟨k+1,by omega,by go_num,HQ5.out.1,HQ5.out.2⟩|exact ⟨k+1,by omega,by go_num,HQ5.out.1,HQ5.out.2.drew⟩|(simp [intOf]; omega)
  ·obtain rfl:k=n:=by omega
   go_wp2_with fail
   go_ret
   exact ⟨_,rfl,HO.out,HB.out⟩
theorem resF2 {P:Program} {fn:Func} {p u:Tmp} {ty:TypeId} (h:fn.results=#[.cell p ty,.tmp u]) (tmps:Array Value) (w:World) (g:Nat) (t:TypeId) (cs:Array Value) (fr:Nat×Nat) (d:TypeDesc)
  (hp:tmps.getD p undef=.pointer (some ⟨g,0,none⟩)) (hg:w.heap[g]? = some (.cells cs t fr))
  (hu:P.underlying ty=some d) (hd:(match d with|.struct _|.array _ _=>true|_=>false)=true) (hi:(P.info? ty).map (·.size)=some cs.size) :
  (results fn tmps).run P w=.ok (.tuple #[.agg cs,tmps.getD u undef]) w:=by
 rw [results_cell_tmp h,hp]
 simp [asAddr,run_loadVar_row w g t ty cs fr d hg hu hd hi]
theorem sizeF9:(Tryz.prog.info? 104).map (·.size)=some 9:=by kernel_rfl
theorem FL.owned {w:World} {base:Nat} {v:Value} {L:List F9} (h:w.ownsRow base 104 9 v L.length (frCells L)):∃ ad cap,v=.slice ad L.length cap∧FL w ad L:=IsFr.owned h
structure RLd (w:World) (lb id n cap:Nat) (deal att:Int) (aw:Option Addr) (st:ByteArray) (wait:Int) (vh:Value) (hs:List F9) (ph seen:Int):Prop where
 row:w.heap[lb]? = some (.cells (rlC id deal att (.slice aw n cap) st wait vh ph seen) 194 (0,0))
 own:w.ownsRow (lb+1) 104 9 vh hs.length (frCells hs)
section
variable {w w':World} {lb id n cap:Nat} {deal att:Int} {aw:Option Addr} {st:ByteArray} {wait:Int} {vh:Value} {hs:List F9} {ph seen:Int}
theorem RLd.later (h:RLd w lb id n cap deal att aw st wait vh hs ph seen) (hb:Below w.heap.size w w'):RLd w' lb id n cap deal att aw st wait vh hs ph seen :=
 ⟨(hb.block _ (row_ltJ h.row)).trans h.row,own_later h.own hb (Nat.le_refl _)⟩
theorem RLd.cells (h:RLd w lb id n cap deal att aw st wait vh hs ph seen):w.cell? ⟨lb,0,none⟩=some (.int .i64 (id:Int))∧w.cell? ⟨lb,1,none⟩=some (.int .i64 deal)∧w.cell? ⟨lb,2,none⟩=some (.int .i64 att)∧w.cell? ⟨lb,3,none⟩=some (.slice aw n cap)∧w.cell? ⟨lb,4,none⟩=some (.string st)∧w.cell? ⟨lb,5,none⟩=some (.int .i64 wait)∧w.cell? ⟨lb,6,none⟩=some vh∧w.cell? ⟨lb,7,none⟩=some (.int .i64 ph)∧w.cell? ⟨lb,8,none⟩=some (.int .i64 seen):=by
 refine ⟨?_,?_,?_,?_,?_,?_,?_,?_,?_⟩ <;> rw [cell_of_row _ _ _ _ _ _ h.row] <;> rfl
theorem RLd.fz (h:RLd w lb id n cap deal att aw st wait vh hs ph seen) (i:Nat):w.frozen? ⟨lb,i,none⟩=false:=frozen_of_row w lb i _ _ h.row
end
theorem below9 {w W:World} (h:Below w.heap.size w W) (x0 x1 x2 x3 x4 x5 x6 x7 x8:Value) :
  Below w.heap.size w (((((((((W.setCell ⟨w.heap.size,0,none⟩ x0).setCell ⟨w.heap.size,1,none⟩ x1).setCell ⟨w.heap.size,2,none⟩ x2).setCell ⟨w.heap.size,3,none⟩ x3).setCell ⟨w.heap.size,4,none⟩ x4).setCell ⟨w.heap.size,5,none⟩ x5).setCell ⟨w.heap.size,6,none⟩ x6).setCell ⟨w.heap.size,7,none⟩ x7).setCell ⟨w.heap.size,8,none⟩ x8) :=
 ((((((((h.setCell (Nat.le_refl _) _).setCell (Nat.le_refl _) _).setCell (Nat.le_refl _) _).setCell (Nat.le_refl _) _).setCell (Nat.le_refl _) _).setCell (Nat.le_refl _) _).setCell (Nat.le_refl _) _).setCell (Nat.le_refl _) _).setCell (Nat.le_refl _) _
def fromL (hs:List F9) (i:Int):Option F9:=hs.find? fun x=>decide (x.f=i)
theorem fromL_none {hs:List F9} {i:Int} (h:∀ k (hk:k<hs.length),(hs[k]'hk).f≠i):fromL hs i=none:=by
 unfold fromL
 rw [List.find?_eq_none]
 intro x hx
 obtain ⟨k,hk,rfl⟩:=List.getElem_of_mem hx
 simpa using h k hk
theorem fromL_some {hs:List F9} {i:Int} {k:Nat} (hk:k<hs.length) (h:(hs[k]'hk).f=i) (hb:∀ j (hj:j<k),(hs[j]'(Nat.lt_trans hj hk)).f≠i):fromL hs i=some (hs[k]'hk):=by
 unfold fromL
 rw [List.find?_eq_some_iff_getElem]
 exact ⟨by simpa using h,k,hk,rfl,fun j hj=>by simpa using hb j hj⟩
def frO (x:Option F9):Value:=match x with
 | none=>frV 0 0 0 0 0 false 0 0 0
 | some y=>frV y.f y.t y.d y.k y.a y.y y.ph y.pr y.pa
theorem frO_none:frO none=frV 0 0 0 0 0 false 0 0 0:=rfl
theorem rlfrom_any (lb id n cap:Nat) (deal att:Int) (aw:Option Addr) (st:ByteArray) (wait:Int) (vh:Value) (hs:List F9) (ph seen i:Int) (w:World) (h:RLd w lb id n cap deal att aw st wait vh hs ph seen) (hl:hs.length≤1000) :
  Calls Tryz.prog 159 #[.pointer (some ⟨lb,0,none⟩),.int .i64 i] w fun e w'=>e=.returned (.tuple #[frO (fromL hs i),.bool (fromL hs i).isSome])∧Below w.heap.size w w':=by
 obtain ⟨W,HW⟩:∃ W,Hid (w.alloc (.cells #[.int .i64 0,.int .i64 0,.int .i64 0,.int .i64 0,.int .i64 0,.bool false,.int .i64 0,.int .i64 0,.int .i64 0] 104)=W):=⟨_,rfl⟩
 have HB:Hid (Below w.heap.size w W):=by rw [← HW.out]; exact (Below.refl _ _).alloc (Nat.le_refl _) _
 have HR:Hid (W.heap[w.heap.size]? = some (.cells #[.int .i64 0,.int .i64 0,.int .i64 0,.int .i64 0,.int .i64 0,.bool false,.int .i64 0,.int .i64 0,.int .i64 0] 104 (0,0))):=by rw [← HW.out]; exact heap_alloc_new w _
 have hlt0:lb<w.heap.size:=row_ltJ h.row
 have HI:=hid (h.later HB.out)
 clear h
 obtain ⟨ad,cp,rfl,hfl⟩:=FL.owned HI.out.own
 have HF:=hid hfl
 clear hfl
 obtain ⟨c0,c1,c2,c3,c4,c5,c6,c7,c8⟩:=HI.out.cells
 obtain ⟨r0,r1,r2,r3,r4,r5,r6,r7,r8⟩:=nine HR.out
 have z0:=frozen_of_row W w.heap.size 0 _ _ HR.out
 have z1:=frozen_of_row W w.heap.size 1 _ _ HR.out
 have z2:=frozen_of_row W w.heap.size 2 _ _ HR.out
 have z3:=frozen_of_row W w.heap.size 3 _ _ HR.out
 have z4:=frozen_of_row W w.heap.size 4 _ _ HR.out
 have z5:=frozen_of_row W w.heap.size 5 _ _ HR.out
 have z6:=frozen_of_row W w.heap.size 6 _ _ HR.out
 have z7:=frozen_of_row W w.heap.size 7 _ _ HR.out
 have z8:=frozen_of_row W w.heap.size 8 _ _ HR.out
 have hW:=HW.out
 go_enter Tryz.func159,Tryz.ntmps159
 go_wp2_with fail
 go_loopw [6] (fun v wr=>∃ k:Nat,k≤hs.length∧v=.int .i64 (k:Int)∧W=wr∧∀ j (hj:j<hs.length),j<k→(hs[j]'hj).f≠i) (fun v _=>hs.length - (intOf v).toNat)
 case atStart=>exact ⟨0,Nat.zero_le _,rfl,rfl,fun j _ hj=>absurd hj (Nat.not_lt_zero _)⟩
 case round =>
  obtain ⟨k,hk,rfl,rfl,hno⟩:=hrel
  have HNo:=hid hno
  clear hno
  by_cases hlt:k<hs.length
  ·obtain ⟨b,o,rfl,hq⟩:=HF.out k hlt
   obtain ⟨x,HXk⟩:∃ x,Hid (hs[k]'hlt=x):=⟨_,rfl⟩
   rw [HXk.out] at hq
   obtain ⟨xf,xt,xd,xk,xa,xy,xph,xpr,xpa⟩:=x
   obtain ⟨a0,a1,a2,a3,a4,a5,a6,a7,a8⟩:=nineO hq
   simp only at a0 a1 a2 a3 a4 a5 a6 a7 a8
   clear hq
   by_cases hx:xf=i
   ·subst hx
    have HFo:Hid (fromL hs xf=some ⟨xf,xt,xd,xk,xa,xy,xph,xpr,xpa⟩):=by
     have:=fromL_some (i:=xf) hlt (by rw [HXk.out]) (fun j hj=>HNo.out j (Nat.lt_trans hj hlt) hj)
     rw [HXk.out] at this
     exact this
    go_wp2_with fail
    refine bodyPost_ret (resF2 rfl _ _ w.heap.size 104 _ (0,0) _ rfl (set9 HR.out _ _ _ _ _ _ _ _ _) Tryz.underlying104 rfl sizeF9) rfl ?_
    exact ⟨by rw [HFo.out]; rfl,below9 HB.out _ _ _ _ _ _ _ _ _⟩
   ·go_wp2_with fail
    go_roundw
    case rel =>
     refine ⟨k+1,by omega,by go_num,by first|rfl|trivial,fun j hj hjk=>?_⟩
     by_cases e:j=k
     ·subst e; rw [HXk.out]; exact hx
     ·exact HNo.out j hj (by omega)
    case measure=>simp [intOf]; omega
  ·obtain rfl:k=hs.length:=by omega
   have HFo:Hid (fromL hs i=none):=fromL_none (fun j hj=>HNo.out j hj hj)
   go_wp2_with fail
   refine bodyPost_ret (resF2 rfl _ _ w.heap.size 104 _ (0,0) _ rfl (set9 HR.out _ _ _ _ _ _ _ _ _) Tryz.underlying104 rfl sizeF9) rfl ?_
   exact ⟨by rw [HFo.out]; rfl,below9 HB.out _ _ _ _ _ _ _ _ _⟩
def stB (k:Nat):ByteArray:=if k=0 then ⟨#[97,115,107,105,110,103]⟩ else if k=1 then ⟨#[112,114,101,112,97,114,105,110,103]⟩ else if k=2 then ⟨#[100,111,110,101]⟩ else ⟨#[114,101,102,117,115,101,100]⟩
theorem stB0:stB 0=⟨#[97,115,107,105,110,103]⟩:=rfl
theorem stB1:stB 1=⟨#[112,114,101,112,97,114,105,110,103]⟩:=rfl
theorem stB2:stB 2=⟨#[100,111,110,101]⟩:=rfl
theorem stB3:stB 3=⟨#[114,101,102,117,115,101,100]⟩:=rfl
section
variable {w w':World} {lb id n cap:Nat} {deal att:Int} {aw:Option Addr} {st:ByteArray} {wait:Int} {vh:Value} {hs:List F9} {ph seen:Int}
theorem RLd.ownSet (h:RLd w lb id n cap deal att aw st wait vh hs ph seen) (i:Nat) (v:Value):(w.setCell ⟨lb,i,none⟩ v).ownsRow (lb+1) 104 9 vh hs.length (frCells hs):=by
 refine ⟨h.own.1,?_⟩
 rcases h.own.2 with hn|⟨g,cap,cur,rfl,hb',hgg,rest⟩
 ·exact .inl hn
 ·exact .inr ⟨g,cap,cur,rfl,hb',(heap_setCell_other _ _ _ _ (by show g≠lb; omega)).trans hgg,rest⟩
theorem RLd.setSt (h:RLd w lb id n cap deal att aw st wait vh hs ph seen) (x:ByteArray):RLd (w.setCell ⟨lb,4,none⟩ (.string x)) lb id n cap deal att aw x wait vh hs ph seen :=
 ⟨by rw [heap_setCell_same w lb 4 _ _ _ h.row]; rfl,h.ownSet 4 _⟩
theorem RLd.setWait (h:RLd w lb id n cap deal att aw st wait vh hs ph seen) (x:Int):RLd (w.setCell ⟨lb,5,none⟩ (.int .i64 x)) lb id n cap deal att aw st x vh hs ph seen :=
 ⟨by rw [heap_setCell_same w lb 5 _ _ _ h.row]; rfl,h.ownSet 5 _⟩
theorem RLd.setNone (h:RLd w lb id n cap deal att aw st wait vh hs ph seen):RLd (w.setCell ⟨lb,6,none⟩ (.slice none 0 0)) lb id n cap deal att aw st wait (.slice none 0 0) [] ph seen :=
 ⟨by rw [heap_setCell_same w lb 6 _ _ _ h.row]; rfl,World.ownsRow_nil _ _ _ _⟩
theorem RLd.setPh (h:RLd w lb id n cap deal att aw st wait vh hs ph seen) (x:Int):RLd (w.setCell ⟨lb,7,none⟩ (.int .i64 x)) lb id n cap deal att aw st wait vh hs x seen :=
 ⟨by rw [heap_setCell_same w lb 7 _ _ _ h.row]; rfl,h.ownSet 7 _⟩
theorem RLd.setSeen (h:RLd w lb id n cap deal att aw st wait vh hs ph seen) (x:Int):RLd (w.setCell ⟨lb,8,none⟩ (.int .i64 x)) lb id n cap deal att aw st wait vh hs ph x :=
 ⟨by rw [heap_setCell_same w lb 8 _ _ _ h.row]; rfl,h.ownSet 8 _⟩
theorem rldecide_any (p:Int) (h:RLd w lb id n cap deal att aw st wait vh hs ph seen) (hn:n≤30) :
  Calls Tryz.prog 160 #[.pointer (some ⟨lb,0,none⟩),.int .i64 p] w fun e w'=>∃ v,e=.returned v∧IsFr w' v (sentL id deal 7 att p true n)∧RLd w' lb id n cap deal att aw (stB 2) 0 vh hs ph seen∧Kept (In1 lb) w w':=by
 obtain ⟨c0,c1,c2,c3,c4,c5,c6,c7,c8⟩:=h.cells
 have z4:=h.fz 4
 have z5:=h.fz 5
 have HX:=hid ((h.setSt (stB 2)).setWait 0)
 have HK:Hid (Kept (In1 lb) w ((w.setCell ⟨lb,4,none⟩ (.string (stB 2))).setCell ⟨lb,5,none⟩ (.int .i64 0))):=((Kept.refl _ _).set1 4 _).set1 5 _
 rw [stB2] at HX HK ⊢
 clear h
 go_enter Tryz.func160,Tryz.ntmps160
 go_wp2_with fail
 refine (rlsend_any lb id n cap deal 7 att p true aw _ 0 vh ph seen _ HX.out.row hn).mono ?_
 rintro e w1 ⟨v,rfl,ho,hb⟩
 have HV:=hid (IsFr.owned ho)
 have HR:=hid (HX.out.later hb)
 have HK2:=hid (HK.out.trans (Kept.of_below hb))
 clear ho hb
 go_wp2_with fail
 go_ret
 exact ⟨_,rfl,HV.out,HR.out,HK2.out⟩
theorem rlprepare_any (p:Int) (h:RLd w lb id n cap deal att aw st wait vh hs ph seen) (hn:n≤30) :
  Calls Tryz.prog 161 #[.pointer (some ⟨lb,0,none⟩),.int .i64 p] w fun e w'=>∃ v,e=.returned v∧IsFr w' v (sentL id deal 5 att p true n)∧RLd w' lb id n cap deal att aw (stB 1) 6 (.slice none 0 0) [] p seen∧Kept (In1 lb) w w':=by
 obtain ⟨c0,c1,c2,c3,c4,c5,c6,c7,c8⟩:=h.cells
 have z4:=h.fz 4
 have z5:=h.fz 5
 have z6:=h.fz 6
 have z7:=h.fz 7
 have HX:=hid ((((h.setSt (stB 1)).setWait 6).setNone).setPh p)
 have HK:Hid (Kept (In1 lb) w ((((w.setCell ⟨lb,4,none⟩ (.string (stB 1))).setCell ⟨lb,5,none⟩ (.int .i64 6)).setCell ⟨lb,6,none⟩ (.slice none 0 0)).setCell ⟨lb,7,none⟩ (.int .i64 p))):=((((Kept.refl _ _).set1 4 _).set1 5 _).set1 6 _).set1 7 _
 rw [stB1] at HX HK ⊢
 clear h
 go_enter Tryz.func161,Tryz.ntmps161
 go_wp2_with fail
 refine (rlsend_any lb id n cap deal 5 att p true aw _ 6 _ p seen _ HX.out.row hn).mono ?_
 rintro e w1 ⟨v,rfl,ho,hb⟩
 have HV:=hid (IsFr.owned ho)
 have HR:=hid (HX.out.later hb)
 have HK2:=hid (HK.out.trans (Kept.of_below hb))
 clear ho hb
 go_wp2_with fail
 go_ret
 exact ⟨_,rfl,HV.out,HR.out,HK2.out⟩
def startL (id:Nat) (deal att:Int) (n:Nat):List F9:=if att=0 then sentL id deal 1 att 0 true n else sentL id deal 3 att 0 false n
theorem rlstart_any (h:RLd w lb id n cap deal att aw st wait vh hs ph seen) (hn:n≤30) :
  Calls Tryz.prog 123 #[.pointer (some ⟨lb,0,none⟩)] w fun e w'=>∃ v,e=.returned v∧IsFr w' v (startL id deal att n)∧Below w.heap.size w w':=by
 obtain ⟨c0,c1,c2,c3,c4,c5,c6,c7,c8⟩:=h.cells
 have HX:=hid h
 clear h
 unfold startL
 by_cases ha:att=0
 ·rw [if_pos ha]
  subst ha
  go_enter Tryz.func123,Tryz.ntmps123
  go_wp2_with fail
  refine (rlsend_any lb id n cap deal 1 0 0 true aw _ wait vh ph seen _ HX.out.row hn).mono ?_
  rintro e w1 ⟨v,rfl,ho,hb⟩
  have HV:=hid (IsFr.owned ho)
  have HB:=hid hb
  clear ho hb
  go_wp2_with fail
  go_ret
  exact ⟨_,rfl,HV.out,HB.out⟩
 ·rw [if_neg ha]
  go_enter Tryz.func123,Tryz.ntmps123
  go_wp2_with fail
  refine (rlsend_any lb id n cap deal 3 att 0 false aw _ wait vh ph seen _ HX.out.row hn).mono ?_
  rintro e w1 ⟨v,rfl,ho,hb⟩
  have HV:=hid (IsFr.owned ho)
  have HB:=hid hb
  clear ho hb
  go_wp2_with fail
  go_ret
  exact ⟨_,rfl,HV.out,HB.out⟩
end
theorem rlnew_any (id n cap:Nat) (deal att:Int) (aw:Option Addr) (w:World) :
  Calls Tryz.prog 121 #[.int .i64 (id:Int),.int .i64 deal,.slice aw n cap,.int .i64 att] w fun e w'=>∃ lb,e=.returned (.pointer (some ⟨lb,0,none⟩))∧RLd w' lb id n cap deal att aw (stB 0) (if att=0 then 2 else 4) (.slice none 0 0) [] 0 0∧Below w.heap.size w w'∧w.heap.size≤lb:=by
 rw [stB0]
 by_cases ha:att=0
 ·rw [if_pos ha]
  subst ha
  go_enter Tryz.func121,Tryz.ntmps121
  go_wp2_with fail
  go_ret
  exact ⟨_,rfl,⟨heap_alloc_new w _,World.ownsRow_nil _ _ _ _⟩,(Below.refl _ _).alloc (Nat.le_refl _) _,Nat.le_refl _⟩
 ·rw [if_neg ha]
  go_enter Tryz.func121,Tryz.ntmps121
  go_wp2_with fail
  go_ret
  exact ⟨_,rfl,⟨heap_alloc_new w _,World.ownsRow_nil _ _ _ _⟩,(Below.refl _ _).alloc (Nat.le_refl _) _,Nat.le_refl _⟩
end Go.Proofs.YtadhpkopkkjmfaaGreatDoor
namespace Go.Proofs.YtadhpkopkkjmfaaGreatDoor
structure LSt where
 wait:Int
 stt:Nat
 hs:List F9
 ph:Int
 seen:Int
abbrev forL (n id:Nat) (deal att:Int) (L:LSt) (f:F9):Prop:=L.wait≠0∧f.k=L.wait∧f.d=deal∧f.a=att∧f.t=id∧0≤f.f∧f.f<n
def toldTo (hs:List F9):Nat→List S3
 | 0=>[]
 | k+1=>match fromL hs k with
  | none=>toldTo hs k
  | some x=>toldTo hs k ++ [⟨x.ph,x.pr,x.pa⟩]
def setTo (hs:List F9):Nat→Int
 | 0=>0
 | k+1=>if (fromL hs k).isSome=true then setTo hs k+2 ^ k else setTo hs k
theorem setTo_bd (hs:List F9):∀ k,0≤setTo hs k∧setTo hs k<2 ^ k
 | 0=>⟨Int.le_refl _,by show (0:Int)<1; decide⟩
 | k+1=>by
  obtain ⟨h0,h1⟩:=setTo_bd hs k
  have e:(2:Int) ^ (k+1)=2 * 2 ^ k:=by rw [Int.pow_succ]; omega
  unfold setTo
  rw [e]
  split <;> omega
theorem toldTo_le (hs:List F9):∀ k,(toldTo hs k).length≤k
 | 0=>Nat.le_refl _
 | k+1=>by
  have:=toldTo_le hs k
  unfold toldTo
  split
  ·omega
  ·rw [List.length_append]; simp; omega
def seenL (L:LSt) (f:F9):Int:=if f.k≠2∧L.seen<f.pr then f.pr else L.seen
def lhear (zs:List Int) (id:Nat) (deal att:Int) (L:LSt) (f:F9):LSt×Option (Int×Int) :=
 if forL zs.length id deal att L f∧(fromL L.hs f.f).isSome=false then
  (if f.y=false then (if f.k=2 then (⟨0,2,L.hs,L.ph,seenL L f⟩,some (7,3)) else (⟨0,3,L.hs,L.ph,seenL L f⟩,none))
  else if f.k=2 then (if (L.hs ++ [f]).length=zs.length then (⟨6,1,[],4,seenL L f⟩,some (5,4)) else (⟨L.wait,L.stt,L.hs ++ [f],L.ph,seenL L f⟩,none))
  else if enoughB zs (setTo (L.hs ++ [f]) zs.length)=false then (⟨L.wait,L.stt,L.hs ++ [f],L.ph,seenL L f⟩,none)
  else if f.k=6 then (⟨0,2,L.hs ++ [f],L.ph,seenL L f⟩,some (7,afterI L.ph))
  else if (refL (toldTo (L.hs ++ [f]) zs.length)).2=true then (⟨0,2,L.hs ++ [f],L.ph,seenL L f⟩,some (7,(refL (toldTo (L.hs ++ [f]) zs.length)).1))
  else (⟨6,1,[],(refL (toldTo (L.hs ++ [f]) zs.length)).1,seenL L f⟩,some (5,(refL (toldTo (L.hs ++ [f]) zs.length)).1)))
 else (L,none)
theorem lhear_pass {zs:List Int} {id:Nat} {deal att:Int} {L:LSt} {f:F9} (h:¬ (forL zs.length id deal att L f∧(fromL L.hs f.f).isSome=false)):lhear zs id deal att L f=(L,none):=by
 unfold lhear
 exact if_neg h
section
variable {zs:List Int} {id:Nat} {deal att:Int} {L:LSt} {f:F9}
theorem lhear_no (h:forL zs.length id deal att L f∧(fromL L.hs f.f).isSome=false) (hy:f.y=false) (hk:f.k≠2):lhear zs id deal att L f=(⟨0,3,L.hs,L.ph,seenL L f⟩,none):=by
 unfold lhear
 rw [if_pos h,if_pos hy,if_neg hk]
theorem lhear_no2 (h:forL zs.length id deal att L f∧(fromL L.hs f.f).isSome=false) (hy:f.y=false) (hk:f.k=2):lhear zs id deal att L f=(⟨0,2,L.hs,L.ph,seenL L f⟩,some (7,3)):=by
 unfold lhear
 rw [if_pos h,if_pos hy,if_pos hk]
theorem lhear_all (h:forL zs.length id deal att L f∧(fromL L.hs f.f).isSome=false) (hy:¬ f.y=false) (hk:f.k=2) (hn:(L.hs ++ [f]).length=zs.length):lhear zs id deal att L f=(⟨6,1,[],4,seenL L f⟩,some (5,4)):=by
 unfold lhear
 rw [if_pos h,if_neg hy,if_pos hk,if_pos hn]
theorem lhear_some (h:forL zs.length id deal att L f∧(fromL L.hs f.f).isSome=false) (hy:¬ f.y=false) (hk:f.k=2) (hn:¬ (L.hs ++ [f]).length=zs.length):lhear zs id deal att L f=(⟨L.wait,L.stt,L.hs ++ [f],L.ph,seenL L f⟩,none):=by
 unfold lhear
 rw [if_pos h,if_neg hy,if_pos hk,if_neg hn]
theorem lhear_few (h:forL zs.length id deal att L f∧(fromL L.hs f.f).isSome=false) (hy:¬ f.y=false) (hk:¬ f.k=2) (hn:enoughB zs (setTo (L.hs ++ [f]) zs.length)=false):lhear zs id deal att L f=(⟨L.wait,L.stt,L.hs ++ [f],L.ph,seenL L f⟩,none):=by
 unfold lhear
 rw [if_pos h,if_neg hy,if_neg hk,if_pos hn]
theorem lhear_ack (h:forL zs.length id deal att L f∧(fromL L.hs f.f).isSome=false) (hy:¬ f.y=false) (hk:¬ f.k=2) (hn:¬ enoughB zs (setTo (L.hs ++ [f]) zs.length)=false) (h6:f.k=6):lhear zs id deal att L f=(⟨0,2,L.hs ++ [f],L.ph,seenL L f⟩,some (7,afterI L.ph)):=by
 unfold lhear
 rw [if_pos h,if_neg hy,if_neg hk,if_neg hn,if_pos h6]
theorem lhear_fin (h:forL zs.length id deal att L f∧(fromL L.hs f.f).isSome=false) (hy:¬ f.y=false) (hk:¬ f.k=2) (hn:¬ enoughB zs (setTo (L.hs ++ [f]) zs.length)=false) (h6:¬ f.k=6) {p:Int} (hc:refL (toldTo (L.hs ++ [f]) zs.length)=(p,true)):lhear zs id deal att L f=(⟨0,2,L.hs ++ [f],L.ph,seenL L f⟩,some (7,p)):=by
 unfold lhear
 rw [if_pos h,if_neg hy,if_neg hk,if_neg hn,if_neg h6,hc,if_pos rfl]
theorem lhear_pre (h:forL zs.length id deal att L f∧(fromL L.hs f.f).isSome=false) (hy:¬ f.y=false) (hk:¬ f.k=2) (hn:¬ enoughB zs (setTo (L.hs ++ [f]) zs.length)=false) (h6:¬ f.k=6) {p:Int} (hc:refL (toldTo (L.hs ++ [f]) zs.length)=(p,false)):lhear zs id deal att L f=(⟨6,1,[],p,seenL L f⟩,some (5,p)):=by
 unfold lhear
 rw [if_pos h,if_neg hy,if_neg hk,if_neg hn,if_neg h6,hc,if_neg (fun h=>by cases h)]
end
end Go.Proofs.YtadhpkopkkjmfaaGreatDoor
namespace Go.Proofs.YtadhpkopkkjmfaaGreatDoor
open Go.RowKit
section
variable {w:World} {lb id n cap:Nat} {deal att:Int} {aw:Option Addr} {st:ByteArray} {wait:Int} {vh:Value} {hs:List F9} {ph seen:Int}
theorem rlhear_not (f t d k a:Int) (y:Bool) (p1 p2 p3:Int) (h:RLd w lb id n cap deal att aw st wait vh hs ph seen) (hf:¬ (wait≠0∧k=wait∧d=deal∧a=att∧t=id∧0≤f∧f<n)) :
  Calls Tryz.prog 126 #[.pointer (some ⟨lb,0,none⟩),frV f t d k a y p1 p2 p3] w fun e w'=>e=.returned (.slice none 0 0)∧Below w.heap.size w w':=by
 obtain ⟨W,HW⟩:∃ W,Hid (w.alloc (.cells #[.int .i64 f,.int .i64 t,.int .i64 d,.int .i64 k,.int .i64 a,.bool y,.int .i64 p1,.int .i64 p2,.int .i64 p3] 104)=W):=⟨_,rfl⟩
 have HB:Hid (Below w.heap.size w W):=by rw [← HW.out]; exact (Below.refl _ _).alloc (Nat.le_refl _) _
 have HR:Hid (W.heap[w.heap.size]? = some (.cells #[.int .i64 f,.int .i64 t,.int .i64 d,.int .i64 k,.int .i64 a,.bool y,.int .i64 p1,.int .i64 p2,.int .i64 p3] 104 (0,0))):=by rw [← HW.out]; exact heap_alloc_new w _
 obtain ⟨b0,b1,b2,b3,b4,b5,b6,b7,b8⟩:=nine HR.out
 obtain ⟨c0,c1,c2,c3,c4,c5,c6,c7,c8⟩:=(h.later HB.out).cells
 have hW:=HW.out
 clear h
 by_cases g0:wait=0
 ·subst g0
  clear hf
  go_enter Tryz.func126,Tryz.ntmps126
  go_wp2_with fail
  go_quiet (fail)
  go_wp2
  go_ret
  exact ⟨rfl,below_drewN HB.out _⟩
 have e0:(wait == 0)=false:=beq_eq_false_iff_ne.2 g0
 by_cases g1:k=wait
 ·subst g1
  by_cases g2:d=deal
  ·subst g2
   by_cases g3:a=att
   ·subst g3
    by_cases g4:t=(id:Int)
    ·subst g4
     by_cases g5:f<0
     ·clear hf
      go_enter Tryz.func126,Tryz.ntmps126
      go_wp2_with fail
      go_quiet (fail)
      go_wp2
      go_ret
      exact ⟨rfl,below_drewN HB.out _⟩
     ·by_cases g6:(n:Int)≤f
      ·clear hf
       go_enter Tryz.func126,Tryz.ntmps126
       go_wp2_with fail
       go_quiet (fail)
       go_wp2
       go_ret
       exact ⟨rfl,below_drewN HB.out _⟩
      ·exact absurd ⟨g0,rfl,rfl,rfl,rfl,by omega,by omega⟩ hf
    ·have e4:(t != (id:Int))=true:=bne_iff_ne.2 g4
     clear hf
     go_enter Tryz.func126,Tryz.ntmps126
     go_wp2_with fail
     go_quiet (fail)
     go_wp2
     go_ret
     exact ⟨rfl,below_drewN HB.out _⟩
   ·have e3:(a != att)=true:=bne_iff_ne.2 g3
    clear hf
    go_enter Tryz.func126,Tryz.ntmps126
    go_wp2_with fail
    go_quiet (fail)
    go_wp2
    go_ret
    exact ⟨rfl,below_drewN HB.out _⟩
  ·have e2:(d != deal)=true:=bne_iff_ne.2 g2
   clear hf
   go_enter Tryz.func126,Tryz.ntmps126
   go_wp2_with fail
   go_quiet (fail)
   go_wp2
   go_ret
   exact ⟨rfl,below_drewN HB.out _⟩
 ·have e1:(k != wait)=true:=bne_iff_ne.2 g1
  clear hf
  go_enter Tryz.func126,Tryz.ntmps126
  go_wp2_with fail
  go_quiet (fail)
  go_wp2
  go_ret
  exact ⟨rfl,below_drewN HB.out _⟩
end
end Go.Proofs.YtadhpkopkkjmfaaGreatDoor
