/-
  On the way to PRunsProof: L2 L3.
-/
import Derived.Test.YtjcflddbaeiajacGreatDoorBt2
import Derived.Laws.ResultCell
set_option maxHeartbeats 8000000
set_option maxRecDepth 100000
namespace Go.Proofs.YtjcflddbaeiajacGreatDoor
open Go.RowKit
theorem Tryz.infoFr:(Tryz.prog.info? 144).map (fun i=>(i.zero,i.size,i.bytes))=some (some (frV 0 0 0 0 0 false 0 0 0),9,72):=by kernel_rfl
def sentL (id:Nat) (deal kind att ph:Int) (itself:Bool):Nat→List F9
 | 0=>[]
 | k+1=>if k=id∧itself=false then sentL id deal kind att ph itself k else sentL id deal kind att ph itself k ++ [⟨id,k,deal,kind,att,false,ph,0,0⟩]
theorem sentL_le (id:Nat) (deal kind att ph:Int) (itself:Bool):∀ k,(sentL id deal kind att ph itself k).length≤k
 | 0=>Nat.le_refl _
 | k+1=>by
  have:=sentL_le id deal kind att ph itself k
  unfold sentL
  split
  ·omega
  ·rw [List.length_append]; simp; omega
def rlC (id deal att:Int) (vw:Value) (st:ByteArray) (wait:Int) (vh:Value) (ph seen:Int):Array Value:=#[.int .i64 id,.int .i64 deal,.int .i64 att,vw,.string st,.int .i64 wait,vh,.int .i64 ph,.int .i64 seen]
theorem lit_cellsF (w:World) (t:TypeId) (L:List Value):∀ j u,L[j]? = some u→(w.alloc (.cells L.toArray t)).cell? ((⟨w.heap.size,0,none⟩:Addr).add j)=some u:=by
 intro j u h
 rw [addr_add,cell_of_row _ _ _ _ _ _ (heap_alloc_new w _),List.getElem?_toArray,Nat.zero_add]
 exact h
theorem f9_one (x:F9):∀ u∈f9L x,u.oneCell'=true:=by
 intro u hu
 simp [f9L] at hu
 rcases hu with rfl|rfl|rfl|rfl|rfl|rfl|rfl|rfl|rfl <;> rfl
theorem rlsend_any (lb id n cap:Nat) (deal kind att ph:Int) (itself:Bool) (aw:Option Addr) (st:ByteArray) (wait:Int) (vh:Value) (ph0 seen:Int) (w:World)
  (h:w.heap[lb]? = some (.cells (rlC id deal att (.slice aw n cap) st wait vh ph0 seen) 206 (0,0))) (hn:n≤30) :
  Calls Tryz.prog 120 #[.pointer (some ⟨lb,0,none⟩),.int .i64 kind,.int .i64 ph,.bool itself] w fun e w'=>∃ v,e=.returned v∧w'.ownsRow w.heap.size 144 9 v (sentL id deal kind att ph itself n).length (frCells (sentL id deal kind att ph itself n))∧Below w.heap.size w w':=by
 obtain ⟨i0,hi,hz0,hz1,hz2⟩:=info_parts Tryz.infoFr
 have H:=hid h
 clear h
 unfold rlC at H
 obtain ⟨L,HL⟩:∃ L,Hid (sentL id deal kind att ph itself=L):=⟨_,rfl⟩
 rw [HL.out]
 have HLE:Hid (∀ k,(L k).length≤k):=by rw [← HL.out]; exact sentL_le _ _ _ _ _ _
 have H0:Hid (L 0=[]):=by rw [← HL.out]; rfl
 go_enter Tryz.func120,Tryz.ntmps120
 go_wp2_with fail
 go_loopw [9,10] (fun v i wr=>∃ k:Nat,k≤n∧i=.int .i64 (k:Int)∧wr.ownsRow w.heap.size 144 9 v (L k).length (frCells (L k))∧Below w.heap.size w wr) (fun _ i _=>n - (intOf i).toNat)
 case atStart=>exact ⟨0,Nat.zero_le _,rfl,by rw [H0.out]; exact World.ownsRow_nil _ _ _ _,Below.refl _ _⟩
 case round =>
  obtain ⟨k,hk,rfl,hown,hb⟩:=hrel
  have HO:=hid hown
  have HB:=hid hb
  have hr:=(hb.block _ (row_ltJ H.out)).trans H.out
  have c0:wr.cell? ⟨lb,0,none⟩=some (.int .i64 (id:Int)):=by rw [cell_of_row _ _ _ _ _ _ hr]; rfl
  have c1:wr.cell? ⟨lb,1,none⟩=some (.int .i64 deal):=by rw [cell_of_row _ _ _ _ _ _ hr]; rfl
  have c2:wr.cell? ⟨lb,2,none⟩=some (.int .i64 att):=by rw [cell_of_row _ _ _ _ _ _ hr]; rfl
  have c3:wr.cell? ⟨lb,3,none⟩=some (.slice aw n cap):=by rw [cell_of_row _ _ _ _ _ _ hr]; rfl
  have hlb:lb<wr.heap.size:=row_ltJ hr
  have hle:=HLE.out k
  clear hown hb hr
  by_cases hlt:k<n
  ·by_cases hki:k=id∧itself=false
   ·obtain ⟨rfl,rfl⟩:=hki
    have HS:Hid (L (k+1)=L k):=by rw [← HL.out]; unfold Hid; exact if_pos ⟨rfl,rfl⟩
    go_wp2_with fail
    go_roundw
    case rel=>exact ⟨k+1,by omega,by go_num,by rw [HS.out]; exact HO.out,HB.out⟩
    case measure=>simp [intOf]; omega
   ·have HS:Hid (L (k+1)=L k ++ [⟨id,k,deal,kind,att,false,ph,0,0⟩]):=by rw [← HL.out]; unfold Hid; exact if_neg hki
    have HS2:Hid ((L (k+1)).length=(L k).length+1∧frCells (L (k+1))=frCells (L k) ++ f9L ⟨id,k,deal,kind,att,false,ph,0,0⟩):=by
     rw [HS.out]
     exact ⟨by simp,by rw [frCells_append]; rfl⟩
    by_cases e:k=id
    ·have hit:itself=true:=by
      cases itself with
      | true=>rfl
      | false=>exact absurd ⟨e,rfl⟩ hki
     subst hit
     clear hki
     subst e
     have HZ:=World.ownsRow.alloc HO.out
     have hws:=HB.out.size
     go_wp2_with fail
     go_region_law ((refine step_append_lies _ (by rfl) _ _ _ (by rfl) w.heap.size 144 i0 (frV 0 0 0 0 0 false 0 0 0) 9 72 Tryz.underlying49 hi hz0 hz1 hz2 (by rfl) (by decide) _ (L k).length (frCells (L k)) (by rfl) (by exact HZ _) ⟨wr.heap.size,0,none⟩ 1 1 (f9L ⟨k,k,deal,kind,att,false,ph,0,0⟩) (by rfl) (by rfl) (by exact lit_cellsF wr 144 (f9L ⟨k,k,deal,kind,att,false,ph,0,0⟩)) (by exact f9_one _) (by decide) (by unfold maxLen; omega) (by omega) (by exact Nat.le_trans hws (by simp)) (wr.heap.size+1) (by simp) ?_; intro g5 c5 w5 hown5 hg5 hat5 hlt5; have HQ5:=hid (And.intro (show w5.ownsRow w.heap.size 144 9 (.slice (some ⟨g5,0,none⟩) ((L k).length+1) c5) (L (k+1)).length (frCells (L (k+1))) by rw [HS2.out.1,HS2.out.2]; exact hown5) ((HB.out.alloc HB.out.size (.cells (f9L ⟨k,k,deal,kind,att,false,ph,0,0⟩).toArray 144)).drew.grown hg5 (by simp; omega) (fun j hj=>(HO.out.lt j hj).1))); clear hown5 hg5 hat5))
     all_goals go_wp2_with fail
     all_goals go_roundw
     all_goals first|exact ⟨k+1,by omega,by go_num,HQ5.out.1,HQ5.out.2⟩|exact ⟨k+1,by omega,by go_num,HQ5.out.1,HQ5.out.2.drew⟩|(simp [intOf]; omega)
    ·have hne:¬ (k:Int)=(id:Int):=by omega
     clear hki
     have HZ:=World.ownsRow.alloc HO.out
     have hws:=HB.out.size
     go_wp2_with fail
     go_region_law ((refine step_append_lies _ (by rfl) _ _ _ (by rfl) w.heap.size 144 i0 (frV 0 0 0 0 0 false 0 0 0) 9 72 Tryz.underlying49 hi hz0 hz1 hz2 (by rfl) (by decide) _ (L k).length (frCells (L k)) (by rfl) (by exact HZ _) ⟨wr.heap.size,0,none⟩ 1 1 (f9L ⟨id,k,deal,kind,att,false,ph,0,0⟩) (by rfl) (by rfl) (by exact lit_cellsF wr 144 (f9L ⟨id,k,deal,kind,att,false,ph,0,0⟩)) (by exact f9_one _) (by decide) (by unfold maxLen; omega) (by omega) (by exact Nat.le_trans hws (by simp)) (wr.heap.size+1) (by simp) ?_; intro g5 c5 w5 hown5 hg5 hat5 hlt5; have HQ5:=hid (And.intro (show w5.ownsRow w.heap.size 144 9 (.slice (some ⟨g5,0,none⟩) ((L k).length+1) c5) (L (k+1)).length (frCells (L (k+1))) by rw [HS2.out.1,HS2.out.2]; exact hown5) ((HB.out.alloc HB.out.size (.cells (f9L ⟨id,k,deal,kind,att,false,ph,0,0⟩).toArray 144)).drew.grown hg5 (by simp; omega) (fun j hj=>(HO.out.lt j hj).1))); clear hown5 hg5 hat5))
     all_goals go_wp2_with fail
     all_goals go_roundw
     all_goals first|exact ⟨k+1,by omega,by go_num,HQ5.out.1,HQ5.out.2⟩|exact ⟨k+1,by omega,by go_num,HQ5.out.1,HQ5.out.2.drew⟩|(simp [intOf]; omega)
  ·obtain rfl:k=n:=by omega
   go_wp2_with fail
   go_ret
   exact ⟨_,rfl,HO.out,HB.out⟩
theorem resF2 {P:Program} {fn:Func} {p u:Tmp} {ty:TypeId} (h:fn.results=#[.cell p ty,.tmp u]) (tmps:Array Value) (w:World) (g:Nat) (t:TypeId) (cs:Array Value) (fr:Nat×Nat) (d:TypeDesc)
  (hp:tmps.getD p undef=.pointer (some ⟨g,0,none⟩)) (hg:w.heap[g]? = some (.cells cs t fr))
  (hu:P.underlying ty=some d) (hd:(match d with|.struct _|.array _ _=>true|_=>false)=true) (hi:(P.info? ty).map (·.size)=some cs.size) :
  (results fn tmps).run P w=.ok (.tuple #[.agg cs,tmps.getD u undef]) w:=by
 rw [results_cell_tmp h,hp]
 simp [asAddr,run_loadVar_row w g t ty cs fr d hg hu hd hi]
theorem sizeF9:(Tryz.prog.info? 144).map (·.size)=some 9:=by kernel_rfl
theorem FL.owned {w:World} {base:Nat} {v:Value} {L:List F9} (h:w.ownsRow base 144 9 v L.length (frCells L)):∃ ad cap,v=.slice ad L.length cap∧FL w ad L:=IsFr.owned h
structure RLd (w:World) (lb id n cap:Nat) (deal att:Int) (aw:Option Addr) (st:ByteArray) (wait:Int) (vh:Value) (hs:List F9) (ph seen:Int):Prop where
 row:w.heap[lb]? = some (.cells (rlC id deal att (.slice aw n cap) st wait vh ph seen) 206 (0,0))
 own:w.ownsRow (lb+1) 144 9 vh hs.length (frCells hs)
section
variable {w w':World} {lb id n cap:Nat} {deal att:Int} {aw:Option Addr} {st:ByteArray} {wait:Int} {vh:Value} {hs:List F9} {ph seen:Int}
theorem RLd.later (h:RLd w lb id n cap deal att aw st wait vh hs ph seen) (hb:Below w.heap.size w w'):RLd w' lb id n cap deal att aw st wait vh hs ph seen :=
 ⟨(hb.block _ (row_ltJ h.row)).trans h.row,own_later h.own hb (Nat.le_refl _)⟩
theorem RLd.cells (h:RLd w lb id n cap deal att aw st wait vh hs ph seen):w.cell? ⟨lb,0,none⟩=some (.int .i64 (id:Int))∧w.cell? ⟨lb,1,none⟩=some (.int .i64 deal)∧w.cell? ⟨lb,2,none⟩=some (.int .i64 att)∧w.cell? ⟨lb,3,none⟩=some (.slice aw n cap)∧w.cell? ⟨lb,4,none⟩=some (.string st)∧w.cell? ⟨lb,5,none⟩=some (.int .i64 wait)∧w.cell? ⟨lb,6,none⟩=some vh∧w.cell? ⟨lb,7,none⟩=some (.int .i64 ph)∧w.cell? ⟨lb,8,none⟩=some (.int .i64 seen):=by
 refine ⟨?_,?_,?_,?_,?_,?_,?_,?_,?_⟩ <;> rw [cell_of_row _ _ _ _ _ _ h.row] <;> rfl
theorem RLd.fz (h:RLd w lb id n cap deal att aw st wait vh hs ph seen) (i:Nat):w.frozen? ⟨lb,i,none⟩=false:=frozen_of_row w lb i _ _ h.row
end
theorem below9 {w W:World} (h:Below w.heap.size w W) (x0 x1 x2 x3 x4 x5 x6 x7 x8:Value) :
  Below w.heap.size w (((((((((W.setCell ⟨w.heap.size,0,none⟩ x0).setCell ⟨w.heap.size,1,none⟩ x1).setCell ⟨w.heap.size,2,none⟩ x2).setCell ⟨w.heap.size,3,none⟩ x3).setCell ⟨w.heap.size,4,none⟩ x4).setCell ⟨w.heap.size,5,none⟩ x5).setCell ⟨w.heap.size,6,none⟩ x6).setCell ⟨w.heap.size,7,none⟩ x7).setCell ⟨w.heap.size,8,none⟩ x8) :=
 ((((((((h.setCell (Nat.le_refl _) _).setCell (Nat.le_refl _) _).setCell (Nat.le_refl _) _).setCell (Nat.le_refl _) _).setCell (Nat.le_refl _) _).setCell (Nat.le_refl _) _).setCell (Nat.le_refl _) _).setCell (Nat.le_refl _) _).setCell (Nat.le_refl _) _
def fromL (hs:List F9) (i:Int):Option F9:=hs.find? fun x=>decide (x.f=i)
theorem fromL_none {hs:List F9} {i:Int} (h:∀ k (hk:k<hs.length),(hs[k]'hk).f≠i):fromL hs i=none:=by
 unfold fromL
 rw [List.find?_eq_none]
 intro x hx
 obtain ⟨k,hk,rfl⟩:=List.getElem_of_mem hx
 simpa using h k hk
theorem fromL_some {hs:List F9} {i:Int} {k:Nat} (hk:k<hs.length) (h:(hs[k]'hk).f=i) (hb:∀ j (hj:j<k),(hs[j]'(Nat.lt_trans hj hk)).f≠i):fromL hs i=some (hs[k]'hk):=by
 unfold fromL
 rw [List.find?_eq_some_iff_getElem]
 exact ⟨by simpa using h,k,hk,rfl,fun j hj=>by simpa using hb j hj⟩
def frO (x:Option F9):Value:=match x with
 | none=>frV 0 0 0 0 0 false 0 0 0
 | some y=>frV y.f y.t y.d y.k y.a y.y y.ph y.pr y.pa
theorem frO_none:frO none=frV 0 0 0 0 0 false 0 0 0:=rfl
theorem rlfrom_any (lb id n cap:Nat) (deal att:Int) (aw:Option Addr) (st:ByteArray) (wait:Int) (vh:Value) (hs:List F9) (ph seen i:Int) (w:World) (h:RLd w lb id n cap deal att aw st wait vh hs ph seen) (hl:hs.length≤1000) :
  Calls Tryz.prog 204 #[.pointer (some ⟨lb,0,none⟩),.int .i64 i] w fun e w'=>e=.returned (.tuple #[frO (fromL hs i),.bool (fromL hs i).isSome])∧Below w.heap.size w w':=by
 obtain ⟨W,HW⟩:∃ W,Hid (w.alloc (.cells #[.int .i64 0,.int .i64 0,.int .i64 0,.int .i64 0,.int .i64 0,.bool false,.int .i64 0,.int .i64 0,.int .i64 0] 144)=W):=⟨_,rfl⟩
 have HB:Hid (Below w.heap.size w W):=by rw [← HW.out]; exact (Below.refl _ _).alloc (Nat.le_refl _) _
 have HR:Hid (W.heap[w.heap.size]? = some (.cells #[.int .i64 0,.int .i64 0,.int .i64 0,.int .i64 0,.int .i64 0,.bool false,.int .i64 0,.int .i64 0,.int .i64 0] 144 (0,0))):=by rw [← HW.out]; exact heap_alloc_new w _
 have hlt0:lb<w.heap.size:=row_ltJ h.row
 have HI:=hid (h.later HB.out)
 clear h
 obtain ⟨ad,cp,rfl,hfl⟩:=FL.owned HI.out.own
 have HF:=hid hfl
 clear hfl
 obtain ⟨c0,c1,c2,c3,c4,c5,c6,c7,c8⟩:=HI.out.cells
 obtain ⟨r0,r1,r2,r3,r4,r5,r6,r7,r8⟩:=nine HR.out
 have z0:=frozen_of_row W w.heap.size 0 _ _ HR.out
 have z1:=frozen_of_row W w.heap.size 1 _ _ HR.out
 have z2:=frozen_of_row W w.heap.size 2 _ _ HR.out
 have z3:=frozen_of_row W w.heap.size 3 _ _ HR.out
 have z4:=frozen_of_row W w.heap.size 4 _ _ HR.out
 have z5:=frozen_of_row W w.heap.size 5 _ _ HR.out
 have z6:=frozen_of_row W w.heap.size 6 _ _ HR.out
 have z7:=frozen_of_row W w.heap.size 7 _ _ HR.out
 have z8:=frozen_of_row W w.heap.size 8 _ _ HR.out
 have hW:=HW.out
 go_enter Tryz.func204,Tryz.ntmps204
 go_wp2_with fail
 go_loopw [6] (fun v wr=>∃ k:Nat,k≤hs.length∧v=.int .i64 (k:Int)∧W=wr∧∀ j (hj:j<hs.length),j<k→(hs[j]'hj).f≠i) (fun v _=>hs.length - (intOf v).toNat)
 case atStart=>exact ⟨0,Nat.zero_le _,rfl,rfl,fun j _ hj=>absurd hj (Nat.not_lt_zero _)⟩
 case round =>
  obtain ⟨k,hk,rfl,rfl,hno⟩:=hrel
  have HNo:=hid hno
  clear hno
  by_cases hlt:k<hs.length
  ·obtain ⟨b,o,rfl,hq⟩:=HF.out k hlt
   obtain ⟨x,HXk⟩:∃ x,Hid (hs[k]'hlt=x):=⟨_,rfl⟩
   rw [HXk.out] at hq
   obtain ⟨xf,xt,xd,xk,xa,xy,xph,xpr,xpa⟩:=x
   obtain ⟨a0,a1,a2,a3,a4,a5,a6,a7,a8⟩:=nineO hq
   simp only at a0 a1 a2 a3 a4 a5 a6 a7 a8
   clear hq
   by_cases hx:xf=i
   ·subst hx
    have HFo:Hid (fromL hs xf=some ⟨xf,xt,xd,xk,xa,xy,xph,xpr,xpa⟩):=by
     have:=fromL_some (i:=xf) hlt (by rw [HXk.out]) (fun j hj=>HNo.out j (Nat.lt_trans hj hlt) hj)
     rw [HXk.out] at this
     exact this
    go_wp2_with fail
    refine bodyPost_ret (resF2 rfl _ _ w.heap.size 144 _ (0,0) _ rfl (set9 HR.out _ _ _ _ _ _ _ _ _) Tryz.underlying144 rfl sizeF9) rfl ?_
    exact ⟨by rw [HFo.out]; rfl,below9 HB.out _ _ _ _ _ _ _ _ _⟩
   ·go_wp2_with fail
    go_roundw
    case rel =>
     refine ⟨k+1,by omega,by go_num,by first|rfl|trivial,fun j hj hjk=>?_⟩
     by_cases e:j=k
     ·subst e; rw [HXk.out]; exact hx
     ·exact HNo.out j hj (by omega)
    case measure=>simp [intOf]; omega
  ·obtain rfl:k=hs.length:=by omega
   have HFo:Hid (fromL hs i=none):=fromL_none (fun j hj=>HNo.out j hj hj)
   go_wp2_with fail
   refine bodyPost_ret (resF2 rfl _ _ w.heap.size 144 _ (0,0) _ rfl (set9 HR.out _ _ _ _ _ _ _ _ _) Tryz.underlying144 rfl sizeF9) rfl ?_
   exact ⟨by rw [HFo.out]; rfl,below9 HB.out _ _ _ _ _ _ _ _ _⟩
end Go.Proofs.YtjcflddbaeiajacGreatDoor
