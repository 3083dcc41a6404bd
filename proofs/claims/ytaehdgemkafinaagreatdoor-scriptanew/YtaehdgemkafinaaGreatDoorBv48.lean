/-
  On the way to SAnewProof: HeldA.
-/
import Derived.Test.YtaehdgemkafinaaGreatDoorBv46
import Derived.Lib.LaidTab
import Derived.ChangeArms
set_option maxHeartbeats 8000000
set_option maxRecDepth 100000
namespace Go.Proofs.YtaehdgemkafinaaGreatDoor
open Go.ChangeShapes Go.WideShapes Go.RowKit
def names8:List String:=["threefold/api.ErrText","threefold/api.ErrBound","threefold/api.ErrShape","threefold/api.ErrNone","threefold/api.ErrFull","threefold/api.ErrOff","threefold/api.ErrHeld","threefold/api.ErrSplit"]
def texts8:List Bs:=[errO 1,errO 2,errO 3,errO 4,errO 5,errO 6,errO 8,errO 9]
abbrev gs8:List Nat:=[1,0,2,3,4,5,7,8]
theorem plain8:((Rows.scriptAnewRow.laid.filter fun x=>names8.contains x.1).filter fun x=>x.2.handleName?.isNone).map (fun x=>Tryz.prog.globalNamed x.1)=gs8.map some:=by kernel_rfl
theorem data8:((Rows.scriptAnewRow.laid.filter fun x=>names8.contains x.1).filter fun x=>x.2.handleName?.isNone).map (·.2)=texts8.map errD:=by kernel_rfl
theorem types8:(gs8.all fun g=>((Tryz.prog.globals[g]?).map (·.type)) == some 25)=true:=by kernel_rfl
theorem sentsT {W:World}:∀ (l:List (String×DataW Unit)) (gs:List Nat) (texts:List (List UInt8)),
  l.map (fun x=>Tryz.prog.globalNamed x.1)=gs.map some→(∀ g∈gs,(Tryz.prog.globals[g]?).map (·.type)=some 25)→l.map (·.2)=texts.map errD →
  ∀ ps,DataW.LaidVars Tryz.prog W l ps→ps.Nodup →
  (∀ b off,MemPlace.cell b off∈ps→(∃ c t,W.heap[b]? = some (.cells c t (0,0)))∧∀ u v,W.cell? ⟨b,off,none⟩=some (.iface u v)→Value.okWide Tryz.prog W .any 0 u v) →
  ∃ ads:List Addr,ads.length=gs.length∧ads.Nodup∧(∀ a∈ads,MemPlace.cell a.block a.off∈ps∧a.spot=none)∧∀ (i g:Nat) (a:Addr),gs[i]? = some g→ads[i]? = some a→Sent W g a∧∃ s:ByteArray,W.cell? a=some (.string s)∧texts[i]? = some s.data.toList
 | [],[],_,_,_,_,_,_,_,_=>⟨[],rfl,List.nodup_nil,(fun a h=>by cases h),fun i g a h=>by simp at h⟩
 | [],_ :: _,_,h,_,_,_,_,_,_=>by simp at h
 | _ :: _,[],_,h,_,_,_,_,_,_=>by simp at h
 | _ :: _,_ :: _,[],_,_,h,_,_,_,_=>by simp at h
 | (n,d) :: l,g :: gs,text :: texts,hg,ht,hd,ps,hl,hnd,hrows=>by
  simp only [List.map_cons,List.cons.injEq] at hg hd
  obtain ⟨hg0,hg⟩:=hg
  obtain ⟨hd0,hd⟩:=hd
  obtain ⟨g',t,cs,fuel,p,q,e1,e2,e3,e4,e5,rfl⟩:=hl
  obtain rfl:=Option.some.inj (hg0.symm.trans e1)
  obtain rfl:=Option.some.inj ((ht g (List.mem_cons_self)).symm.trans e2)
  subst hd0
  obtain ⟨l0⟩:=cs
  have hvc:∀ v,l0=[v]→W.cell? ⟨g,0,none⟩=some v:=fun v e=>by subst e; simpa using World.var?_cell hg0 e3 0
  have ok0:∀ u v,l0=[.iface u v]→Value.okWide Tryz.prog W .any 0 u v:=fun u v e=>(hrows g 0 (by subst e; simp [MemPlace.row])).2 u v (hvc _ e)
  obtain ⟨a0,s0,rfl,hc0,hs0,hz0,rfl⟩:=errorString_of_trod Tryz.underlying25 rowErrS Tryz.underlying318 Tryz.underlying336 rfl rfl Tryz.underlying9 cellsErrS cellsString e4 ok0
  have hr0:=(hrows a0.block a0.off (by simp [MemPlace.row])).1
  obtain ⟨ads,h1,h2,h3,h4⟩:=sentsT l gs texts hg (fun g' hm=>ht g' (List.mem_cons_of_mem _ hm)) hd q e5 (hnd.sublist (List.sublist_append_right _ _)) (fun b off hm=>hrows b off (List.mem_append_right _ hm))
  have hsp:a0.spot=none:=by
   cases hq:a0.spot with
   | none=>rfl
   | some k=>unfold World.cell? at hc0; rw [hq] at hc0; revert hc0; split <;> simp
  refine ⟨a0 :: ads,by simp [h1],?_,?_,?_⟩
  ·refine List.nodup_cons.2 ⟨fun hm=>?_,h2⟩
   have hq:=(h3 a0 hm).1
   rw [List.append_assoc] at hnd
   have h5:=(List.nodup_append.1 (List.nodup_append.1 hnd).2.1).2.2 (MemPlace.cell a0.block a0.off) (by simp [MemPlace.row]) _ hq
   exact h5 rfl
  ·intro a hm
   rcases List.mem_cons.1 hm with rfl|hm
   ·exact ⟨by simp [MemPlace.row],hsp⟩
   ·exact ⟨List.mem_append_right _ (h3 a hm).1,(h3 a hm).2⟩
  ·intro i g' a hgi hai
   cases i with
   | zero =>
    simp at hgi hai
    subst hgi; subst hai
    exact ⟨⟨hvc _ rfl,⟨s0,hc0⟩,hr0⟩,s0,hc0,by rw [hs0]; rfl⟩
   | succ i =>
    obtain ⟨k1,s,k2,k3⟩:=h4 i g' a (by simpa using hgi) (by simpa using hai)
    exact ⟨k1,s,k2,by simpa using k3⟩
def ix8 (i:Nat):Nat:=if i<6 then i else i - 1
theorem ix8_all:∀ i,i<9∧i≠6→ix8 i<8∧gs8[ix8 i]? = some (gN i)∧texts8[ix8 i]? = some (errO (i+1)):=by
 intro i hi
 have:i=0 ∨ i=1 ∨ i=2 ∨ i=3 ∨ i=4 ∨ i=5 ∨ i=7 ∨ i=8:=by omega
 rcases this with rfl|rfl|rfl|rfl|rfl|rfl|rfl|rfl <;> exact ⟨by decide,rfl,rfl⟩
theorem ix8_inj {i j:Nat} (hi:i<9∧i≠6) (hj:j<9∧j≠6) (h:ix8 i=ix8 j):i=j:=by
 unfold ix8 at h
 split at h <;> split at h <;> omega
theorem held8_of_laid {W:World} (h:laidMetH Tryz.prog (Rows.scriptAnewRow.laid.filter fun x=>names8.contains x.1) W):∃ A,Held9 W A∧TxtO W A:=by
 obtain ⟨⟨ps,h1,h2,h3⟩,-⟩:=laidMetH_iff.1 h
 obtain ⟨ads,hl,hnd,-,hs⟩:=sentsT _ gs8 _ plain8 (fun g hg=>by simpa using List.all_eq_true.1 types8 g hg) data8 ps h1 h2 h3
 have hlen:ads.length=8:=by rw [hl]; rfl
 have hat:∀ i (hi:i<8),ads[i]? = some (ads.getD i ⟨0,0,none⟩):=by
  intro i hi
  rw [List.getD_eq_getElem?_getD,List.getElem?_eq_getElem (by omega)]; rfl
 have hall:∀ i,i<9∧i≠6→Sent W (gN i) (ads.getD (ix8 i) ⟨0,0,none⟩)∧∃ s:ByteArray,W.cell? (ads.getD (ix8 i) ⟨0,0,none⟩)=some (.string s)∧texts8[ix8 i]? = some s.data.toList:=fun i hi =>
  hs (ix8 i) (gN i) _ (ix8_all i hi).2.1 (hat _ (ix8_all i hi).1)
 refine ⟨fun i=>ads.getD (ix8 i) ⟨0,0,none⟩,⟨fun i hi=>(hall i hi).1.var,fun i j hi hj hne e=>?_,fun i hi=>(hall i hi).1.row⟩,fun i hi=>?_⟩
 ·have e1:=hat _ (ix8_all i hi).1
  have e2:=hat _ (ix8_all j hj).1
  have e3:ads.getD (ix8 i) ⟨0,0,none⟩=ads.getD (ix8 j) ⟨0,0,none⟩:=e
  rw [e3] at e1
  exact hne (ix8_inj hi hj ((List.getElem?_inj (by have:=(ix8_all i hi).1; omega) hnd).1 (e1.trans e2.symm)))
 ·obtain ⟨s,k1,k2⟩:=(hall i hi).2
  rw [k1]
  have k3:=(ix8_all i hi).2.2
  rw [k2] at k3
  have k4:s.data.toList=errO (i+1):=Option.some.inj k3
  rw [show s=bB (errO (i+1)) from ByteArray.ext (Array.ext' k4)]
theorem sa_tab:(Rows.scriptAnewRow.laid.filter fun x=>x.1 == "internal/strconv.uint64pow10")=[("internal/strconv.uint64pow10",Lib.tabData .u64 Lib.pow10Tab)]:=by kernel_rfl
theorem gPow:Tryz.prog.globalNamed "internal/strconv.uint64pow10"=some 10:=by kernel_rfl
theorem gPowT:(Tryz.prog.globals[10]?).map (·.type)=some 285:=by kernel_rfl
theorem heldA_of_laid {W:World} (h:laidMetH Tryz.prog Rows.scriptAnewRow.laid W):∃ A,Held9 W A∧TxtO W A∧TabO W:=by
 obtain ⟨A,hA,hT⟩:=held8_of_laid (h.filter fun x=>names8.contains x.1)
 have h2:=h.filter fun x=>x.1 == "internal/strconv.uint64pow10"
 rw [sa_tab] at h2
 have h3:=(laidMetH_iff.1 h2).1
 have h4:Lib.TabIs Tryz.prog W "internal/strconv.uint64pow10" .u64 Lib.pow10Tab:=Lib.tabIs_of_head gPow gPowT Tryz.underlying285 Tryz.underlying268 (by kernel_rfl) (by kernel_rfl) h3
 refine ⟨A,hA,hT,?_⟩
 unfold Lib.TabIs World.var? at h4
 rw [gPow,Option.bind_some] at h4
 split at h4
 ·rename_i cs t fr hc
  exact ⟨t,fr,by rw [hc,Option.some.inj h4]⟩
 ·cases h4
end Go.Proofs.YtaehdgemkafinaaGreatDoor
