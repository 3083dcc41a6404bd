/-
  On the way to WStepsProof, WCommitsProof, WAgreesProof, WEndsProof, WWaitsProof, JTampersProof, PAgreesProof, PAgainProof: Laid Held9.
-/
import Derived.Test.YtadhpkopkkjmfaaGreatDoorRows
import Derived.Test.YtadhpkopkkjmfaaGreatDoorBz5
import Derived.ProofKit
import Derived.LaidLaws
import Derived.LaidMore
import Derived.LaidSub
import Derived.LaidHandle
import Derived.MakeChecks
set_option maxHeartbeats 8000000
set_option maxRecDepth 100000
namespace Go.Proofs.YtadhpkopkkjmfaaGreatDoor
open Go.ChangeShapes Go.WideShapes Go.RowKit
theorem own:ownKnob Tryz.prog.godebug=none:=by kernel_rfl
theorem laidOut:laidOutB Tryz.prog=true:=by kernel_rfl
theorem star: "*" ++ "errors.errorString"= "*errors.errorString":=by decide
theorem rowErrS (u:TypeId) (h:Tryz.prog.typeName? 3 u=some "*errors.errorString"):u=276 :=
 typeName_ptr_named (nm:= "errors.errorString") (by rw [star]; kernel_rfl) (by kernel_rfl) (by decide) u (by rw [star]; exact h)
theorem cellsErrS:Tryz.prog.cellsOf 295=1:=by kernel_rfl
theorem cellsString:Tryz.prog.cellsOf 9=1:=by kernel_rfl
def errD (text:List UInt8):DataW Unit:=.iface "*errors.errorString" (.ptr (.agg [.lit (.string text)]))
structure Sent (W:World) (g:Nat) (a:Addr):Prop where
 var:W.cell? ⟨g,0,none⟩=some (.iface 276 (.pointer (some a)))
 str:∃ s,W.cell? a=some (.string s)
 row:∃ c t,W.heap[a.block]? = some (.cells c t (0,0))
theorem sents {W:World}:∀ (l:List (String×DataW Unit)) (gs:List Nat) (texts:List (List UInt8)),
  l.map (fun x=>Tryz.prog.globalNamed x.1)=gs.map some→(∀ g∈gs,(Tryz.prog.globals[g]?).map (·.type)=some 28)→l.map (·.2)=texts.map errD →
  ∀ ps,DataW.LaidVars Tryz.prog W l ps→ps.Nodup →
  (∀ b off,MemPlace.cell b off∈ps→(∃ c t,W.heap[b]? = some (.cells c t (0,0)))∧∀ u v,W.cell? ⟨b,off,none⟩=some (.iface u v)→Value.okWide Tryz.prog W .any 0 u v) →
  ∃ ads:List Addr,ads.length=gs.length∧ads.Nodup∧(∀ a∈ads,MemPlace.cell a.block a.off∈ps∧a.spot=none)∧∀ (i g:Nat) (a:Addr),gs[i]? = some g→ads[i]? = some a→Sent W g a
 | [],[],_,_,_,_,_,_,_,_=>⟨[],rfl,List.nodup_nil,(fun a h=>by cases h),fun i g a h=>by simp at h⟩
 | [],_ :: _,_,h,_,_,_,_,_,_=>by simp at h
 | _ :: _,[],_,h,_,_,_,_,_,_=>by simp at h
 | _ :: _,_ :: _,[],_,_,h,_,_,_,_=>by simp at h
 | (n,d) :: l,g :: gs,text :: texts,hg,ht,hd,ps,hl,hnd,hrows=>by
  simp only [List.map_cons,List.cons.injEq] at hg hd
  obtain ⟨hg0,hg⟩:=hg
  obtain ⟨hd0,hd⟩:=hd
  obtain ⟨g',t,cs,fuel,p,q,e1,e2,e3,e4,e5,rfl⟩:=hl
  obtain rfl:=Option.some.inj (hg0.symm.trans e1)
  obtain rfl:=Option.some.inj ((ht g (List.mem_cons_self)).symm.trans e2)
  subst hd0
  obtain ⟨l0⟩:=cs
  have hvc:∀ v,l0=[v]→W.cell? ⟨g,0,none⟩=some v:=fun v e=>by subst e; simpa using World.var?_cell hg0 e3 0
  have ok0:∀ u v,l0=[.iface u v]→Value.okWide Tryz.prog W .any 0 u v:=fun u v e=>(hrows g 0 (by subst e; simp [MemPlace.row])).2 u v (hvc _ e)
  obtain ⟨a0,s0,rfl,hc0,hs0,hz0,rfl⟩:=errorString_of_trod Tryz.underlying28 rowErrS Tryz.underlying276 Tryz.underlying295 rfl rfl Tryz.underlying9 cellsErrS cellsString e4 ok0
  have hr0:=(hrows a0.block a0.off (by simp [MemPlace.row])).1
  obtain ⟨ads,h1,h2,h3,h4⟩:=sents l gs texts hg (fun g' hm=>ht g' (List.mem_cons_of_mem _ hm)) hd q e5 (hnd.sublist (List.sublist_append_right _ _)) (fun b off hm=>hrows b off (List.mem_append_right _ hm))
  have hsp:a0.spot=none:=by
   cases hq:a0.spot with
   | none=>rfl
   | some k=>unfold World.cell? at hc0; rw [hq] at hc0; revert hc0; split <;> simp
  refine ⟨a0 :: ads,by simp [h1],?_,?_,?_⟩
  ·refine List.nodup_cons.2 ⟨fun hm=>?_,h2⟩
   have hq:=(h3 a0 hm).1
   rw [List.append_assoc] at hnd
   have h5:=(List.nodup_append.1 (List.nodup_append.1 hnd).2.1).2.2 (MemPlace.cell a0.block a0.off) (by simp [MemPlace.row]) _ hq
   exact h5 rfl
  ·intro a hm
   rcases List.mem_cons.1 hm with rfl|hm
   ·exact ⟨by simp [MemPlace.row],hsp⟩
   ·exact ⟨List.mem_append_right _ (h3 a hm).1,(h3 a hm).2⟩
  ·intro i g' a hgi hai
   cases i with
   | zero =>
    simp at hgi hai
    subst hgi; subst hai
    exact ⟨hvc _ rfl,⟨s0,hc0⟩,hr0⟩
   | succ i=>exact h4 i g' a (by simpa using hgi) (by simpa using hai)
def textOf:DataW Unit→List UInt8
 | .iface _ (.ptr (.agg [.lit (.string t)]))=>t
 | _=>[]
theorem door_met9 (os:Os) (args:Array Value):laidMetH Tryz.prog Rows.worldStepsRow.laid ((World.doorLaid Tryz.prog 187 os).forCall (fun _ _=>0) ⟨#[],args,[]⟩).memory :=
 laidMetH_of_parts3 (fuel:=8) (laidMet_of_run' 8 (by kernel_rfl) (by kernel_rfl)) (by kernel_rfl) (by kernel_rfl)
theorem plainOf:(Rows.worldStepsRow.laid.filter fun x=>x.2.handleName?.isNone).map (fun x=>Tryz.prog.globalNamed x.1)=[6,3,4,1,7,5,8,0,2].map some:=by kernel_rfl
theorem textsOf:(Rows.worldStepsRow.laid.filter fun x=>x.2.handleName?.isNone).map (·.2)=((Rows.worldStepsRow.laid.filter fun x=>x.2.handleName?.isNone).map fun x=>textOf x.2).map errD:=by kernel_rfl
theorem typesOf:([6,3,4,1,7,5,8,0,2].all fun g=>((Tryz.prog.globals[g]?).map (·.type)) == some 28)=true:=by kernel_rfl
theorem handleOf:(Rows.worldStepsRow.laid.filter fun x=>x.2.handleName?.isSome)=Rows.worldStepsRow.laid.take 1:=by kernel_rfl
theorem gErrT:Tryz.prog.globalNamed (Rows.worldStepsRow.laid.map (·.1)).head! = some 9:=by kernel_rfl
theorem rtypeT:(Tryz.prog.cutTypes.find? (·.1 == "internal/reflectlite.rtype")).map (·.2)=some 239:=by kernel_rfl
theorem oneRow:((List.range 307).filter fun t=>Tryz.prog.rowNamed t [101,114,114,111,114])=[28]:=by kernel_rfl
theorem sizeT:Tryz.prog.types.size=307:=by kernel_rfl
theorem handleErr:typeHandle Tryz.prog 28=.pointer (some ⟨10,28,none⟩):=by kernel_rfl
theorem handle_of {W:World} (h:handlesMet Tryz.prog (Rows.worldStepsRow.laid.filter fun x=>x.2.handleName?.isSome) W):W.cell? ⟨9,0,none⟩=some (.iface 239 (.agg #[.pointer (some ⟨10,28,none⟩)])):=by
 rw [handleOf] at h
 obtain ⟨name,u,ty,e1,e2,e3,e4,e5⟩:=h _ (List.mem_singleton.2 rfl)
 have en:name=[101,114,114,111,114]:=(Option.some.inj e1).symm
 subst en
 obtain rfl:=Option.some.inj (rtypeT.symm.trans e2)
 have hm:ty∈(List.range 307).filter fun t=>Tryz.prog.rowNamed t [101,114,114,111,114]:=List.mem_filter.2 ⟨List.mem_range.2 (by rw [← sizeT]; exact e3),e4⟩
 rw [oneRow] at hm
 obtain rfl:=List.mem_singleton.1 hm
 rw [handleErr] at e5
 simpa using World.var?_cell gErrT e5 0
theorem held9_of_laid {W:World} (h:laidMetH Tryz.prog Rows.worldStepsRow.laid W):∃ A,Held9 W A:=by
 obtain ⟨⟨ps,h1,h2,h3⟩,hh⟩:=laidMetH_iff.1 h
 obtain ⟨ads,hl,hnd,-,hs⟩:=sents _ [6,3,4,1,7,5,8,0,2] _ plainOf
  (fun g hg=>by simpa using List.all_eq_true.1 typesOf g hg) textsOf ps h1 h2 h3
 have hlen:ads.length=9:=by rw [hl]; rfl
 have hgs:∀ i,i<9→[6,3,4,1,7,5,8,0,2][i]? = some (gN i):=by
  intro i hi
  have:i=0 ∨ i=1 ∨ i=2 ∨ i=3 ∨ i=4 ∨ i=5 ∨ i=6 ∨ i=7 ∨ i=8:=by omega
  rcases this with rfl|rfl|rfl|rfl|rfl|rfl|rfl|rfl|rfl <;> rfl
 have hat:∀ i (hi:i<9),ads[i]? = some (ads.getD i ⟨0,0,none⟩):=by
  intro i hi
  rw [List.getD_eq_getElem?_getD,List.getElem?_eq_getElem (by omega)]; rfl
 refine ⟨fun i=>ads.getD i ⟨0,0,none⟩,fun i hi=>(hs i (gN i) _ (hgs i hi) (hat i hi)).var,?_,fun i hi=>(hs i (gN i) _ (hgs i hi) (hat i hi)).row,handle_of hh⟩
 intro i j hi hj hne e
 have e1:=hat i hi
 have e2:=hat j hj
 rw [e] at e1
 exact hne ((List.getElem?_inj (by omega) hnd).1 (e1.trans e2.symm))
end Go.Proofs.YtadhpkopkkjmfaaGreatDoor
