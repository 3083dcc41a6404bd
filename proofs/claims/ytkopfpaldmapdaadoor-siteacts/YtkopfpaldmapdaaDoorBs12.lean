/-
  On the way to SActsProof: Held9.
-/
import Derived.Test.YtkopfpaldmapdaaDoorBs5
import Derived.Test.YtkopfpaldmapdaaDoorBs7
set_option maxHeartbeats 8000000
set_option maxRecDepth 100000
namespace Go.Proofs.YtkopfpaldmapdaaDoor
open Go.ChangeShapes Go.WideShapes Go.RowKit
theorem door_met9 (os:Os) (args:Array Value):laidMetH Tryd.prog Rows.siteActsRow.laid ((World.doorLaid Tryd.prog 187 os).forCall (fun _ _=>0) ⟨#[],args,[]⟩).memory :=
 laidMetH_of_parts3 (fuel:=8) (laidMet_of_run' 8 (by kernel_rfl) (by kernel_rfl)) (by kernel_rfl) (by kernel_rfl)
theorem plainOf:(Rows.siteActsRow.laid.filter fun x=>x.2.handleName?.isNone).map (fun x=>Tryd.prog.globalNamed x.1)=[4,0,2,5,3,1,6,7,8].map some:=by kernel_rfl
theorem textsOf:(Rows.siteActsRow.laid.filter fun x=>x.2.handleName?.isNone).map (·.2)=((Rows.siteActsRow.laid.filter fun x=>x.2.handleName?.isNone).map fun x=>textOf x.2).map errD:=by kernel_rfl
theorem typesOf:([4,0,2,5,3,1,6,7,8].all fun g=>((Tryd.prog.globals[g]?).map (·.type)) == some 26)=true:=by kernel_rfl
theorem handleOf:(Rows.siteActsRow.laid.filter fun x=>x.2.handleName?.isSome)=Rows.siteActsRow.laid.take 1:=by kernel_rfl
theorem gErrT:Tryd.prog.globalNamed (Rows.siteActsRow.laid.map (·.1)).head! = some 9:=by kernel_rfl
theorem rtypeT:(Tryd.prog.cutTypes.find? (·.1 == "internal/reflectlite.rtype")).map (·.2)=some 172:=by kernel_rfl
theorem oneRow:((List.range 220).filter fun t=>Tryd.prog.rowNamed t [101,114,114,111,114])=[26]:=by kernel_rfl
theorem sizeT:Tryd.prog.types.size=220:=by kernel_rfl
theorem handleErr:typeHandle Tryd.prog 26=.pointer (some ⟨10,26,none⟩):=by kernel_rfl
theorem handle_of {W:World} (h:handlesMet Tryd.prog (Rows.siteActsRow.laid.filter fun x=>x.2.handleName?.isSome) W):W.cell? ⟨9,0,none⟩=some (.iface 172 (.agg #[.pointer (some ⟨10,26,none⟩)])):=by
 rw [handleOf] at h
 obtain ⟨name,u,ty,e1,e2,e3,e4,e5⟩:=h _ (List.mem_singleton.2 rfl)
 have en:name=[101,114,114,111,114]:=(Option.some.inj e1).symm
 subst en
 obtain rfl:=Option.some.inj (rtypeT.symm.trans e2)
 have hm:ty∈(List.range 220).filter fun t=>Tryd.prog.rowNamed t [101,114,114,111,114]:=List.mem_filter.2 ⟨List.mem_range.2 (by rw [← sizeT]; exact e3),e4⟩
 rw [oneRow] at hm
 obtain rfl:=List.mem_singleton.1 hm
 rw [handleErr] at e5
 simpa using World.var?_cell gErrT e5 0
theorem held9_of_laid {W:World} (h:laidMetH Tryd.prog Rows.siteActsRow.laid W):∃ A,Held9 W A:=by
 obtain ⟨⟨ps,h1,h2,h3⟩,hh⟩:=laidMetH_iff.1 h
 obtain ⟨ads,hl,hnd,-,hs⟩:=sents _ [4,0,2,5,3,1,6,7,8] _ plainOf
  (fun g hg=>by simpa using List.all_eq_true.1 typesOf g hg) textsOf ps h1 h2 h3
 have hlen:ads.length=9:=by rw [hl]; rfl
 have hgs:∀ i,i<9→[4,0,2,5,3,1,6,7,8][i]? = some (gN i):=by
  intro i hi
  have:i=0 ∨ i=1 ∨ i=2 ∨ i=3 ∨ i=4 ∨ i=5 ∨ i=6 ∨ i=7 ∨ i=8:=by omega
  rcases this with rfl|rfl|rfl|rfl|rfl|rfl|rfl|rfl|rfl <;> rfl
 have hat:∀ i (hi:i<9),ads[i]? = some (ads.getD i ⟨0,0,none⟩):=by
  intro i hi
  rw [List.getD_eq_getElem?_getD,List.getElem?_eq_getElem (by omega)]; rfl
 refine ⟨fun i=>ads.getD i ⟨0,0,none⟩,fun i hi=>(hs i (gN i) _ (hgs i hi) (hat i hi)).var,?_,fun i hi=>(hs i (gN i) _ (hgs i hi) (hat i hi)).row,handle_of hh⟩
 intro i j hi hj hne e
 have e1:=hat i hi
 have e2:=hat j hj
 rw [e] at e1
 exact hne ((List.getElem?_inj (by omega) hnd).1 (e1.trans e2.symm))
end Go.Proofs.YtkopfpaldmapdaaDoor
