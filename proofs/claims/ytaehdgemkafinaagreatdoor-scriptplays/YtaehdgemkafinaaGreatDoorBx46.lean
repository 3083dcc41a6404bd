/-
  On the way to SPlaysProof: DoorA LV SPlaysF SPlaysG.
-/
import Derived.Test.YtaehdgemkafinaaGreatDoorBx4
import Derived.Test.YtaehdgemkafinaaGreatDoorCards
import Derived.Lay
import Derived.Conc.Holds
import Derived.Leaving
import Derived.SevenTiedAt
import Derived.JoinedOf
set_option maxHeartbeats 8000000
set_option maxRecDepth 100000
namespace Go.Proofs.YtaehdgemkafinaaGreatDoor
open Go.ChangeShapes Go.WideShapes Go.RowKit
open Go.Proofs.Tryz
abbrev jw:List (String×DataW Unit):=[("unicode/utf8.first",Rows.laid_unicode_utf8_first)]
theorem pW:((Rows.scriptAnewRow.laid.filter fun x=>x.2.handleName?.isNone).filter fun x=>["unicode/utf8.first"].contains x.1)=jw:=by kernel_rfl
theorem adE (os:Os):(World.doorLaid prog 212 os).layFits prog jw ((List.range (World.doorLaid prog 212 os).heap.size).filter (· != 14))=true:=by kernel_rfl
theorem aan (os:Os) (args:Array Value):(World.doorLaid prog 212 os).layIfaces prog jw (((World.doorLaid prog 212 os).layVars prog jw).forCall (fun _ _=>0) ⟨#[],args,[]⟩).memory=true:=by kernel_rfl
theorem aib (os:Os) (args:Array Value):LaidIn prog (((World.doorLaid prog 212 os).layVars prog jw).forCall (fun _ _=>0) ⟨#[],args,[]⟩).memory ((Rows.scriptAnewRow.laid.filter fun x=>x.2.handleName?.isNone).filter fun x=>!["unicode/utf8.first"].contains x.1) ((List.range (World.doorLaid prog 212 os).heap.size).filter (· != 14)) :=
 LaidIn.of_run _ 8 (by kernel_rfl) (by kernel_rfl) (by kernel_rfl) (by kernel_rfl)
theorem yz (os:Os) (args:Array Value):laidMetH prog Rows.scriptAnewRow.laid (((World.doorLaid prog 212 os).layVars prog jw).forCall (fun _ _=>0) ⟨#[],args,[]⟩).memory :=
 laidMetH_of_parts3 (fuel:=8) (laidMet_layVars (w0:=World.doorLaid prog 212 os) ["unicode/utf8.first"] _ (by rw [pW]; simp [World.memory,World.forCall,Input.heap]) (by rw [pW]; exact adE os) (by rw [pW]; exact aan os args) (aib os args)) (by kernel_rfl) (by kernel_rfl)
end Go.Proofs.YtaehdgemkafinaaGreatDoor
namespace Go.Proofs.YtaehdgemkafinaaGreatDoor
open Go
open Go.Proofs.Tryz
theorem oS{a:Assume}{C:Checked}{os:Os}{f:FuncId}{r:Reach}{b:World->Array Value->Prop}{c:World->Array Value->Value->World->Prop}(h:ReturnsInHanded a C os f r b c):ReturnsInLeavingWide a C os f r b c:=fun d=>by
 obtain⟨e,g,i,j,k⟩:=h d;refine⟨e,g,i,j,fun l m n o=>?_⟩;obtain⟨p,q,s,t,u,v,w,⟨x,y,z,A,B,D,E⟩,F⟩:=k l m n o;exact⟨p,q,s,t,u,v,w,⟨x,y,z,A,D,onlyLeaving_of_quiet B,E⟩,F⟩
theorem abx(e:Looks){p:Pinned}{s:OpenSpec}{c:OpenClaim}(k:List (List PathCond))(h:List LaidKind)(i:Bool)(a:Bool×String)(b g:Bool)(w:c.holds p s)(x:∀d∈k,(c.withDomain d).holds p s)(y:c.wfByText s=true)(z:∀d∈k,(c.withDomain d).wfByText s=true)(A:c.laidByTextAt e p h i)(l:c.start=.entering)(m:c.noBlocks=false∧c.again=false)(n:p.checked.prog.mainIs=some (a.1,a.2.toList))(B:(!a.1&&a.2.isEmpty && !b)=false)(o:∀f q,p.checked.prog.funcNamed c.func=some f->p.checked.prog.funcs[f]?=some q->b=p.checked.prog.looks []∧∀(j:Nat) t,q.params[j]?=some t->p.checked.prog.wantsStandIn t=false)(C:g=c.goesBy p.checked.prog):Claim7.holds p (.plain s) { stood:={ row:=c,standIns:=[],harness:=a,looks:=b },kinds:=[],alts:=k,goes:=g,laidByText:=true,laidKinds:=h,laidTests:=i,laidLooks:=e }:=by
 have r:∀u:OpenClaim,Claim7.isSixth { stood:={ row:=u,standIns:=[],harness:=a,looks:=b },kinds:=[] }=false:=fun u=>by simpa [Claim7.isSixth]using B
 refine⟨Claim7.tied_new_at e h i (Claim7.new_of_sixth w a b l m n (r c) o) y,fun d v=>?_,A,(fun D=>by cases D),C⟩;exact Claim7.tied_new_at e h i (Claim7.new_of_sixth (x d v) a b l m n (r _) o) (z d v)
theorem acN:(Rows.scriptPlaysRow.wf (OpenSpec.ofChange Rows.scriptPlaysSpec))=true:=by kernel_rfl
theorem abC:(laidOutB prog)=true:=by kernel_rfl
theorem ab1:(mapsRowed prog)=true:=by kernel_rfl
theorem ach:(Tryz.f5.params.all (prog.readableRec ·))=true:=by kernel_rfl
theorem ab3:(namedTie prog Rows.scriptPlaysRow.named Rows.scriptPlaysSpec.vars)=true:=by kernel_rfl
theorem abV:((Rows.scriptPlaysRow.stops == []))=true:=by kernel_rfl
theorem abh:((prog.stops == []))=true:=by kernel_rfl
theorem adb:((Rows.scriptPlaysRow.knobs == []))=true:=by kernel_rfl
theorem abo:((prog.stopKnobs == []))=true:=by kernel_rfl
theorem aco:((Rows.scriptPlaysRow.inPlace == prog.inPlace 5))=true:=by kernel_rfl
theorem aaN:((Rows.scriptPlaysRow.unfollowed == prog.unfollowed 5))=true:=by kernel_rfl
theorem aav:((Rows.scriptPlaysRow.recurses == prog.recurses 5))=true:=by kernel_rfl
theorem aa0:((Rows.scriptPlaysRow.named == prog.varsNamed 5))=true:=by kernel_rfl
theorem yv:((Rows.scriptPlaysRow.maps == (Tryz.f5.params.toList ++ Rows.scriptPlaysSpec.plain.varTypes prog).any (prog.mapsRec ·)))=true:=by kernel_rfl
theorem aaU:((Rows.scriptPlaysRow.ifaces == (Tryz.f5.params.toList ++ Rows.scriptPlaysSpec.plain.varTypes prog).any (prog.ifacesRec ·)))=true:=by kernel_rfl
theorem yY:((Rows.scriptPlaysRow.mapsOut == prog.mapsAmong Tryz.f5.resultTypes.toList))=true:=by kernel_rfl
theorem zZ:((Rows.scriptPlaysRow.loops == (Tryz.f5.params.toList ++ Rows.scriptPlaysSpec.plain.varTypes prog).any (prog.loopsFrom ·)))=true:=by kernel_rfl
theorem yP:((Rows.scriptPlaysRow.wideKeys == (Tryz.f5.params.toList ++ Rows.scriptPlaysSpec.plain.varTypes prog ++ Tryz.f5.resultTypes.toList).any (prog.wideKeysFrom ·)))=true:=by kernel_rfl
theorem yC:(Rows.scriptPlaysSpec.vars.all (prog.varReadable ·))=true:=by kernel_rfl
theorem y9:(Tryz.f5.resultTypes.all (fun t=>prog.readableRec t && decide (t<prog.types.size)))=true:=by kernel_rfl
theorem aaV:((Rows.scriptPlaysRow.ifacesOut == Tryz.f5.resultTypes.toList.any (prog.ifacesRec ·)))=true:=by kernel_rfl
theorem aax:((Rows.scriptPlaysRow.loopsOut == Tryz.f5.resultTypes.toList.any (prog.loopsFrom ·)))=true:=by kernel_rfl
theorem aaG:((Rows.scriptPlaysRow.plainKeys == prog.plainKeys))=true:=by kernel_rfl
theorem zh:(Rows.scriptPlaysRow.shortTexts.isNone)=true:=by kernel_rfl
theorem aaw:(prog.stopsHeard)=true:=by kernel_rfl
theorem zx:(prog.mayEnter)=true:=by kernel_rfl
theorem aam:((Rows.scriptPlaysRow.lifted == prog.liftsFinal))=true:=by kernel_rfl
theorem aaO:((prog.make == some Rows.scriptPlaysRow.make))=true:=by kernel_rfl
theorem aay:((Rows.scriptPlaysRow.kinds == (if Rows.scriptPlaysRow.domain.isEmpty then [] else Tryz.f5.params.toList.map fun t=>match prog.underlying t with|some (.int k)=>some k|_=>none)))=true:=by kernel_rfl
theorem yL:((Rows.scriptPlaysRow.pinned == Rows.scriptPlaysRow.pinnedBy))=true:=by kernel_rfl
theorem zR:((Rows.scriptPlaysRow.veiled == (Tryz.f5.params.toList ++ Rows.scriptPlaysSpec.plain.varTypes prog ++ Tryz.f5.resultTypes.toList).any (prog.veiledRec ·)))=true:=by kernel_rfl
theorem zu:(Rows.scriptPlaysRow.veiledFits prog Tryz.f5.params.toList (Tryz.f5.params.toList ++ Rows.scriptPlaysSpec.plain.varTypes prog ++ Tryz.f5.resultTypes.toList))=true:=by kernel_rfl
theorem mU:joinedFacts prog 5 Tryz.f5 Rows.scriptPlaysSpec Rows.scriptPlaysRow=true:=by
 unfold joinedFacts
 rw [acN,abC,ab1,ach,ab3,abV,abh,adb,abo,aco,aaN,aav,aa0,yv,aaU,yY,zZ,yP,yC,y9,aaV,aax,aaG,zh,aaw,zx,aam,aaO]
 simp only [Bool.true_and,Bool.and_eq_true]
 exact ⟨⟨⟨aay,yL⟩,zR⟩,zu⟩
end Go.Proofs.YtaehdgemkafinaaGreatDoor
