/-
  On the way to SReadsProof: O6B O6C O6D O6F.
-/
import Derived.Test.YtjcflddbaeiajacGreatDoorBu34
import Derived.Shelf.Abstract
set_option maxHeartbeats 8000000
set_option maxRecDepth 100000
namespace Go.Proofs.YtjcflddbaeiajacGreatDoor
open Go.RowKit
def drawnO:Code→Option (Array Oper)
 | .region _ ops d=>if d then some ops else none
 | .seq a b=>(drawnO a).orElse fun _=>drawnO b
 | .block _ b=>drawnO b
 | _=>none
def drawnF (f:Func):Array Oper:=(f.body.bind drawnO).getD #[]
def opNo:Oper:={ dst:=none,op:=.move (.tmp 0),type:=0,pos:= "",after:=#[],guard:=none }
def opIn (f:Func) (k:Nat):Oper:=((drawnF f)[k]?).getD opNo
def partO (o:Oper):Op×Option Nat×Option (Nat×Bool):=(o.op,o.dst,o.guard)
theorem opIn_at {f:Func} {k:Nat} (h:k<(drawnF f).size):(drawnF f)[k]? = some (opIn f k):=by
 unfold opIn
 rw [Array.getElem?_eq_getElem h]; rfl
theorem partO_of {f:Func} {n:Nat} {g:Nat→Nat} {p:Nat→Op×Option Nat×Option (Nat×Bool)} (h:(List.range n).map (fun i=>partO (opIn f (g i)))=(List.range n).map p) {i:Nat} (hi:i<n):(opIn f (g i)).op=(p i).1∧(opIn f (g i)).dst=(p i).2.1∧(opIn f (g i)).guard=(p i).2.2:=by
 have:=List.map_inj_left.1 h i (List.mem_range.2 hi)
 rw [← this]
 exact ⟨rfl,rfl,rfl⟩
theorem cm_size:(drawnF Tryz.f92).size=79:=by kernel_rfl
theorem cm_depsB:((drawnF Tryz.f92).toList.zipIdx.all fun p=>p.1.after.all fun e=>decide (e.on<p.2))=true:=by kernel_rfl
theorem cm_deps:∀ (i:Nat) (o:Oper),(drawnF Tryz.f92)[i]? = some o→∀ e,e∈o.after.toList→e.on<i:=by
 intro i o ho e he
 have h1:(o,i)∈(drawnF Tryz.f92).toList.zipIdx:=by
  rw [List.mem_zipIdx_iff_getElem?,← ho]; simp
 have h2:=List.all_eq_true.1 cm_depsB _ h1
 simp only [Array.all_eq_true'] at h2
 exact of_decide_eq_true (h2 e (Array.mem_toList_iff.1 he))
theorem cm_map:partO (opIn Tryz.f92 0)=(Op.makeMap 161 none,some 3,none):=by kernel_rfl
theorem cm_load:(List.range 19).map (fun i=>partO (opIn Tryz.f92 (4 * i+1)))=(List.range 19).map (fun i=>(Op.load 158 (.tmp 1),some (3 * i+4),none)):=by kernel_rfl
theorem cm_func:(List.range 19).map (fun i=>partO (opIn Tryz.f92 (4 * i+2)))=(List.range 19).map (fun i=>(if i=0 then Op.makeFunc (.func 155) #[.tmp 4] #[] else Op.makeFunc (.func (fnO i)) #[] #[.tmp 1],some (3 * i+5),none)):=by kernel_rfl
theorem cm_does:(List.range 12).map (fun i=>partO (opIn Tryz.f92 (4 * (i+1)+3)))=(List.range 12).map (fun i=>(Op.call { callee:=.value (.func 156),args:=#[.tmp (3 * (i+1)+4),.const (.string (formB (i+1))),.tmp (3 * (i+1)+5)],argTypes:=#[158,9,91] },some (3 * (i+1)+6),none)):=by kernel_rfl
theorem cm_tells:(List.range 6).map (fun i=>partO (opIn Tryz.f92 (4 * (i+13)+3)))=(List.range 6).map (fun i=>(Op.call { callee:=.value (.func 169),args:=#[.tmp (3 * (i+13)+4),.const (.string (formB (i+13))),.tmp (3 * (i+13)+5)],argTypes:=#[158,9,234] },some (3 * (i+13)+6),none)):=by kernel_rfl
theorem cm_build:partO (opIn Tryz.f92 3)=(Op.build 236 #[(0,.const (.string (formB 0))),(1,.const (.bool true)),(2,.tmp 5)],some 6,none):=by kernel_rfl
theorem cm_ins:(List.range 19).map (fun i=>partO (opIn Tryz.f92 (4 * i+4)))=(List.range 19).map (fun i=>(Op.insert 161 (.tmp 3) (.const (.string ⟨(nameO.getD i []).toArray⟩)) (.tmp (3 * i+6)),none,none)):=by kernel_rfl
theorem cm_end:(List.range 2).map (fun i=>partO (opIn Tryz.f92 (i+77)))=(List.range 2).map (fun i=>(if i=0 then Op.move (.tmp 3) else Op.assign (.tmp 61),if i=0 then some 61 else some 2,none)):=by kernel_rfl
theorem cm_waits:((List.range 19).all fun i=>((opIn Tryz.f92 (4 * i+3)).after.any fun e=>e.on == 4 * i+2 && Region.binds .any e) && (i == 0 || ((opIn Tryz.f92 (4 * i+3)).after.any fun e=>e.on == 4 * i+1 && Region.binds .any e)) && ((opIn Tryz.f92 (4 * i+4)).after.any fun e=>e.on == 0 && Region.binds .any e) && ((opIn Tryz.f92 (4 * i+4)).after.any fun e=>e.on == 4 * i+3 && Region.binds .any e))=true:=by kernel_rfl
theorem cm_waits2:(((opIn Tryz.f92 2).after.any fun e=>e.on == 1 && Region.binds .any e) && ((opIn Tryz.f92 77).after.any fun e=>e.on == 0 && Region.binds .any e) && ((opIn Tryz.f92 78).after.any fun e=>e.on == 77 && Region.binds .any e))=true:=by kernel_rfl
theorem cmdO_lt {s:Bs} {i:Nat} (h:cmdO s=some i):i<19∧nameO[i]? = some s:=by
 unfold cmdO at h
 obtain ⟨h1,h2,-⟩:=List.findIdx?_eq_some_iff_getElem.1 h
 refine ⟨h1,?_⟩
 rw [List.getElem?_eq_getElem h1]
 rw [eq_of_beq h2]
theorem nameO_nodup:nameO.Nodup:=by decide +kernel
theorem cmdO_name {i:Nat} {s:Bs} (h:nameO[i]? = some s):cmdO s=some i:=by
 have hi:i<nameO.length:=by
  rcases Nat.lt_or_ge i nameO.length with q|q
  ·exact q
  ·rw [List.getElem?_eq_none q] at h; cases h
 unfold cmdO
 rw [List.findIdx?_eq_some_iff_getElem]
 rw [List.getElem?_eq_getElem hi] at h
 have hs:=Option.some.inj h
 refine ⟨hi,by rw [hs]; simp,fun j hj=>?_⟩
 intro e
 have e1:=eq_of_beq e
 have:=(List.getElem?_inj (by omega) nameO_nodup).1 ((List.getElem?_eq_getElem (show j<nameO.length by omega)).trans ((congrArg some (e1.trans hs.symm)).trans (List.getElem?_eq_getElem hi).symm))
 omega
def slotO (k:Nat):Nat:=if k=0 then 3 else if k=77 then 61 else if k=78 then 2 else if k % 4=1 then 3 * (k / 4)+4 else if k % 4=2 then 3 * (k / 4)+5 else 3 * (k / 4)+6
theorem slot_ne {k j:Nat} (hk:k<79) (hk4:k=0 ∨ k % 4≠0 ) (hj:j<79) (hj4:j=0 ∨ j % 4≠0) (h:j≠k):slotO k≠slotO j:=by
 unfold slotO
 repeat' split
 all_goals omega
theorem slot1 {i:Nat} (h:i<19):slotO (4 * i+1)=3 * i+4:=by
 unfold slotO
 repeat' split
 all_goals omega
theorem slot2 {i:Nat} (h:i<19):slotO (4 * i+2)=3 * i+5:=by
 unfold slotO
 repeat' split
 all_goals omega
theorem slot3 {i:Nat} (_h:i<19):slotO (4 * i+3)=3 * i+6:=by
 unfold slotO
 repeat' split
 all_goals omega
theorem slot_le {k:Nat} (hk:k<79) (hk4:k=0 ∨ k % 4≠0):2≤slotO k∧slotO k≤61:=by
 unfold slotO
 by_cases h0:k=0
 ·rw [if_pos h0]; omega
 ·rw [if_neg h0]
  by_cases h1:k=77
  ·rw [if_pos h1]; omega
  ·rw [if_neg h1]
   by_cases h2:k=78
   ·rw [if_pos h2]; omega
   ·rw [if_neg h2]
    by_cases h3:k % 4=1
    ·rw [if_pos h3]; omega
    ·rw [if_neg h3]
     by_cases h4:k % 4=2
     ·rw [if_pos h4]; omega
     ·rw [if_neg h4]; omega
theorem four_ne {k:Nat} (hk4:k=0 ∨ k % 4≠0) (i:Nat):4 * i+4≠k:=by omega
def atO (L:Nat→Bool) (a:Act) (s:Bs) (z:DataW Value):DataW Value:=match cmdO s with
 | none=>z
 | some i=>if L (4 * i+4)=true then .held (a.eval (.tmp (3 * i+6))) else z
def MapO (W w:World) (L:Nat→Bool) (a:Act) (f:Nat):Prop:=∃ mb n D,a.eval (.tmp 3)=.map (some mb)∧W.heap.size≤mb∧w.ownsMap Tryz.prog 9 elO mb n D∧n+f≤100∧∀ s z,D.atKey (.string s) z=atO L a s z
structure CiO (df:List Deferred) (W:World) (pb bb f:Nat) (L:Nat→Bool) (a:Act) (w:World):Prop where
 sz:a.tmps.size=62
 df:a.defers=df
 e1:a.eval (.tmp 1)=ptrO bb
 box:BoxO w bb (ptrO pb)
 lb:pb<bb
 lw:pb<W.heap.size
 bel:Below W.heap.size W w
 ld:∀ i,i<19→L (4 * i+1)=true→a.eval (.tmp (3 * i+4))=ptrO pb
 mf:∀ i,i<19→L (4 * i+2)=true→a.eval (.tmp (3 * i+5))=(if i=0 then .func (.func 155) #[ptrO pb] #[] else cloO (fnO i) bb)
 cl:∀ i,i<19→L (4 * i+3)=true→EntO w pb bb i (a.eval (.tmp (3 * i+6)))
 mp:L 0=true→MapO W w L a f
 e61:L 77=true→a.eval (.tmp 61)=a.eval (.tmp 3)
 e2:L 78=true→a.eval (.tmp 2)=a.eval (.tmp 3)
 ord:∀ i,i<19→L (4 * i+4)=true→L (4 * i+3)=true∧L 0=true
 o77:(L 77=true→L 0=true)∧(L 78=true→L 0=true)
section
variable {df:List Deferred} {W w w':World} {pb bb f k:Nat} {L L':Nat→Bool} {a:Act} {v:Value}
theorem ownsMap_later {mb n:Nat} {D:DataW Value} (h:w.ownsMap Tryz.prog 9 elO mb n D) (hb:Below w.heap.size w w'):w'.ownsMap Tryz.prog 9 elO mb n D:=by
 obtain ⟨es,c,h1,h2,h3,h4⟩:=h
 exact ⟨es,c,(hb.block _ (row_ltJ h1)).trans h1,h2,h3,h4⟩
theorem CiO.next (h:CiO df W pb bb (f+1) L a w) (hk:k<79) (hk4:k=0 ∨ k % 4≠0) (hL:L k=false) (hL':∀ j,L' j=if j=k then true else L j) (hb:Below w.heap.size w w')
  (n1:∀ i,i<19→k=4 * i+1→v=ptrO pb) (n2:∀ i,i<19→k=4 * i+2→v=(if i=0 then .func (.func 155) #[ptrO pb] #[] else cloO (fnO i) bb)) (n3:∀ i,i<19→k=4 * i+3→EntO w' pb bb i v)
  (n0:k=0→∃ mb,v=.map (some mb)∧W.heap.size≤mb∧w'.ownsMap Tryz.prog 9 elO mb 0 (.map [])∧f≤100) (n77:k=77→L 0=true∧v=a.eval (.tmp 3)) (n78:k=78→L 0=true∧v=a.eval (.tmp 3)) :
  CiO df W pb bb f L' (a.put (some (slotO k)) v) w':=by
 have ne:∀ j,j<79→(j=0 ∨ j % 4≠0)→j≠k→(a.put (some (slotO k)) v).eval (.tmp (slotO j))=a.eval (.tmp (slotO j)):=fun j h1 h2 h3=>Act.eval_put_ne _ _ _ _ (slot_ne hk hk4 h1 h2 h3)
 have same:(a.put (some (slotO k)) v).eval (.tmp (slotO k))=v:=Act.eval_put_same _ _ _ (by rw [h.sz]; have:=(slot_le hk hk4).2; omega)
 have hLn:∀ j,j≠k→L' j=L j:=fun j hj=>by rw [hL' j,if_neg hj]
 have up:∀ j,L j=true→L' j=true:=fun j hj=>by rw [hL' j]; split <;> simp [hj]
 have st:StayO pb w w':=fun b u _ hbx=>cell_later hb hbx
 have o':∀ i,i<19→L' (4 * i+4)=true→L (4 * i+3)=true∧L 0=true:=fun i hi hq=>by
  rw [hLn _ (four_ne hk4 i)] at hq
  exact h.ord i hi hq
 have s3:k≠0→(a.put (some (slotO k)) v).eval (.tmp 3)=a.eval (.tmp 3):=fun q=>ne 0 (by omega) (.inl rfl) (Ne.symm q)
 refine ⟨(Act.size_put _ _ _).trans h.sz,(Act.defers_put' _ _ _).trans h.df,?_,st _ _ h.lb h.box,h.lb,h.lw,h.bel.trans (hb.mono h.bel.size),fun i hi hq=>?_,fun i hi hq=>?_,fun i hi hq=>?_,fun hq=>?_,fun hq=>?_,fun hq=>?_,fun i hi hq=>?_,?_,?_⟩
 ·exact (Act.eval_put_ne _ _ _ _ (by have:=(slot_le hk hk4).1; omega)).trans h.e1
 ·rw [← slot1 hi]
  by_cases e:4 * i+1=k
  ·rw [e,same]; exact n1 i hi e.symm
  ·rw [ne _ (by omega) (.inr (by omega)) e,slot1 hi]; exact h.ld i hi (by rw [← hLn _ e]; exact hq)
 ·rw [← slot2 hi]
  by_cases e:4 * i+2=k
  ·rw [e,same]; exact n2 i hi e.symm
  ·rw [ne _ (by omega) (.inr (by omega)) e,slot2 hi]; exact h.mf i hi (by rw [← hLn _ e]; exact hq)
 ·rw [← slot3 hi]
  by_cases e:4 * i+3=k
  ·rw [e,same]; exact n3 i hi e.symm
  ·rw [ne _ (by omega) (.inr (by omega)) e,slot3 hi]; exact (h.cl i hi (by rw [← hLn _ e]; exact hq)).stay st
 ·by_cases e:k=0
  ·obtain ⟨mb,q1,q2,q3,q4⟩:=n0 e
   refine ⟨mb,0,_,?_,q2,q3,by omega,fun s z=>?_⟩
   ·subst e; exact same.trans q1
   ·show z=atO _ _ s z
    unfold atO
    split
    ·rfl
    ·rename_i i hc
     rw [if_neg]
     intro hq'
     have:=(o' i (cmdO_lt hc).1 hq').2
     rw [e] at hL
     rw [hL] at this; cases this
  ·obtain ⟨mb,n,D,q1,q2,q3,q4,q5⟩:=h.mp (by rw [← hLn _ (Ne.symm e)]; exact hq)
   refine ⟨mb,n,D,(s3 e).trans q1,q2,ownsMap_later q3 hb,by omega,fun s z=>?_⟩
   rw [q5 s z]
   unfold atO
   split
   ·rfl
   ·rename_i i hc
    have hi:=(cmdO_lt hc).1
    rw [hLn (4 * i+4) (four_ne hk4 i)]
    by_cases hq':L (4 * i+4)=true
    ·rw [if_pos hq',if_pos hq']
     have hne:4 * i+3≠k:=fun e2=>by
      have:=(h.ord i hi hq').1
      rw [e2,hL] at this; cases this
     rw [← slot3 hi,ne _ (by omega) (.inr (by omega)) hne]
    ·rw [if_neg hq',if_neg hq']
 ·by_cases e:k=77
  ·have hq0:=n77 e
   rw [s3 (by omega),← hq0.2]
   rw [e] at same ⊢; exact same
  ·rw [s3 (fun e0=>by
    have h1:=h.o77.1 (by rw [← hLn _ (Ne.symm e)]; exact hq)
    rw [e0] at hL
    rw [hL] at h1; cases h1)]
   exact (ne 77 (by omega) (.inr (by omega)) (Ne.symm e)).trans (h.e61 (by rw [← hLn _ (Ne.symm e)]; exact hq))
 ·by_cases e:k=78
  ·have hq0:=n78 e
   rw [s3 (by omega),← hq0.2]
   rw [e] at same ⊢; exact same
  ·rw [s3 (fun e0=>by
    have h1:=h.o77.2 (by rw [← hLn _ (Ne.symm e)]; exact hq)
    rw [e0] at hL
    rw [hL] at h1; cases h1)]
   exact (ne 78 (by omega) (.inr (by omega)) (Ne.symm e)).trans (h.e2 (by rw [← hLn _ (Ne.symm e)]; exact hq))
 ·obtain ⟨q1,q2⟩:=o' i hi hq
  exact ⟨up _ q1,up _ q2⟩
 ·intro hq
  by_cases e:k=77
  ·exact up _ (n77 e).1
  ·exact up _ (h.o77.1 (by rw [← hLn _ (Ne.symm e)]; exact hq))
 ·intro hq
  by_cases e:k=78
  ·exact up _ (n78 e).1
  ·exact up _ (h.o77.2 (by rw [← hLn _ (Ne.symm e)]; exact hq))
theorem CiO.ins (h:CiO df W pb bb (f+1) L a w) {i:Nat} (hi:i<19) (hk:k=4 * i+4) (hL':∀ j,L' j=if j=k then true else L j) (q0:L 0=true) (q3:L (4 * i+3)=true) :
  ∃ mb w3,a.eval (.tmp 3)=.map (some mb)∧(Instr.mapUpdate 161 (.map (some mb)) (.string ⟨(nameO.getD i []).toArray⟩) (a.eval (.tmp (3 * i+6)))).run Tryz.prog w=.ok () w3∧CiO df W pb bb f L' a w3:=by
 obtain ⟨mb,n,D,m1,m2,m3,m4,m5⟩:=h.mp q0
 have hnm:nameO[i]? = some (nameO.getD i []):=by
  rw [List.getD,List.getElem?_eq_getElem (show i<nameO.length from hi)]; rfl
 have hsz:(⟨(nameO.getD i []).toArray⟩:ByteArray).size≤100:=by
  have:∀ j,j<19→(nameO.getD j []).length≤100:=by decide +kernel
  have:=this i hi
  simpa [ByteArray.size] using this
 have hdl:(⟨(nameO.getD i []).toArray⟩:ByteArray).data.toList=nameO.getD i []:=rfl
 obtain ⟨w3,hrun,o3,hg⟩:=m3.update (key:=.string ⟨(nameO.getD i []).toArray⟩) (val:=a.eval (.tmp (3 * i+6))) (kl:=.string (nameO.getD i [])) (d:=.held (a.eval (.tmp (3 * i+6)))) (ps:=[]) tStr_keyed Tryz.underlying161 (by unfold maxLen; omega) (WideMaps.keyOf_string_mk Tryz.underlying9 (by unfold maxLen; omega)) rfl
 have hmO:=m3
 obtain ⟨es,c,hm,-,-,hDm⟩:=m3
 have st:StayO pb w w3:=fun b u _ hbx=>by
  have h1:=box_map hbx hm
  have h2:b<w.heap.size:=cell_lt hbx
  show w3.cell? ⟨b,0,none⟩=some u
  have h3:=hg.block b h2 (fun e=>h1 (Option.some.inj e))
  rw [show w3.cell? ⟨b,0,none⟩=w.cell? ⟨b,0,none⟩ by simp only [World.cell?,h3]]
  exact hbx
 have hLn:∀ j,j≠k→L' j=L j:=fun j hj=>by rw [hL' j,if_neg hj]
 have hLk:L' k=true:=by rw [hL' k,if_pos rfl]
 refine ⟨mb,w3,m1,hrun,⟨h.sz,h.df,h.e1,st _ _ h.lb h.box,h.lb,h.lw,?_,fun j hj hq=>h.ld j hj (by rw [← hLn _ (by omega)]; exact hq),fun j hj hq=>h.mf j hj (by rw [← hLn _ (by omega)]; exact hq),fun j hj hq=>(h.cl j hj (by rw [← hLn _ (by omega)]; exact hq)).stay st,fun _=>⟨mb,n+1,_,m1,m2,o3,by omega,fun s z=>?_⟩,fun hq=>h.e61 (by rw [← hLn _ (by omega)]; exact hq),fun hq=>h.e2 (by rw [← hLn _ (by omega)]; exact hq),fun j hj hq=>?_,fun hq=>?_,fun hq=>?_⟩⟩
 ·exact Below.grown h.bel hg h.bel.size (fun g hg'=>by obtain rfl:=Option.some.inj hg'; exact m2)
 ·by_cases e:s=nameO.getD i []
  ·subst e
   have hIM:Maps.IsMap D:=⟨_,hDm⟩
   have hIK:WideAt.IsKeyLit (.string (nameO.getD i [])):=True.intro
   rw [Maps.atKey_put_same hIM hIK]
   unfold atO
   rw [cmdO_name hnm]
   simp only
   rw [← hk,hLk,if_pos rfl]
  ·rw [Maps.atKey_put_other (fun e2=>e (by injection e2)),m5 s z]
   unfold atO
   split
   ·rfl
   ·rename_i j hc
    have hj:=(cmdO_lt hc)
    have hne:4 * j+4≠k:=fun e2=>by
     have:j=i:=by omega
     subst this
     exact e (Option.some.inj (hj.2.symm.trans hnm))
    rw [hLn _ hne]
 ·by_cases e:4 * j+4=k
  ·have:j=i:=by omega
   subst this
   exact ⟨by rw [hLn _ (by omega)]; exact q3,by rw [hLn _ (by omega)]; exact q0⟩
  ·obtain ⟨r1,r2⟩:=h.ord j hj (by rw [← hLn _ e]; exact hq)
   exact ⟨by rw [hLn _ (by omega)]; exact r1,by rw [hLn _ (by omega)]; exact r2⟩
 ·rw [hLn _ (by omega)]; exact q0
 ·rw [hLn _ (by omega)]; exact q0
end
theorem ent_does {w w':World} {pb bb i x y z:Nat} {v:Value} {form:ByteArray} (h:DoesO w w' pb form (cloO (fnO i) bb) v x y z) (hi:1≤i∧i≤12) (hf:form=formB i) (hp:pb<w.heap.size):EntO w' pb bb i v:=by
 obtain ⟨rfl,h1,h2,h3,h4,h5,h6⟩:=h
 subst hf
 have hi0:(i == 0)=false:=by simp; omega
 exact ⟨_,by rw [hi0],.inr (.inl ⟨hi.1,hi.2,x,y,z,rfl,h1,h2,h3,by omega,by omega,by omega⟩)⟩
theorem ent_tells {w w':World} {pb bb i x y:Nat} {v:Value} {form:ByteArray} (h:TellO w w' pb form (cloO (fnO i) bb) v x y) (hi:13≤i) (hf:form=formB i) (hp:pb<w.heap.size):EntO w' pb bb i v:=by
 obtain ⟨rfl,h1,h2,h4,h5⟩:=h
 subst hf
 have hi0:(i == 0)=false:=by simp; omega
 exact ⟨_,by rw [hi0],.inr (.inr ⟨hi,x,y,rfl,h1,h2,by omega,by omega⟩)⟩
section
variable {o:Oper} {a:Act} {w w':World} {K:Act→World→Prop} {Q:Exit→Act→World→Prop} {v:Value}
theorem op_value (hr:(execOp a.eval o).run Tryz.prog w=.ok (.value v) w') (h:K (a.put o.dst v) w'):Oper.wp Tryz.prog o a w K Q:=by
 unfold Oper.wp
 rw [hr]; exact h
theorem op_skip (hr:(execOp a.eval o).run Tryz.prog w=.ok .skip w') (h:K (a.put o.dst undef) w'):Oper.wp Tryz.prog o a w K Q:=by
 unfold Oper.wp
 rw [hr]; exact h
theorem ex_load {t:TypeId} {k:Nat} {ad:Addr} (ht:t=158) (ho:o.op=.load t (.tmp k)) (hk:a.eval (.tmp k)=.pointer (some ad)) (hc:w.cell? ad=some v):(execOp a.eval o).run Tryz.prog w=.ok (.value v) w:=by
 subst ht
 have hk2:=eval_form hk
 unfold execOp
 rw [ho]
 go_simp
theorem ex_func {fn:Fn} {k:Nat} (ho:o.op=.makeFunc fn #[] #[.tmp k]) (hk:a.eval (.tmp k)=v):(execOp a.eval o).run Tryz.prog w=.ok (.value (.func fn #[] #[v])) w:=by
 have hk2:=eval_form hk
 unfold execOp
 rw [ho]
 go_simp
theorem ex_bound {fn:Fn} {k:Nat} (ho:o.op=.makeFunc fn #[.tmp k] #[]) (hk:a.eval (.tmp k)=v):(execOp a.eval o).run Tryz.prog w=.ok (.value (.func fn #[v] #[])) w:=by
 have hk2:=eval_form hk
 unfold execOp
 rw [ho]
 go_simp
theorem ex_map (ho:o.op=.makeMap 161 none):(execOp a.eval o).run Tryz.prog w=.ok (.value (.map (some w.heap.size))) (w.alloc (.map #[] 0)):=by
 have hm:=run_makeMap (P:=Tryz.prog) 161 w
 unfold execOp
 rw [ho]
 go_simp
theorem ex_move {k:Nat} (ho:o.op=.move (.tmp k) ∨ o.op=.assign (.tmp k)) (hk:a.eval (.tmp k)=v):(execOp a.eval o).run Tryz.prog w=.ok (.value v) w:=by
 have hk2:=eval_form hk
 unfold execOp
 rcases ho with ho|ho <;> rw [ho] <;> go_simp
theorem ex_build {f:ByteArray} {k:Nat} {fn:Fn} {x y:Array Value} (ho:o.op=.build 236 #[(0,.const (.string f)),(1,.const (.bool true)),(2,.tmp k)]) (hk:a.eval (.tmp k)=.func fn x y):(execOp a.eval o).run Tryz.prog w=.ok (.value (.agg #[.string f,.bool true,.func fn x y])) w:=by
 have hk2:=eval_form hk
 unfold execOp
 rw [ho]
 go_simp
theorem ex_insert {mb:Nat} {s:ByteArray} {k j:Nat} (ho:o.op=.insert 161 (.tmp j) (.const (.string s)) (.tmp k)) (hj:a.eval (.tmp j)=.map (some mb)) (hk:a.eval (.tmp k)=v) (hr:(Instr.mapUpdate 161 (.map (some mb)) (.string s) v).run Tryz.prog w=.ok () w'):(execOp a.eval o).run Tryz.prog w=.ok .skip w':=by
 have hk2:=eval_form hk
 have hj2:=eval_form hj
 unfold execOp
 rw [ho]
 go_simp
theorem ex_call {f:Nat} {s:ByteArray} {j k:Nat} {u:Value} {ts:Array TypeId} (ho:o.op=.call { callee:=.value (.func f),args:=#[.tmp j,.const (.string s),.tmp k],argTypes:=ts }) (hj:a.eval (.tmp j)=u) (hk:a.eval (.tmp k)=v) (he:∀ args w,(callFunc f args).run Tryz.prog w=.ok (.enter f args) w):(execOp a.eval o).run Tryz.prog w=.ok (.enter f #[u,.string s,v]) w:=by
 have hk2:=eval_form hk
 have hj2:=eval_form hj
 unfold execOp
 rw [ho]
 go_simp
end
theorem wanted_none {o:Oper} {y:Nat→Option Bool} (h:o.guard=none):Region.wanted o y=true:=by
 unfold Region.wanted
 rw [h]
theorem op_at {Q:Exit→Act→World→Prop} {k:Nat} {K:Act→World→Prop} {a:Act} {w:World} (hk:k<79) (hg:(opIn Tryz.f92 k).guard=none) (h:∀ K':Act→World→Prop,(∀ a w,K a w→K' a w)→Oper.wp Tryz.prog (opIn Tryz.f92 k) a w K' Q):wpOp Tryz.prog (drawnF Tryz.f92) Q k K a w:=by
 refine wpOp_step (opIn_at (by rw [cm_size]; exact hk)) (fun K' hK=>?_)
 rw [if_pos (wanted_none hg)]
 exact h K' hK
theorem waits_of {L:Nat→Bool} {k j:Nat} (hk:k<79) (hd:∀ (o:Oper),(drawnF Tryz.f92)[k]? = some o→∀ e,e∈o.after.toList→Region.binds .any e=true→L e.on=true) (h:((opIn Tryz.f92 k).after.any fun e=>e.on == j && Region.binds .any e)=true):L j=true:=by
 obtain ⟨e,he,h1⟩:=Array.any_eq_true'.1 h
 simp only [Bool.and_eq_true,beq_iff_eq] at h1
 rw [← h1.1]
 exact hd _ (opIn_at (by rw [cm_size]; exact hk)) e (Array.mem_toList_iff.2 he) h1.2
section
variable {Q:Exit→Act→World→Prop} {df:List Deferred} {W w:World} {pb bb f k:Nat} {L:Nat→Bool} {a:Act}
theorem cm_step (h:CiO df W pb bb (f+1) L a w) (hf:f≤100) (hk:k<79) (hL:L k=false) (hd:∀ (o:Oper),(drawnF Tryz.f92)[k]? = some o→∀ e,e∈o.after.toList→Region.binds .any e=true→L e.on=true) :
  wpOp Tryz.prog (drawnF Tryz.f92) Q k (fun a' w'=>∀ L',(∀ j,L' j=if j=k then true else L j)→CiO df W pb bb f L' a' w') a w:=by
 by_cases k0:k=0
 ·subst k0
  obtain ⟨p1,p2,p3⟩:(opIn Tryz.f92 0).op=Op.makeMap 161 none∧(opIn Tryz.f92 0).dst=some 3∧(opIn Tryz.f92 0).guard=none:=⟨congrArg (·.1) cm_map,congrArg (·.2.1) cm_map,congrArg (·.2.2) cm_map⟩
  refine op_at hk p3 fun K' hK=>op_value (ex_map p1) (hK _ _ fun L' hL'=>?_)
  rw [p2]
  have hb:Below w.heap.size w (w.alloc (.map #[] 0)):=(Below.refl _ _).alloc (Nat.le_refl _) _
  refine h.next hk (.inl rfl) hL hL' hb (fun i _ e=>by omega) (fun i _ e=>by omega) (fun i _ e=>by omega) (fun _=>⟨_,rfl,h.bel.size,World.ownsMap_made w Tryz.prog 9 elO,hf⟩) (fun e=>by omega) (fun e=>by omega)
 by_cases k77:77≤k
 ·obtain ⟨i,rfl⟩:∃ i,k=i+77:=⟨k - 77,by omega⟩
  have hi:i<2:=by omega
  obtain ⟨p1,p2,p3⟩:=partO_of cm_end hi
  by_cases i0:i=0
  ·subst i0
   have q0:L 0=true:=waits_of hk hd (by have:=cm_waits2; simp only [Bool.and_eq_true] at this; exact this.1.2)
   refine op_at hk p3 fun K' hK=>op_value (ex_move (.inl p1) rfl) (hK _ _ fun L' hL'=>?_)
   rw [p2]
   exact h.next hk (.inr (by omega)) hL hL' (Below.refl _ _) (fun i _ e=>by omega) (fun i _ e=>by omega) (fun i hi e=>by omega) (fun e=>by omega) (fun _=>⟨q0,rfl⟩) (fun e=>by omega)
  ·obtain rfl:i=1:=by omega
   have q77:L 77=true:=waits_of hk hd (by have:=cm_waits2; simp only [Bool.and_eq_true] at this; exact this.2)
   refine op_at hk p3 fun K' hK=>op_value (ex_move (.inr p1) rfl) (hK _ _ fun L' hL'=>?_)
   rw [p2]
   exact h.next hk (.inr (by omega)) hL hL' (Below.refl _ _) (fun i _ e=>by omega) (fun i _ e=>by omega) (fun i hi e=>by omega) (fun e=>by omega) (fun e=>by omega) (fun _=>⟨h.o77.1 q77,h.e61 q77⟩)
 obtain ⟨i,r,hi,hr,rfl⟩:∃ i r,i<19∧r<4∧k=4 * i+1+r:=⟨(k - 1) / 4,(k - 1) % 4,by omega,by omega,by omega⟩
 have hw:=List.all_eq_true.1 cm_waits i (List.mem_range.2 hi)
 simp only [Bool.and_eq_true] at hw
 obtain ⟨⟨⟨w1,w2⟩,w3⟩,w4⟩:=hw
 have hr4:r=0 ∨ r=1 ∨ r=2 ∨ r=3:=by omega
 rcases hr4 with rfl|rfl|rfl|rfl
 ·obtain ⟨p1,p2,p3⟩:=partO_of cm_load hi
  refine op_at hk p3 fun K' hK=>op_value (ex_load rfl p1 h.e1 h.box) (hK _ _ fun L' hL'=>?_)
  rw [p2]
  have:=h.next hk (.inr (by omega)) hL hL' (Below.refl _ _) (v:=ptrO pb) (fun i _ e=>rfl) (fun i _ e=>by omega) (fun i hi e=>by omega) (fun e=>by omega) (fun e=>by omega) (fun e=>by omega)
  rw [slot1 hi] at this
  exact this
 ·obtain ⟨p1,p2,p3⟩:=partO_of cm_func hi
  by_cases i0:i=0
  ·subst i0
   have q1:L 1=true:=waits_of (k:=2) (by omega) hd (by have:=cm_waits2; simp only [Bool.and_eq_true] at this; exact this.1.1)
   refine op_at hk p3 fun K' hK=>op_value (ex_bound p1 (h.ld 0 (by omega) q1)) (hK _ _ fun L' hL'=>?_)
   rw [p2]
   exact h.next hk (.inr (by omega)) hL hL' (Below.refl _ _) (fun i _ e=>by omega) (fun i _ e=>by rw [if_pos (by omega)]) (fun i hi e=>by omega) (fun e=>by omega) (fun e=>by omega) (fun e=>by omega)
  ·simp only [if_neg i0] at p1
   refine op_at hk p3 fun K' hK=>op_value (ex_func p1 h.e1) (hK _ _ fun L' hL'=>?_)
   rw [p2]
   have:=h.next hk (.inr (by omega)) hL hL' (Below.refl _ _) (v:=cloO (fnO i) bb) (fun i _ e=>by omega) (fun j _ e=>by rw [if_neg (by omega),show j=i by omega]) (fun i hi e=>by omega) (fun e=>by omega) (fun e=>by omega) (fun e=>by omega)
   rw [slot2 hi] at this
   exact this
 ·have q2:L (4 * i+2)=true:=waits_of hk hd w1
  have hmf:=h.mf i hi q2
  by_cases i0:i=0
  ·subst i0
   obtain ⟨p1,p2,p3⟩:(opIn Tryz.f92 3).op=Op.build 236 #[(0,.const (.string (formB 0))),(1,.const (.bool true)),(2,.tmp 5)]∧(opIn Tryz.f92 3).dst=some 6∧(opIn Tryz.f92 3).guard=none:=⟨congrArg (·.1) cm_build,congrArg (·.2.1) cm_build,congrArg (·.2.2) cm_build⟩
   refine op_at hk p3 fun K' hK=>op_value (ex_build p1 hmf) (hK _ _ fun L' hL'=>?_)
   rw [p2]
   exact h.next hk (.inr (by omega)) hL hL' (Below.refl _ _) (fun i _ e=>by omega) (fun i _ e=>by omega) (fun j _ e=>by rw [show j=0 by omega]; exact ⟨_,rfl,.inl ⟨rfl,rfl⟩⟩) (fun e=>by omega) (fun e=>by omega) (fun e=>by omega)
  ·rw [if_neg i0] at hmf
   have q1:L (4 * i+1)=true:=waits_of hk hd (by
    rcases Bool.or_eq_true .. ▸ w2 with q|q
    ·exact absurd (eq_of_beq q) i0
    ·exact q)
   have hld:=h.ld i hi q1
   have hwl:pb<w.heap.size:=Nat.lt_of_lt_of_le h.lw h.bel.size
   by_cases i12:i≤12
   ·obtain ⟨j,rfl⟩:∃ j,i=j+1:=⟨i - 1,by omega⟩
    obtain ⟨p1,p2,p3⟩:=partO_of cm_does (show j<12 by omega)
    refine op_at hk p3 fun K' hK=>?_
    unfold Oper.wp
    rw [ex_call p1 hld hmf (enters_of Tryz.func156 (by kernel_rfl) rfl)]
    refine (does_any pb (formB (j+1)) (fnO (j+1)) bb w).mono ?_
    rintro e w' ⟨v,x,y,z,rfl,hdo,hb⟩
    refine hK _ _ fun L' hL'=>?_
    have:=h.next hk (.inr (by omega)) hL hL' hb (v:=v) (fun i _ e=>by omega) (fun i _ e=>by omega) (fun q _ e=>by rw [show q=j+1 by omega]; exact ent_does hdo ⟨by omega,by omega⟩ rfl hwl) (fun e=>by omega) (fun e=>by omega) (fun e=>by omega)
    rw [slot3 hi] at this
    show CiO _ _ _ _ _ _ (a.put (opIn Tryz.f92 (4 * (j+1)+3)).dst v) w'
    rw [p2]; exact this
   ·obtain ⟨j,rfl⟩:∃ j,i=j+13:=⟨i - 13,by omega⟩
    obtain ⟨p1,p2,p3⟩:=partO_of cm_tells (show j<6 by omega)
    refine op_at hk p3 fun K' hK=>?_
    unfold Oper.wp
    rw [ex_call p1 hld hmf (enters_of Tryz.func169 (by kernel_rfl) rfl)]
    refine (tells_any pb (formB (j+13)) (fnO (j+13)) bb w).mono ?_
    rintro e w' ⟨v,x,y,rfl,hdo,hb⟩
    refine hK _ _ fun L' hL'=>?_
    have:=h.next hk (.inr (by omega)) hL hL' hb (v:=v) (fun i _ e=>by omega) (fun i _ e=>by omega) (fun q _ e=>by rw [show q=j+13 by omega]; exact ent_tells hdo (by omega) rfl hwl) (fun e=>by omega) (fun e=>by omega) (fun e=>by omega)
    rw [slot3 hi] at this
    show CiO _ _ _ _ _ _ (a.put (opIn Tryz.f92 (4 * (j+13)+3)).dst v) w'
    rw [p2]; exact this
 ·have q0:L 0=true:=waits_of hk hd w3
  have q3:L (4 * i+3)=true:=waits_of hk hd w4
  obtain ⟨p1,p2,p3⟩:=partO_of cm_ins hi
  refine op_at hk p3 fun K' hK=>?_
  obtain ⟨mb,w5,e3,hrun,-⟩:=h.ins hi rfl (L':=fun j=>if j=4 * i+4 then true else L j) (fun _=>rfl) q0 q3
  refine op_skip (ex_insert p1 e3 rfl hrun) (hK _ _ fun L' hL'=>?_)
  obtain ⟨mb',w6,e3',hrun',hN⟩:=h.ins hi rfl hL' q0 q3
  rw [p2]
  have em:mb=mb':=by
   have:=e3.symm.trans e3'
   injection this with this
   exact Option.some.inj this
  subst em
  rw [hrun] at hrun'
  injection hrun' with _ ew
  subst ew
  exact hN
end
def regK (n:Nat):Code→Option (Array Oper)
 | .region i ops _=>if i=n then some ops else none
 | .seq a b=>(regK n a).orElse fun _=>regK n b
 | .cond _ a b=>(regK n a).orElse fun _=>regK n b
 | .block _ b=>regK n b
 | .loop b=>regK n b
 | .scope b=>regK n b
 | _=>none
def regF (f:Func) (n:Nat):Array Oper:=(f.body.bind (regK n)).getD #[]
structure TbI (a0:Act) (W:World) (lo n:Nat) (val:Nat→Value) (L:Nat→Bool) (a:Act) (w:World):Prop where
 sz:a.tmps.size=a0.tmps.size
 df:a.defers=a0.defers
 old:∀ s,s<lo→a.eval (.tmp s)=a0.eval (.tmp s)
 new:∀ i,i<n→L i=true→a.eval (.tmp (lo+i))=val i
 bel:Below W.heap.size W w
section
variable {ops:Array Oper} {Q:Exit→Act→World→Prop} {val:Nat→Value} {lo n id:Nat} {a0:Act} {W:World}
theorem wp_tab (hn:ops.size=n) (hlo:lo+n≤a0.tmps.size) (hd:∀ (i:Nat) (o:Oper),ops[i]? = some o→∀ e,e∈o.after.toList→e.on<i) (hdst:∀ (i:Nat) (o:Oper),ops[i]? = some o→o.dst=some (lo+i))
  (hstep:∀ (i:Nat) (o:Oper),i<n→ops[i]? = some o→∀ a w,a.tmps.size=a0.tmps.size→(∀ s,s<lo→a.eval (.tmp s)=a0.eval (.tmp s))→(∀ e,e∈o.after.toList→Region.binds .any e=true→a.eval (.tmp (lo+e.on))=val e.on)→Below W.heap.size W w →
   Region.wanted o (yielded ops a.tmps)=true∧∀ K:Act→World→Prop,(∀ w',Below w.heap.size w w'→K (a.put o.dst (val i)) w')→o.wp Tryz.prog a w K Q)
  (hQ:∀ a w,a.tmps.size=a0.tmps.size→a.defers=a0.defers→(∀ s,s<lo→a.eval (.tmp s)=a0.eval (.tmp s))→(∀ i,i<n→a.eval (.tmp (lo+i))=val i)→Below W.heap.size W w→Q .normal a w) :
  (Code.region id ops true).wp Tryz.prog Q a0 W:=by
 refine wp_region_any (by kernel_rfl) ?_
 have key:=wpAny_inv (P:=Tryz.prog) (md:=.any) (ops:=ops) (Q:=Q) (I:=fun _ L a' w'=>TbI a0 W lo n val L a' w') hd ?step ?fin ops.size (Array.replicate ops.size false) a0 W.drew (by simp) ?cnt ?start
 ·exact key
 case step =>
  intro f L a w hI i hi hL hw
  have ho:ops[i]? = some (ops[i]'hi):=Array.getElem?_eq_getElem hi
  generalize ops[i]'hi=o at ho
  have hon:∀ e,e∈o.after.toList→e.on<n:=fun e he=>by have:=hd i o ho e he; omega
  obtain ⟨hwn,hwp⟩:=hstep i o (by omega) ho a w hI.sz hI.old (fun e he hb=>hI.new e.on (hon e he) (hw o ho e he hb)) hI.bel
  refine wpOp_step ho fun K' hK=>?_
  rw [if_pos hwn]
  refine hwp K' fun w' hb=>hK _ _ fun L' hL'=>?_
  rw [hdst i o ho]
  refine ⟨(Act.size_put _ _ _).trans hI.sz,(Act.defers_put' _ _ _).trans hI.df,fun s hs=>(Act.eval_put_ne _ _ _ _ (by omega)).trans (hI.old s hs),fun j hj hq=>?_,hI.bel.trans (hb.mono hI.bel.size)⟩
  by_cases e:j=i
  ·subst e; exact Act.eval_put_same _ _ _ (by rw [hI.sz]; omega)
  ·rw [Act.eval_put_ne _ _ _ _ (by omega)]
   rw [hL' j,if_neg e] at hq
   exact hI.new j hj hq
 case fin =>
  intro f L a w hI hall
  exact hQ a w hI.sz hI.df hI.old (fun i hi=>hI.new i hi (hall i (by omega))) hI.bel
 case cnt =>
  unfold leftO
  exact Nat.le_trans (List.length_filter_le _ _) (by simp)
 case start =>
  refine ⟨rfl,rfl,fun _ _=>rfl,fun i _ h=>?_,⟨rfl,rfl,rfl,Nat.le_refl _,fun _ _=>rfl⟩⟩
  have hf:(Array.replicate ops.size false).getD i false=false:=by
   simp [Array.getElem?_replicate]
   split <;> rfl
  rw [hf] at h; cases h
theorem want_none {o:Oper} {a:Act} (h:o.guard=none):Region.wanted o (yielded ops a.tmps)=true:=wanted_none h
theorem want_of {o o':Oper} {a:Act} {j s:Nat} {b:Bool} (h:o.guard=some (j,b)) (hj:ops[j]? = some o') (hs:o'.dst=some s) (he:a.eval (.tmp s)=.bool b):Region.wanted o (yielded ops a.tmps)=true:=by
 have h1:=eval_form he
 have h2:a.tmps[s]? = some (.bool b):=by
  cases h3:a.tmps[s]? with
  | none=>rw [h3] at h1; cases h1
  | some v=>rw [h3] at h1; exact congrArg some h1
 have hy:yielded ops a.tmps j=some b:=by
  unfold yielded
  rw [hj]
  simp only [Option.bind_some,hs,h2]
 unfold Region.wanted
 rw [h]
 simp only [hy]
 simp
end
end Go.Proofs.YtjcflddbaeiajacGreatDoor
