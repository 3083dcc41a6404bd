/-
  On the way to SAnewProof: O3.
-/
import Derived.Test.YtaehdgemkafinaaGreatDoorBv4
import Derived.Test.YtaehdgemkafinaaGreatDoorBv6
import Derived.Maps.AppendAt
import Derived.Lib.MinMax
set_option maxHeartbeats 8000000
set_option maxRecDepth 100000
namespace Go.Proofs.YtaehdgemkafinaaGreatDoor
open Go.RowKit
theorem Tryz.infoStr:(Tryz.prog.info? 9).map (fun i=>(i.zero,i.size,i.bytes))=some (some (.string ⟨#[]⟩),1,16):=by kernel_rfl
theorem append_int {w:World} {ops:Array Oper} {rest:List Oper} {o:Oper} {a:Act} {Q:Exit→Act→World→Prop} (hgd:o.guard=none) (s x:Operand)
  (ho:o.op=.call { callee:=.builtin .append,args:=#[s,x],argTypes:=#[34,34] })
  (base n:Nat) (v:Value) (xs:List Value) (ad:Addr) (c:Nat) (F:Int) (hs:a.eval s=v) (hx:a.eval x=.slice (some ad) 1 c) (hown:w.ownsRow base 3 1 v n xs) (hu:∀ j u,[Value.int .i64 F][j]? = some u→w.cell? (ad.add j)=some u) (hn:n≤1000000000000) (hb:base≤w.heap.size)
  (h:∀ ad' cap' w',w'.ownsRow base 3 1 (.slice ad' (n+1) cap') (n+1) (xs ++ [Value.int .i64 F])→w.grownBy w' v.ownBlock→((Value.slice ad' (n+1) cap').ownBlock=v.ownBlock ∨ (Value.slice ad' (n+1) cap').ownBlock=some w.heap.size)→wpList Tryz.prog ops Q rest (a.put o.dst (.slice ad' (n+1) cap')) w') :
  wpList Tryz.prog ops Q (o :: rest) a w:=by
 refine wpList_plain hgd fun K hK=>?_
 obtain ⟨i0,hi0,hz0,hz1,hz2⟩:=info_parts Tryz.infoInt
 obtain ⟨v',w',hr,h2,h3,-,h5⟩:=run_append_own_at (P:=Tryz.prog) w base 34 o.type 3 i0 _ 1 8 Tryz.underlying34 hi0 hz0 hz1 hz2 rfl (by decide) v n xs hown ad 1 c [Value.int .i64 F] rfl hu (by intro u hu; simp at hu; subst hu; rfl) (by unfold maxLen; omega) (by omega) hb
 obtain ⟨ad',cap',rfl⟩:∃ ad' cap',v'=.slice ad' (n+1) cap':=by
  rcases h2.2 with ⟨e,h0⟩|⟨g,cap,cur,e,-⟩
  ·omega
  ·exact ⟨_,_,e⟩
 unfold Oper.wp execOp
 simp only [ho,resolve,invoke,builtin,Sem.run_bind,Sem.run_pure,Result.andThen_ok,List.map_toArray,List.map_cons,List.map_nil,hs,hx,hr]
 exact hK _ _ (h ad' cap' w' h2 h3 h5)
theorem append_str {w:World} {ops:Array Oper} {rest:List Oper} {o:Oper} {a:Act} {Q:Exit→Act→World→Prop} (hgd:o.guard=none) (s x:Operand)
  (ho:o.op=.call { callee:=.builtin .append,args:=#[s,x],argTypes:=#[22,22] })
  (base n:Nat) (v:Value) (xs:List Value) (ad:Addr) (c:Nat) (F:ByteArray) (hs:a.eval s=v) (hx:a.eval x=.slice (some ad) 1 c) (hown:w.ownsRow base 9 1 v n xs) (hu:∀ j u,[Value.string F][j]? = some u→w.cell? (ad.add j)=some u) (hn:n≤1000000000000) (hb:base≤w.heap.size)
  (h:∀ ad' cap' w',w'.ownsRow base 9 1 (.slice ad' (n+1) cap') (n+1) (xs ++ [Value.string F])→w.grownBy w' v.ownBlock→((Value.slice ad' (n+1) cap').ownBlock=v.ownBlock ∨ (Value.slice ad' (n+1) cap').ownBlock=some w.heap.size)→wpList Tryz.prog ops Q rest (a.put o.dst (.slice ad' (n+1) cap')) w') :
  wpList Tryz.prog ops Q (o :: rest) a w:=by
 refine wpList_plain hgd fun K hK=>?_
 obtain ⟨i0,hi0,hz0,hz1,hz2⟩:=info_parts Tryz.infoStr
 obtain ⟨v',w',hr,h2,h3,-,h5⟩:=run_append_own_at (P:=Tryz.prog) w base 22 o.type 9 i0 _ 1 16 Tryz.underlying22 hi0 hz0 hz1 hz2 rfl (by decide) v n xs hown ad 1 c [Value.string F] rfl hu (by intro u hu; simp at hu; subst hu; rfl) (by unfold maxLen; omega) (by omega) hb
 obtain ⟨ad',cap',rfl⟩:∃ ad' cap',v'=.slice ad' (n+1) cap':=by
  rcases h2.2 with ⟨e,h0⟩|⟨g,cap,cur,e,-⟩
  ·omega
  ·exact ⟨_,_,e⟩
 unfold Oper.wp execOp
 simp only [ho,resolve,invoke,builtin,Sem.run_bind,Sem.run_pure,Result.andThen_ok,List.map_toArray,List.map_cons,List.map_nil,hs,hx,hr]
 exact hK _ _ (h ad' cap' w' h2 h3 h5)
theorem own_formO {w:World} {base n:Nat} {e:TypeId} {v:Value} {xs:List Value} (h:w.ownsRow base e 1 v n xs):∃ ad cap,v=.slice ad n cap:=by
 rcases h.2 with ⟨e1,h0⟩|⟨g,cap,cur,e1,-⟩
 ·exact ⟨none,0,by rw [e1,h0]⟩
 ·exact ⟨_,_,e1⟩
def ReadO (w w':World) (r:Option (List Int)) (v:Value):Prop:=match r with
 | none=>v=.tuple #[.slice none 0 0,.bool false]
 | some l=>∃ u,v=.tuple #[u,.bool true]∧w'.ownsRow w.heap.size 3 1 u l.length (l.map (Value.int .i64))
theorem own_baseO {w:World} {b b':Nat} {e:TypeId} {size n:Nat} {v:Value} {xs:List Value} (h:w.ownsRow b e size v n xs) (hb:b'≤b):w.ownsRow b' e size v n xs:=by
 refine ⟨h.1,?_⟩
 rcases h.2 with hn|⟨g,cap,cur,rfl,hb',rest⟩
 ·exact .inl hn
 ·exact .inr ⟨g,cap,cur,rfl,Nat.le_trans hb hb',rest⟩
theorem lit_one (w:World) (t:TypeId) (F:Value):∀ j u,[F][j]? = some u→(w.alloc (.cells #[F] t)).cell? ((⟨w.heap.size,0,none⟩:Addr).add j)=some u:=by
 intro j u hj
 cases j with
 | zero=>exact lit_cells w [F] t 0 u hj
 | succ j=>simp at hj
structure RdO (w wr:World) (f:ByteArray) (more:Bool) (fv:Value) (ws:List ByteArray) (i:Nat) (l:List Int) (u:Value):Prop where
 rd:readWO f.data.toList 0 ((ws.map (·.data.toList)).take i)=some l
 own:wr.ownsRow (w.heap.size+1) 3 1 u l.length (l.map (Value.int .i64))
 bel:Below w.heap.size w wr
 box:wr.heap[w.heap.size]? = some (.cells #[.string f,.bool more,fv] 84)
theorem read_go (f:ByteArray) (more:Bool) (fv:Value) (b o cap:Nat) (ws:List ByteArray) (w:World) (hf:f.size≤5) (hmo:more=true→0<f.size) (hl:ws.length≤1000) (hw:∀ i x,ws[i]? = some x→w.cell? ⟨b,o+i,none⟩=some (.string x)) (hq1:¬ ws.length<f.size) (hq2:¬ f.size<ws.length ∨ (f.size<ws.length∧more=true)) :
  Calls Tryz.prog 136 #[.agg #[.string f,.bool more,fv],.slice (some ⟨b,o,none⟩) ws.length cap] w fun e w'=>∃ v,e=.returned v∧ReadO w w' (readO f.data.toList more (ws.map (·.data.toList))) v∧Below w.heap.size w w':=by
 have HW:=hid hw
 have HRd:Hid (readO f.data.toList more (ws.map (·.data.toList))=readWO f.data.toList 0 (ws.map (·.data.toList))):=by
  change _=_
  unfold readO
  have h1:(ws.map (·.data.toList)).length=ws.length:=List.length_map ..
  have h2:f.data.toList.length=f.size:=rfl
  rw [h1,h2,if_neg]
  rintro (h|⟨h,h'⟩)
  ·exact hq1 h
  ·rcases hq2 with q|⟨-,q⟩
   ·exact q h
   ·rw [q] at h'; cases h'
 have hf0:0<ws.length→0<f.size:=fun h=>by
  rcases hq2 with q|⟨-,q⟩
  ·omega
  ·exact hmo q
 obtain ⟨n,HN⟩:∃ n,Hid (ws.length=n):=⟨_,rfl⟩
 have HM:Hid ((ws.map (·.data.toList)).length=n):=by change _=_; rw [List.length_map]; exact HN.out
 rw [HN.out] at hl hq1 hq2 hf0 ⊢
 obtain ⟨W0,HW0⟩:∃ W0,Hid (w.alloc (.cells #[.string f,.bool more,fv] 84)=W0):=⟨_,rfl⟩
 have HI0:Hid (RdO w W0 f more fv ws 0 [] (.slice none 0 0)):=by
  rw [← HW0.out]
  exact ⟨rfl,World.ownsRow_nil _ _ _ _,(Below.refl _ _).alloc (Nat.le_refl _) _,(MapKept.heap_alloc w _).1⟩
 have hW0:=HW0.out
 have g0:W0.cell? ⟨w.heap.size,0,none⟩=some (.string f):=by simp [World.cell?,HI0.out.box]
 have g1:W0.cell? ⟨w.heap.size,1,none⟩=some (.bool more):=by simp [World.cell?,HI0.out.box]
 clear hw
 rcases hq2 with q1|⟨q1,q2⟩
 ·go_enter Tryz.func136,Tryz.ntmps136
  go_wp2_with fail
  go_loopw [4,5,32] (fun a c v wr=>∃ (i:Nat) (l:List Int),i≤n∧c=.bool false∧v=.int .i64 (i:Int)∧Hid (RdO w wr f more fv ws i l a)) (fun _ _ v _=>n - (intOf v).toNat)
  case atStart=>exact ⟨0,[],Nat.zero_le _,rfl,rfl,HI0.out⟩
  case round =>
   obtain ⟨i,l,hi,rfl,rfl,HI⟩:=hrel
   obtain ⟨adu,capu,hu⟩:=own_formO HI.out.own
   subst hu
   have HLl:Hid (l.length=i):=by
    change _=_
    rw [(readWO_small HI.out.rd).1,List.length_take,HM.out]; omega
   rw [HLl.out]
   by_cases hlt:i<n
   ·have hlt2:(i:Int)<(n:Int):=by omega
    have hiw:i<ws.length:=by rw [HN.out]; exact hlt
    obtain ⟨x,HX⟩:∃ x,Hid (ws[i]'hiw=x):=⟨_,rfl⟩
    have HXa:Hid (ws[i]? = some x):=by change _=_; rw [List.getElem?_eq_getElem hiw,HX.out]
    have HXm:Hid ((ws.map (·.data.toList))[i]? = some x.data.toList):=by change _=_; rw [List.getElem?_map,HXa.out]; rfl
    have c0:wr.cell? ⟨b,o+i,none⟩=some (.string x):=cell_later HI.out.bel (HW.out i x HXa.out)
    have c1:wr.cell? ⟨w.heap.size,0,none⟩=some (.string f):=by simp [World.cell?,HI.out.box]
    obtain ⟨q,hq⟩:∃ q:Nat,min i (f.size - 1)=q:=⟨_,rfl⟩
    have hqf:q<f.size:=by have:=hf0 (by omega); omega
    have hmin:min (i:Int) ((f.size:Int) - 1)=(q:Int):=by omega
    obtain ⟨c,HC⟩:∃ c,Hid ((f[q]'hqf)=c):=⟨_,rfl⟩
    have hix:∀ w',(Instr.index 9 (.string f) (.int .i64 (q:Int))).run Tryz.prog w'=.ok (.int .u8 (c.toNat:Int)) w':=fun w'=>by rw [idx_str f q q hqf rfl w',HC.out]
    have hcL:f.data.toList.getD q 0=c:=by
     rw [List.getD,List.getElem?_eq_getElem hqf,Option.getD_some,← HC.out]; exact rfl
    have HNum:=hid (number_is x (mostO c) wr (mostO_le c))
    have HStep:=hid (readWO_take (f:=f.data.toList) (ws.map (·.data.toList)) 0 i l x.data.toList HI.out.rd HXm.out)
    rw [Nat.zero_add,show f.data.toList.length=f.size from rfl,hq,hcL] at HStep
    have HMo:=hid (most_is c wr)
    clear hcL hq
    cases hnum:numO (mostO c) x.data.toList with
    | none =>
     have HBad:Hid (readO f.data.toList more (ws.map (·.data.toList))=none):=by
      change _=_
      rw [HRd.out]
      refine readWO_bad _ 0 (i+1) ?_
      rw [HStep.out,hnum]
     rw [hnum] at HNum
     clear hnum HStep
     go_wp2_with fail
     refine HMo.out.mono ?_
     rintro e w1 ⟨rfl,hx⟩
     subst w1
     go_wp2_with fail
     refine HNum.out.mono ?_
     rintro e w1 ⟨rfl,hx⟩
     subst w1
     unfold numT
     go_wp2_with fail
     go_ret2
     exact ⟨_,rfl,by rw [HBad.out]; exact rfl,HI.out.bel⟩
    | some k =>
     have HStep2:Hid (readWO f.data.toList 0 ((ws.map (·.data.toList)).take (i+1))=some (l ++ [(k:Int)])):=by
      change _=_
      rw [HStep.out,hnum]
     rw [hnum] at HNum
     clear hnum HStep
     go_wp2_with fail
     refine HMo.out.mono ?_
     rintro e w1 ⟨rfl,hx⟩
     subst w1
     go_wp2_with fail
     refine HNum.out.mono ?_
     rintro e w1 ⟨rfl,hx⟩
     subst w1
     unfold numT
     obtain ⟨W2,HW2⟩:∃ W2,Hid (wr.alloc (.cells #[.int .i64 (k:Int)] 3)=W2):=⟨_,rfl⟩
     have HB2:Hid (Below wr.heap.size wr W2):=by rw [← HW2.out]; exact (Below.refl _ _).alloc (Nat.le_refl _) _
     have HO2:=hid (own_later HI.out.own HB2.out (Nat.le_refl _))
     rw [HLl.out] at HO2
     have HLit:Hid (∀ j z,[Value.int .i64 (k:Int)][j]? = some z→W2.cell? ((⟨wr.heap.size,0,none⟩:Addr).add j)=some z):=by rw [← HW2.out]; exact lit_one wr 3 (.int .i64 (k:Int))
     have hbs:w.heap.size+1≤W2.heap.size:=by have:=row_ltJ HI.out.box; have:=HB2.out.size; omega
     have hW2:=HW2.out
     clear c0 c1
     go_wp2_with (at_builtin; refine append_int rfl _ _ rfl (w.heap.size+1) i (.slice adu i capu) (l.map (Value.int .i64)) ⟨wr.heap.size,0,none⟩ 1 (k:Int) rfl rfl HO2.out HLit.out (by omega) hbs ?_; intro ad' cap' w3 hown hg hat; have HS:=hid (And.intro hown (And.intro hg hat)); clear hown hg hat)
     go_roundw
     case rel =>
      refine ⟨i+1,l ++ [(k:Int)],by omega,rfl,by go_num,?_⟩
      have hlow:∀ y,(Value.slice adu i capu).ownBlock=some y→w.heap.size+1≤y:=fun y hy=>(HO2.out.lt y hy).1
      have hk2:=HS.out.2.1
      refine ⟨HStep2.out,?_,?_,?_⟩
      ·rw [List.length_append,HLl.out,List.map_append]; exact HS.out.1
      ·exact Below.grown (HI.out.bel.trans (HB2.out.mono HI.out.bel.size)) hk2 (by have:=HI.out.bel.size; have:=HB2.out.size; omega) (fun y hy=>by have:=hlow y hy; omega)
      ·have h1:=(HB2.out.block _ (row_ltJ HI.out.box)).trans HI.out.box
       exact (hk2.block _ (row_ltJ h1) (fun e=>by have:=hlow _ e.symm; omega)).trans h1
     case measure=>simp [intOf]; omega
   ·obtain rfl:i=n:=by omega
    have HG:Hid (readO f.data.toList more (ws.map (·.data.toList))=some l):=by
     change _=_
     rw [HRd.out]
     have:=HI.out.rd
     rw [List.take_of_length_le (Nat.le_of_eq HM.out)] at this
     exact this
    have HO:=HI.out.own
    rw [HLl.out] at HO
    have HOh:=hid HO
    clear HO
    go_wp2_with fail
    go_ret2
    exact ⟨_,rfl,by rw [HG.out]; exact ⟨_,rfl,by rw [HLl.out]; exact own_baseO HOh.out (by omega)⟩,HI.out.bel⟩
 ·subst q2
  go_enter Tryz.func136,Tryz.ntmps136
  go_wp2_with fail
  go_loopw [4,5,32] (fun a c v wr=>∃ (i:Nat) (l:List Int),i≤n∧c=.bool false∧v=.int .i64 (i:Int)∧Hid (RdO w wr f true fv ws i l a)) (fun _ _ v _=>n - (intOf v).toNat)
  case atStart=>exact ⟨0,[],Nat.zero_le _,rfl,rfl,HI0.out⟩
  case round =>
   obtain ⟨i,l,hi,rfl,rfl,HI⟩:=hrel
   obtain ⟨adu,capu,hu⟩:=own_formO HI.out.own
   subst hu
   have HLl:Hid (l.length=i):=by
    change _=_
    rw [(readWO_small HI.out.rd).1,List.length_take,HM.out]; omega
   rw [HLl.out]
   by_cases hlt:i<n
   ·have hlt2:(i:Int)<(n:Int):=by omega
    have hiw:i<ws.length:=by rw [HN.out]; exact hlt
    obtain ⟨x,HX⟩:∃ x,Hid (ws[i]'hiw=x):=⟨_,rfl⟩
    have HXa:Hid (ws[i]? = some x):=by change _=_; rw [List.getElem?_eq_getElem hiw,HX.out]
    have HXm:Hid ((ws.map (·.data.toList))[i]? = some x.data.toList):=by change _=_; rw [List.getElem?_map,HXa.out]; rfl
    have c0:wr.cell? ⟨b,o+i,none⟩=some (.string x):=cell_later HI.out.bel (HW.out i x HXa.out)
    have c1:wr.cell? ⟨w.heap.size,0,none⟩=some (.string f):=by simp [World.cell?,HI.out.box]
    obtain ⟨q,hq⟩:∃ q:Nat,min i (f.size - 1)=q:=⟨_,rfl⟩
    have hqf:q<f.size:=by have:=hf0 (by omega); omega
    have hmin:min (i:Int) ((f.size:Int) - 1)=(q:Int):=by omega
    obtain ⟨c,HC⟩:∃ c,Hid ((f[q]'hqf)=c):=⟨_,rfl⟩
    have hix:∀ w',(Instr.index 9 (.string f) (.int .i64 (q:Int))).run Tryz.prog w'=.ok (.int .u8 (c.toNat:Int)) w':=fun w'=>by rw [idx_str f q q hqf rfl w',HC.out]
    have hcL:f.data.toList.getD q 0=c:=by
     rw [List.getD,List.getElem?_eq_getElem hqf,Option.getD_some,← HC.out]; exact rfl
    have HNum:=hid (number_is x (mostO c) wr (mostO_le c))
    have HStep:=hid (readWO_take (f:=f.data.toList) (ws.map (·.data.toList)) 0 i l x.data.toList HI.out.rd HXm.out)
    rw [Nat.zero_add,show f.data.toList.length=f.size from rfl,hq,hcL] at HStep
    have HMo:=hid (most_is c wr)
    clear hcL hq
    cases hnum:numO (mostO c) x.data.toList with
    | none =>
     have HBad:Hid (readO f.data.toList true (ws.map (·.data.toList))=none):=by
      change _=_
      rw [HRd.out]
      refine readWO_bad _ 0 (i+1) ?_
      rw [HStep.out,hnum]
     rw [hnum] at HNum
     clear hnum HStep
     go_wp2_with fail
     refine HMo.out.mono ?_
     rintro e w1 ⟨rfl,hx⟩
     subst w1
     go_wp2_with fail
     refine HNum.out.mono ?_
     rintro e w1 ⟨rfl,hx⟩
     subst w1
     unfold numT
     go_wp2_with fail
     go_ret2
     exact ⟨_,rfl,by rw [HBad.out]; exact rfl,HI.out.bel⟩
    | some k =>
     have HStep2:Hid (readWO f.data.toList 0 ((ws.map (·.data.toList)).take (i+1))=some (l ++ [(k:Int)])):=by
      change _=_
      rw [HStep.out,hnum]
     rw [hnum] at HNum
     clear hnum HStep
     go_wp2_with fail
     refine HMo.out.mono ?_
     rintro e w1 ⟨rfl,hx⟩
     subst w1
     go_wp2_with fail
     refine HNum.out.mono ?_
     rintro e w1 ⟨rfl,hx⟩
     subst w1
     unfold numT
     obtain ⟨W2,HW2⟩:∃ W2,Hid (wr.alloc (.cells #[.int .i64 (k:Int)] 3)=W2):=⟨_,rfl⟩
     have HB2:Hid (Below wr.heap.size wr W2):=by rw [← HW2.out]; exact (Below.refl _ _).alloc (Nat.le_refl _) _
     have HO2:=hid (own_later HI.out.own HB2.out (Nat.le_refl _))
     rw [HLl.out] at HO2
     have HLit:Hid (∀ j z,[Value.int .i64 (k:Int)][j]? = some z→W2.cell? ((⟨wr.heap.size,0,none⟩:Addr).add j)=some z):=by rw [← HW2.out]; exact lit_one wr 3 (.int .i64 (k:Int))
     have hbs:w.heap.size+1≤W2.heap.size:=by have:=row_ltJ HI.out.box; have:=HB2.out.size; omega
     have hW2:=HW2.out
     clear c0 c1
     go_wp2_with (at_builtin; refine append_int rfl _ _ rfl (w.heap.size+1) i (.slice adu i capu) (l.map (Value.int .i64)) ⟨wr.heap.size,0,none⟩ 1 (k:Int) rfl rfl HO2.out HLit.out (by omega) hbs ?_; intro ad' cap' w3 hown hg hat; have HS:=hid (And.intro hown (And.intro hg hat)); clear hown hg hat)
     go_roundw
     case rel =>
      refine ⟨i+1,l ++ [(k:Int)],by omega,rfl,by go_num,?_⟩
      have hlow:∀ y,(Value.slice adu i capu).ownBlock=some y→w.heap.size+1≤y:=fun y hy=>(HO2.out.lt y hy).1
      have hk2:=HS.out.2.1
      refine ⟨HStep2.out,?_,?_,?_⟩
      ·rw [List.length_append,HLl.out,List.map_append]; exact HS.out.1
      ·exact Below.grown (HI.out.bel.trans (HB2.out.mono HI.out.bel.size)) hk2 (by have:=HI.out.bel.size; have:=HB2.out.size; omega) (fun y hy=>by have:=hlow y hy; omega)
      ·have h1:=(HB2.out.block _ (row_ltJ HI.out.box)).trans HI.out.box
       exact (hk2.block _ (row_ltJ h1) (fun e=>by have:=hlow _ e.symm; omega)).trans h1
     case measure=>simp [intOf]; omega
   ·obtain rfl:i=n:=by omega
    have HG:Hid (readO f.data.toList true (ws.map (·.data.toList))=some l):=by
     change _=_
     rw [HRd.out]
     have:=HI.out.rd
     rw [List.take_of_length_le (Nat.le_of_eq HM.out)] at this
     exact this
    have HO:=HI.out.own
    rw [HLl.out] at HO
    have HOh:=hid HO
    clear HO
    go_wp2_with fail
    go_ret2
    exact ⟨_,rfl,by rw [HG.out]; exact ⟨_,rfl,by rw [HLl.out]; exact own_baseO HOh.out (by omega)⟩,HI.out.bel⟩
theorem read_any (f:ByteArray) (more:Bool) (fv:Value) (b o cap:Nat) (ws:List ByteArray) (w:World) (hf:f.size≤5) (hmo:more=true→0<f.size) (hl:ws.length≤1000) (hw:∀ i x,ws[i]? = some x→w.cell? ⟨b,o+i,none⟩=some (.string x)) :
  Calls Tryz.prog 136 #[.agg #[.string f,.bool more,fv],.slice (some ⟨b,o,none⟩) ws.length cap] w fun e w'=>∃ v,e=.returned v∧ReadO w w' (readO f.data.toList more (ws.map (·.data.toList))) v∧Below w.heap.size w w':=by
 have h1:(ws.map (·.data.toList)).length=ws.length:=List.length_map ..
 have h2:f.data.toList.length=f.size:=rfl
 by_cases q1:ws.length<f.size
 ·have HBad:Hid (readO f.data.toList more (ws.map (·.data.toList))=none):=by
   change _=_
   unfold readO
   rw [h1,h2,if_pos (.inl q1)]
  obtain ⟨n,HN⟩:∃ n,Hid (ws.length=n):=⟨_,rfl⟩
  rw [HN.out] at q1 hl ⊢
  have HB0:Hid (Below w.heap.size w (w.alloc (.cells #[.string f,.bool more,fv] 84))):=(Below.refl _ _).alloc (Nat.le_refl _) _
  clear hw h1
  go_enter Tryz.func136,Tryz.ntmps136
  go_wp2_with fail
  go_ret2
  exact ⟨_,rfl,by rw [HBad.out]; exact rfl,HB0.out⟩
 ·by_cases q2:f.size<ws.length
  ·cases more with
   | true=>exact read_go f true fv b o cap ws w hf hmo hl hw q1 (.inr ⟨q2,rfl⟩)
   | false =>
    have HBad:Hid (readO f.data.toList false (ws.map (·.data.toList))=none):=by
     change _=_
     unfold readO
     rw [h1,h2,if_pos (.inr ⟨q2,rfl⟩)]
    obtain ⟨n,HN⟩:∃ n,Hid (ws.length=n):=⟨_,rfl⟩
    rw [HN.out] at q1 q2 hl ⊢
    have HB0:Hid (Below w.heap.size w (w.alloc (.cells #[.string f,.bool false,fv] 84))):=(Below.refl _ _).alloc (Nat.le_refl _) _
    clear hw h1
    go_enter Tryz.func136,Tryz.ntmps136
    go_wp2_with fail
    go_ret2
    exact ⟨_,rfl,by rw [HBad.out]; exact rfl,HB0.out⟩
  ·exact read_go f more fv b o cap ws w hf hmo hl hw q1 (.inl q2)
end Go.Proofs.YtaehdgemkafinaaGreatDoor
