/-
  On the way to SPlaysProof: O3 YB L7 RE.
-/
import Derived.Test.YtaehdgemkafinaaGreatDoorBw8
import Derived.Test.YtaehdgemkafinaaGreatDoorBw6
import Derived.Maps.AppendAt
import Derived.Lib.MinMax
set_option maxHeartbeats 8000000
set_option maxRecDepth 100000
namespace Go.Proofs.YtaehdgemkafinaaGreatDoor
open Go.RowKit
theorem Tryz.infoStr:(Tryz.prog.info? 9).map (fun i=>(i.zero,i.size,i.bytes))=some (some (.string ⟨#[]⟩),1,16):=by kernel_rfl
theorem append_int {w:World} {ops:Array Oper} {rest:List Oper} {o:Oper} {a:Act} {Q:Exit→Act→World→Prop} (hgd:o.guard=none) (s x:Operand)
  (ho:o.op=.call { callee:=.builtin .append,args:=#[s,x],argTypes:=#[34,34] })
  (base n:Nat) (v:Value) (xs:List Value) (ad:Addr) (c:Nat) (F:Int) (hs:a.eval s=v) (hx:a.eval x=.slice (some ad) 1 c) (hown:w.ownsRow base 3 1 v n xs) (hu:∀ j u,[Value.int .i64 F][j]? = some u→w.cell? (ad.add j)=some u) (hn:n≤1000000000000) (hb:base≤w.heap.size)
  (h:∀ ad' cap' w',w'.ownsRow base 3 1 (.slice ad' (n+1) cap') (n+1) (xs ++ [Value.int .i64 F])→w.grownBy w' v.ownBlock→((Value.slice ad' (n+1) cap').ownBlock=v.ownBlock ∨ (Value.slice ad' (n+1) cap').ownBlock=some w.heap.size)→wpList Tryz.prog ops Q rest (a.put o.dst (.slice ad' (n+1) cap')) w') :
  wpList Tryz.prog ops Q (o :: rest) a w:=by
 refine wpList_plain hgd fun K hK=>?_
 obtain ⟨i0,hi0,hz0,hz1,hz2⟩:=info_parts Tryz.infoInt
 obtain ⟨v',w',hr,h2,h3,-,h5⟩:=run_append_own_at (P:=Tryz.prog) w base 34 o.type 3 i0 _ 1 8 Tryz.underlying34 hi0 hz0 hz1 hz2 rfl (by decide) v n xs hown ad 1 c [Value.int .i64 F] rfl hu (by intro u hu; simp at hu; subst hu; rfl) (by unfold maxLen; omega) (by omega) hb
 obtain ⟨ad',cap',rfl⟩:∃ ad' cap',v'=.slice ad' (n+1) cap':=by
  rcases h2.2 with ⟨e,h0⟩|⟨g,cap,cur,e,-⟩
  ·omega
  ·exact ⟨_,_,e⟩
 unfold Oper.wp execOp
 simp only [ho,resolve,invoke,builtin,Sem.run_bind,Sem.run_pure,Result.andThen_ok,List.map_toArray,List.map_cons,List.map_nil,hs,hx,hr]
 exact hK _ _ (h ad' cap' w' h2 h3 h5)
theorem append_str {w:World} {ops:Array Oper} {rest:List Oper} {o:Oper} {a:Act} {Q:Exit→Act→World→Prop} (hgd:o.guard=none) (s x:Operand)
  (ho:o.op=.call { callee:=.builtin .append,args:=#[s,x],argTypes:=#[22,22] })
  (base n:Nat) (v:Value) (xs:List Value) (ad:Addr) (c:Nat) (F:ByteArray) (hs:a.eval s=v) (hx:a.eval x=.slice (some ad) 1 c) (hown:w.ownsRow base 9 1 v n xs) (hu:∀ j u,[Value.string F][j]? = some u→w.cell? (ad.add j)=some u) (hn:n≤1000000000000) (hb:base≤w.heap.size)
  (h:∀ ad' cap' w',w'.ownsRow base 9 1 (.slice ad' (n+1) cap') (n+1) (xs ++ [Value.string F])→w.grownBy w' v.ownBlock→((Value.slice ad' (n+1) cap').ownBlock=v.ownBlock ∨ (Value.slice ad' (n+1) cap').ownBlock=some w.heap.size)→wpList Tryz.prog ops Q rest (a.put o.dst (.slice ad' (n+1) cap')) w') :
  wpList Tryz.prog ops Q (o :: rest) a w:=by
 refine wpList_plain hgd fun K hK=>?_
 obtain ⟨i0,hi0,hz0,hz1,hz2⟩:=info_parts Tryz.infoStr
 obtain ⟨v',w',hr,h2,h3,-,h5⟩:=run_append_own_at (P:=Tryz.prog) w base 22 o.type 9 i0 _ 1 16 Tryz.underlying22 hi0 hz0 hz1 hz2 rfl (by decide) v n xs hown ad 1 c [Value.string F] rfl hu (by intro u hu; simp at hu; subst hu; rfl) (by unfold maxLen; omega) (by omega) hb
 obtain ⟨ad',cap',rfl⟩:∃ ad' cap',v'=.slice ad' (n+1) cap':=by
  rcases h2.2 with ⟨e,h0⟩|⟨g,cap,cur,e,-⟩
  ·omega
  ·exact ⟨_,_,e⟩
 unfold Oper.wp execOp
 simp only [ho,resolve,invoke,builtin,Sem.run_bind,Sem.run_pure,Result.andThen_ok,List.map_toArray,List.map_cons,List.map_nil,hs,hx,hr]
 exact hK _ _ (h ad' cap' w' h2 h3 h5)
theorem own_formO {w:World} {base n:Nat} {e:TypeId} {v:Value} {xs:List Value} (h:w.ownsRow base e 1 v n xs):∃ ad cap,v=.slice ad n cap:=by
 rcases h.2 with ⟨e1,h0⟩|⟨g,cap,cur,e1,-⟩
 ·exact ⟨none,0,by rw [e1,h0]⟩
 ·exact ⟨_,_,e1⟩
def ReadO (w w':World) (r:Option (List Int)) (v:Value):Prop:=match r with
 | none=>v=.tuple #[.slice none 0 0,.bool false]
 | some l=>∃ u,v=.tuple #[u,.bool true]∧w'.ownsRow w.heap.size 3 1 u l.length (l.map (Value.int .i64))
theorem own_baseO {w:World} {b b':Nat} {e:TypeId} {size n:Nat} {v:Value} {xs:List Value} (h:w.ownsRow b e size v n xs) (hb:b'≤b):w.ownsRow b' e size v n xs:=by
 refine ⟨h.1,?_⟩
 rcases h.2 with hn|⟨g,cap,cur,rfl,hb',rest⟩
 ·exact .inl hn
 ·exact .inr ⟨g,cap,cur,rfl,Nat.le_trans hb hb',rest⟩
theorem lit_one (w:World) (t:TypeId) (F:Value):∀ j u,[F][j]? = some u→(w.alloc (.cells #[F] t)).cell? ((⟨w.heap.size,0,none⟩:Addr).add j)=some u:=by
 intro j u hj
 cases j with
 | zero=>exact lit_cells w [F] t 0 u hj
 | succ j=>simp at hj
structure RdO (w wr:World) (f:ByteArray) (more:Bool) (fv:Value) (ws:List ByteArray) (i:Nat) (l:List Int) (u:Value):Prop where
 rd:readWO f.data.toList 0 ((ws.map (·.data.toList)).take i)=some l
 own:wr.ownsRow (w.heap.size+1) 3 1 u l.length (l.map (Value.int .i64))
 bel:Below w.heap.size w wr
 box:wr.heap[w.heap.size]? = some (.cells #[.string f,.bool more,fv] 84)
theorem read_go (f:ByteArray) (more:Bool) (fv:Value) (b o cap:Nat) (ws:List ByteArray) (w:World) (hf:f.size≤5) (hmo:more=true→0<f.size) (hl:ws.length≤1000) (hw:∀ i x,ws[i]? = some x→w.cell? ⟨b,o+i,none⟩=some (.string x)) (hq1:¬ ws.length<f.size) (hq2:¬ f.size<ws.length ∨ (f.size<ws.length∧more=true)) :
  Calls Tryz.prog 136 #[.agg #[.string f,.bool more,fv],.slice (some ⟨b,o,none⟩) ws.length cap] w fun e w'=>∃ v,e=.returned v∧ReadO w w' (readO f.data.toList more (ws.map (·.data.toList))) v∧Below w.heap.size w w':=by
 have HW:=hid hw
 have HRd:Hid (readO f.data.toList more (ws.map (·.data.toList))=readWO f.data.toList 0 (ws.map (·.data.toList))):=by
  change _=_
  unfold readO
  have h1:(ws.map (·.data.toList)).length=ws.length:=List.length_map ..
  have h2:f.data.toList.length=f.size:=rfl
  rw [h1,h2,if_neg]
  rintro (h|⟨h,h'⟩)
  ·exact hq1 h
  ·rcases hq2 with q|⟨-,q⟩
   ·exact q h
   ·rw [q] at h'; cases h'
 have hf0:0<ws.length→0<f.size:=fun h=>by
  rcases hq2 with q|⟨-,q⟩
  ·omega
  ·exact hmo q
 obtain ⟨n,HN⟩:∃ n,Hid (ws.length=n):=⟨_,rfl⟩
 have HM:Hid ((ws.map (·.data.toList)).length=n):=by change _=_; rw [List.length_map]; exact HN.out
 rw [HN.out] at hl hq1 hq2 hf0 ⊢
 obtain ⟨W0,HW0⟩:∃ W0,Hid (w.alloc (.cells #[.string f,.bool more,fv] 84)=W0):=⟨_,rfl⟩
 have HI0:Hid (RdO w W0 f more fv ws 0 [] (.slice none 0 0)):=by
  rw [← HW0.out]
  exact ⟨rfl,World.ownsRow_nil _ _ _ _,(Below.refl _ _).alloc (Nat.le_refl _) _,(MapKept.heap_alloc w _).1⟩
 have hW0:=HW0.out
 have g0:W0.cell? ⟨w.heap.size,0,none⟩=some (.string f):=by simp [World.cell?,HI0.out.box]
 have g1:W0.cell? ⟨w.heap.size,1,none⟩=some (.bool more):=by simp [World.cell?,HI0.out.box]
 clear hw
 rcases hq2 with q1|⟨q1,q2⟩
 ·go_enter Tryz.func136,Tryz.ntmps136
  go_wp2_with fail
  go_loopw [4,5,32] (fun a c v wr=>∃ (i:Nat) (l:List Int),i≤n∧c=.bool false∧v=.int .i64 (i:Int)∧Hid (RdO w wr f more fv ws i l a)) (fun _ _ v _=>n - (intOf v).toNat)
  case atStart=>exact ⟨0,[],Nat.zero_le _,rfl,rfl,HI0.out⟩
  case round =>
   obtain ⟨i,l,hi,rfl,rfl,HI⟩:=hrel
   obtain ⟨adu,capu,hu⟩:=own_formO HI.out.own
   subst hu
   have HLl:Hid (l.length=i):=by
    change _=_
    rw [(readWO_small HI.out.rd).1,List.length_take,HM.out]; omega
   rw [HLl.out]
   by_cases hlt:i<n
   ·have hlt2:(i:Int)<(n:Int):=by omega
    have hiw:i<ws.length:=by rw [HN.out]; exact hlt
    obtain ⟨x,HX⟩:∃ x,Hid (ws[i]'hiw=x):=⟨_,rfl⟩
    have HXa:Hid (ws[i]? = some x):=by change _=_; rw [List.getElem?_eq_getElem hiw,HX.out]
    have HXm:Hid ((ws.map (·.data.toList))[i]? = some x.data.toList):=by change _=_; rw [List.getElem?_map,HXa.out]; rfl
    have c0:wr.cell? ⟨b,o+i,none⟩=some (.string x):=cell_later HI.out.bel (HW.out i x HXa.out)
    have c1:wr.cell? ⟨w.heap.size,0,none⟩=some (.string f):=by simp [World.cell?,HI.out.box]
    obtain ⟨q,hq⟩:∃ q:Nat,min i (f.size - 1)=q:=⟨_,rfl⟩
    have hqf:q<f.size:=by have:=hf0 (by omega); omega
    have hmin:min (i:Int) ((f.size:Int) - 1)=(q:Int):=by omega
    obtain ⟨c,HC⟩:∃ c,Hid ((f[q]'hqf)=c):=⟨_,rfl⟩
    have hix:∀ w',(Instr.index 9 (.string f) (.int .i64 (q:Int))).run Tryz.prog w'=.ok (.int .u8 (c.toNat:Int)) w':=fun w'=>by rw [idx_str f q q hqf rfl w',HC.out]
    have hcL:f.data.toList.getD q 0=c:=by
     rw [List.getD,List.getElem?_eq_getElem hqf,Option.getD_some,← HC.out]; exact rfl
    have HNum:=hid (number_is x (mostO c) wr (mostO_le c))
    have HStep:=hid (readWO_take (f:=f.data.toList) (ws.map (·.data.toList)) 0 i l x.data.toList HI.out.rd HXm.out)
    rw [Nat.zero_add,show f.data.toList.length=f.size from rfl,hq,hcL] at HStep
    have HMo:=hid (most_is c wr)
    clear hcL hq
    cases hnum:numO (mostO c) x.data.toList with
    | none =>
     have HBad:Hid (readO f.data.toList more (ws.map (·.data.toList))=none):=by
      change _=_
      rw [HRd.out]
      refine readWO_bad _ 0 (i+1) ?_
      rw [HStep.out,hnum]
     rw [hnum] at HNum
     clear hnum HStep
     go_wp2_with fail
     refine HMo.out.mono ?_
     rintro e w1 ⟨rfl,hx⟩
     subst w1
     go_wp2_with fail
     refine HNum.out.mono ?_
     rintro e w1 ⟨rfl,hx⟩
     subst w1
     unfold numT
     go_wp2_with fail
     go_ret2
     exact ⟨_,rfl,by rw [HBad.out]; exact rfl,HI.out.bel⟩
    | some k =>
     have HStep2:Hid (readWO f.data.toList 0 ((ws.map (·.data.toList)).take (i+1))=some (l ++ [(k:Int)])):=by
      change _=_
      rw [HStep.out,hnum]
     rw [hnum] at HNum
     clear hnum HStep
     go_wp2_with fail
     refine HMo.out.mono ?_
     rintro e w1 ⟨rfl,hx⟩
     subst w1
     go_wp2_with fail
     refine HNum.out.mono ?_
     rintro e w1 ⟨rfl,hx⟩
     subst w1
     unfold numT
     obtain ⟨W2,HW2⟩:∃ W2,Hid (wr.alloc (.cells #[.int .i64 (k:Int)] 3)=W2):=⟨_,rfl⟩
     have HB2:Hid (Below wr.heap.size wr W2):=by rw [← HW2.out]; exact (Below.refl _ _).alloc (Nat.le_refl _) _
     have HO2:=hid (own_later HI.out.own HB2.out (Nat.le_refl _))
     rw [HLl.out] at HO2
     have HLit:Hid (∀ j z,[Value.int .i64 (k:Int)][j]? = some z→W2.cell? ((⟨wr.heap.size,0,none⟩:Addr).add j)=some z):=by rw [← HW2.out]; exact lit_one wr 3 (.int .i64 (k:Int))
     have hbs:w.heap.size+1≤W2.heap.size:=by have:=row_ltJ HI.out.box; have:=HB2.out.size; omega
     have hW2:=HW2.out
     clear c0 c1
     go_wp2_with (at_builtin; refine append_int rfl _ _ rfl (w.heap.size+1) i (.slice adu i capu) (l.map (Value.int .i64)) ⟨wr.heap.size,0,none⟩ 1 (k:Int) rfl rfl HO2.out HLit.out (by omega) hbs ?_; intro ad' cap' w3 hown hg hat; have HS:=hid (And.intro hown (And.intro hg hat)); clear hown hg hat)
     go_roundw
     case rel =>
      refine ⟨i+1,l ++ [(k:Int)],by omega,rfl,by go_num,?_⟩
      have hlow:∀ y,(Value.slice adu i capu).ownBlock=some y→w.heap.size+1≤y:=fun y hy=>(HO2.out.lt y hy).1
      have hk2:=HS.out.2.1
      refine ⟨HStep2.out,?_,?_,?_⟩
      ·rw [List.length_append,HLl.out,List.map_append]; exact HS.out.1
      ·exact Below.grown (HI.out.bel.trans (HB2.out.mono HI.out.bel.size)) hk2 (by have:=HI.out.bel.size; have:=HB2.out.size; omega) (fun y hy=>by have:=hlow y hy; omega)
      ·have h1:=(HB2.out.block _ (row_ltJ HI.out.box)).trans HI.out.box
       exact (hk2.block _ (row_ltJ h1) (fun e=>by have:=hlow _ e.symm; omega)).trans h1
     case measure=>simp [intOf]; omega
   ·obtain rfl:i=n:=by omega
    have HG:Hid (readO f.data.toList more (ws.map (·.data.toList))=some l):=by
     change _=_
     rw [HRd.out]
     have:=HI.out.rd
     rw [List.take_of_length_le (Nat.le_of_eq HM.out)] at this
     exact this
    have HO:=HI.out.own
    rw [HLl.out] at HO
    have HOh:=hid HO
    clear HO
    go_wp2_with fail
    go_ret2
    exact ⟨_,rfl,by rw [HG.out]; exact ⟨_,rfl,by rw [HLl.out]; exact own_baseO HOh.out (by omega)⟩,HI.out.bel⟩
 ·subst q2
  go_enter Tryz.func136,Tryz.ntmps136
  go_wp2_with fail
  go_loopw [4,5,32] (fun a c v wr=>∃ (i:Nat) (l:List Int),i≤n∧c=.bool false∧v=.int .i64 (i:Int)∧Hid (RdO w wr f true fv ws i l a)) (fun _ _ v _=>n - (intOf v).toNat)
  case atStart=>exact ⟨0,[],Nat.zero_le _,rfl,rfl,HI0.out⟩
  case round =>
   obtain ⟨i,l,hi,rfl,rfl,HI⟩:=hrel
   obtain ⟨adu,capu,hu⟩:=own_formO HI.out.own
   subst hu
   have HLl:Hid (l.length=i):=by
    change _=_
    rw [(readWO_small HI.out.rd).1,List.length_take,HM.out]; omega
   rw [HLl.out]
   by_cases hlt:i<n
   ·have hlt2:(i:Int)<(n:Int):=by omega
    have hiw:i<ws.length:=by rw [HN.out]; exact hlt
    obtain ⟨x,HX⟩:∃ x,Hid (ws[i]'hiw=x):=⟨_,rfl⟩
    have HXa:Hid (ws[i]? = some x):=by change _=_; rw [List.getElem?_eq_getElem hiw,HX.out]
    have HXm:Hid ((ws.map (·.data.toList))[i]? = some x.data.toList):=by change _=_; rw [List.getElem?_map,HXa.out]; rfl
    have c0:wr.cell? ⟨b,o+i,none⟩=some (.string x):=cell_later HI.out.bel (HW.out i x HXa.out)
    have c1:wr.cell? ⟨w.heap.size,0,none⟩=some (.string f):=by simp [World.cell?,HI.out.box]
    obtain ⟨q,hq⟩:∃ q:Nat,min i (f.size - 1)=q:=⟨_,rfl⟩
    have hqf:q<f.size:=by have:=hf0 (by omega); omega
    have hmin:min (i:Int) ((f.size:Int) - 1)=(q:Int):=by omega
    obtain ⟨c,HC⟩:∃ c,Hid ((f[q]'hqf)=c):=⟨_,rfl⟩
    have hix:∀ w',(Instr.index 9 (.string f) (.int .i64 (q:Int))).run Tryz.prog w'=.ok (.int .u8 (c.toNat:Int)) w':=fun w'=>by rw [idx_str f q q hqf rfl w',HC.out]
    have hcL:f.data.toList.getD q 0=c:=by
     rw [List.getD,List.getElem?_eq_getElem hqf,Option.getD_some,← HC.out]; exact rfl
    have HNum:=hid (number_is x (mostO c) wr (mostO_le c))
    have HStep:=hid (readWO_take (f:=f.data.toList) (ws.map (·.data.toList)) 0 i l x.data.toList HI.out.rd HXm.out)
    rw [Nat.zero_add,show f.data.toList.length=f.size from rfl,hq,hcL] at HStep
    have HMo:=hid (most_is c wr)
    clear hcL hq
    cases hnum:numO (mostO c) x.data.toList with
    | none =>
     have HBad:Hid (readO f.data.toList true (ws.map (·.data.toList))=none):=by
      change _=_
      rw [HRd.out]
      refine readWO_bad _ 0 (i+1) ?_
      rw [HStep.out,hnum]
     rw [hnum] at HNum
     clear hnum HStep
     go_wp2_with fail
     refine HMo.out.mono ?_
     rintro e w1 ⟨rfl,hx⟩
     subst w1
     go_wp2_with fail
     refine HNum.out.mono ?_
     rintro e w1 ⟨rfl,hx⟩
     subst w1
     unfold numT
     go_wp2_with fail
     go_ret2
     exact ⟨_,rfl,by rw [HBad.out]; exact rfl,HI.out.bel⟩
    | some k =>
     have HStep2:Hid (readWO f.data.toList 0 ((ws.map (·.data.toList)).take (i+1))=some (l ++ [(k:Int)])):=by
      change _=_
      rw [HStep.out,hnum]
     rw [hnum] at HNum
     clear hnum HStep
     go_wp2_with fail
     refine HMo.out.mono ?_
     rintro e w1 ⟨rfl,hx⟩
     subst w1
     go_wp2_with fail
     refine HNum.out.mono ?_
     rintro e w1 ⟨rfl,hx⟩
     subst w1
     unfold numT
     obtain ⟨W2,HW2⟩:∃ W2,Hid (wr.alloc (.cells #[.int .i64 (k:Int)] 3)=W2):=⟨_,rfl⟩
     have HB2:Hid (Below wr.heap.size wr W2):=by rw [← HW2.out]; exact (Below.refl _ _).alloc (Nat.le_refl _) _
     have HO2:=hid (own_later HI.out.own HB2.out (Nat.le_refl _))
     rw [HLl.out] at HO2
     have HLit:Hid (∀ j z,[Value.int .i64 (k:Int)][j]? = some z→W2.cell? ((⟨wr.heap.size,0,none⟩:Addr).add j)=some z):=by rw [← HW2.out]; exact lit_one wr 3 (.int .i64 (k:Int))
     have hbs:w.heap.size+1≤W2.heap.size:=by have:=row_ltJ HI.out.box; have:=HB2.out.size; omega
     have hW2:=HW2.out
     clear c0 c1
     go_wp2_with (at_builtin; refine append_int rfl _ _ rfl (w.heap.size+1) i (.slice adu i capu) (l.map (Value.int .i64)) ⟨wr.heap.size,0,none⟩ 1 (k:Int) rfl rfl HO2.out HLit.out (by omega) hbs ?_; intro ad' cap' w3 hown hg hat; have HS:=hid (And.intro hown (And.intro hg hat)); clear hown hg hat)
     go_roundw
     case rel =>
      refine ⟨i+1,l ++ [(k:Int)],by omega,rfl,by go_num,?_⟩
      have hlow:∀ y,(Value.slice adu i capu).ownBlock=some y→w.heap.size+1≤y:=fun y hy=>(HO2.out.lt y hy).1
      have hk2:=HS.out.2.1
      refine ⟨HStep2.out,?_,?_,?_⟩
      ·rw [List.length_append,HLl.out,List.map_append]; exact HS.out.1
      ·exact Below.grown (HI.out.bel.trans (HB2.out.mono HI.out.bel.size)) hk2 (by have:=HI.out.bel.size; have:=HB2.out.size; omega) (fun y hy=>by have:=hlow y hy; omega)
      ·have h1:=(HB2.out.block _ (row_ltJ HI.out.box)).trans HI.out.box
       exact (hk2.block _ (row_ltJ h1) (fun e=>by have:=hlow _ e.symm; omega)).trans h1
     case measure=>simp [intOf]; omega
   ·obtain rfl:i=n:=by omega
    have HG:Hid (readO f.data.toList true (ws.map (·.data.toList))=some l):=by
     change _=_
     rw [HRd.out]
     have:=HI.out.rd
     rw [List.take_of_length_le (Nat.le_of_eq HM.out)] at this
     exact this
    have HO:=HI.out.own
    rw [HLl.out] at HO
    have HOh:=hid HO
    clear HO
    go_wp2_with fail
    go_ret2
    exact ⟨_,rfl,by rw [HG.out]; exact ⟨_,rfl,by rw [HLl.out]; exact own_baseO HOh.out (by omega)⟩,HI.out.bel⟩
theorem read_any (f:ByteArray) (more:Bool) (fv:Value) (b o cap:Nat) (ws:List ByteArray) (w:World) (hf:f.size≤5) (hmo:more=true→0<f.size) (hl:ws.length≤1000) (hw:∀ i x,ws[i]? = some x→w.cell? ⟨b,o+i,none⟩=some (.string x)) :
  Calls Tryz.prog 136 #[.agg #[.string f,.bool more,fv],.slice (some ⟨b,o,none⟩) ws.length cap] w fun e w'=>∃ v,e=.returned v∧ReadO w w' (readO f.data.toList more (ws.map (·.data.toList))) v∧Below w.heap.size w w':=by
 have h1:(ws.map (·.data.toList)).length=ws.length:=List.length_map ..
 have h2:f.data.toList.length=f.size:=rfl
 by_cases q1:ws.length<f.size
 ·have HBad:Hid (readO f.data.toList more (ws.map (·.data.toList))=none):=by
   change _=_
   unfold readO
   rw [h1,h2,if_pos (.inl q1)]
  obtain ⟨n,HN⟩:∃ n,Hid (ws.length=n):=⟨_,rfl⟩
  rw [HN.out] at q1 hl ⊢
  have HB0:Hid (Below w.heap.size w (w.alloc (.cells #[.string f,.bool more,fv] 84))):=(Below.refl _ _).alloc (Nat.le_refl _) _
  clear hw h1
  go_enter Tryz.func136,Tryz.ntmps136
  go_wp2_with fail
  go_ret2
  exact ⟨_,rfl,by rw [HBad.out]; exact rfl,HB0.out⟩
 ·by_cases q2:f.size<ws.length
  ·cases more with
   | true=>exact read_go f true fv b o cap ws w hf hmo hl hw q1 (.inr ⟨q2,rfl⟩)
   | false =>
    have HBad:Hid (readO f.data.toList false (ws.map (·.data.toList))=none):=by
     change _=_
     unfold readO
     rw [h1,h2,if_pos (.inr ⟨q2,rfl⟩)]
    obtain ⟨n,HN⟩:∃ n,Hid (ws.length=n):=⟨_,rfl⟩
    rw [HN.out] at q1 q2 hl ⊢
    have HB0:Hid (Below w.heap.size w (w.alloc (.cells #[.string f,.bool false,fv] 84))):=(Below.refl _ _).alloc (Nat.le_refl _) _
    clear hw h1
    go_enter Tryz.func136,Tryz.ntmps136
    go_wp2_with fail
    go_ret2
    exact ⟨_,rfl,by rw [HBad.out]; exact rfl,HB0.out⟩
  ·exact read_go f more fv b o cap ws w hf hmo hl hw q1 (.inl q2)
section
variable {zs:List Int} {s s':Nat→St} {g g':Gh}
def ghV (g:Gh) (a v:Nat):Gh:=⟨g.acc,fun b=>if b=a then v else g.val b,g.no⟩
theorem ghV_at (g:Gh) (a v:Nat):(ghV g a v).val a=v:=if_pos rfl
theorem ghV_ne (g:Gh) (a v:Nat) {b:Nat} (h:b≠a):(ghV g a v).val b=g.val b:=if_neg h
theorem co_val (h:Co zs s g) {a v:Nat} (h0:g.val a=0) (hv:v=4 ∨ v=5) (hz:a=0→v=4) (how:0<a→a≤(s (a % zs.length)).pr) (hbg:0<a→Qo zs fun i=>a≤(s i).pr)
  (hpx:∀ b,b<a→g.val b≠0→v≠g.val b→Qo zs fun i=>b<(s i).pr∧¬ g.acc i b) (hal:v=4→∀ i,i<zs.length→(s i).ph≠0) (hno:v=4→∀ i,i<zs.length→¬ g.no i) :
  Co zs s (ghV g a v)∧Gr zs s g s (ghV g a v):=by
 have hva:∀ b,g.val b≠0→(ghV g a v).val b=g.val b:=fun b hb=>ghV_ne g a v (fun e=>hb (by rw [e]; exact h0))
 have hG:Gr zs s g s (ghV g a v):=⟨fun _=>Nat.le_refl _,fun _ _ x=>x,hva,fun _ _ x=>x,fun _ _ _ x=>.inl x,fun _ x=>x,fun _ _ x=>.inl x⟩
 refine ⟨?_,hG⟩
 have hcase:∀ b,(ghV g a v).val b≠0→b=a ∨ (b≠a∧g.val b≠0∧(ghV g a v).val b=g.val b):=by
  intro b hb
  by_cases e:b=a
  ·exact .inl e
  ·rw [ghV_ne g a v e] at hb
   exact .inr ⟨e,hb,ghV_ne g a v e⟩
 refine ⟨fun i b x=>?_,h.ap,fun b=>?_,?_,fun b hb h1=>?_,fun b hb h1=>?_,fun c b hcb hc hb hne=>?_,fun i hi x=>?_,h.s0,fun i hi x=>(h.s2 i hi x).grow hG,fun i hi x=>(h.s3 i hi x).grow hG,fun b hb i hi=>?_,fun i hi x=>⟨(h.nv i hi x).1,fun b hb=>?_⟩⟩
 ·have:=h.av i b x
  rw [hva b this]; exact this
 ·by_cases e:b=a
  ·rw [e,ghV_at]; omega
  ·rw [ghV_ne g a v e]; exact h.vi b
 ·by_cases e:0=a
  ·rw [e,ghV_at]; have:=hz e.symm; omega
  ·rw [ghV_ne g a v e]; exact h.v0
 ·rcases hcase b hb with rfl|⟨-,x,-⟩
  ·exact how h1
  ·exact h.ow b x h1
 ·rcases hcase b hb with rfl|⟨-,x,-⟩
  ·exact hbg h1
  ·exact h.bg b x h1
 ·rcases hcase c hc with rfl|⟨e,x,y⟩
  ·rcases hcase b hb with rfl|⟨e2,x2,y2⟩
   ·omega
   ·rw [ghV_at,y2] at hne
    exact hpx b hcb x2 hne
  ·rcases hcase b hb with rfl|⟨e2,x2,y2⟩
   ·refine (h.bg c x (by omega)).mono fun i _ hi=>⟨by omega,fun hac=>h.av i _ hac h0⟩
   ·rw [y,y2] at hne
    exact h.px c b hcb x x2 hne
 ·obtain ⟨x1,x2⟩:=h.s4 i hi x
  exact ⟨by rw [hva _ (by omega)]; exact x1,x2⟩
 ·rcases hcase b (by omega) with rfl|⟨-,-,y⟩
  ·rw [ghV_at] at hb; exact hal hb i hi
  ·exact h.al b (by rw [← y]; exact hb) i hi
 ·rcases hcase b (by omega) with rfl|⟨-,-,y⟩
  ·rw [ghV_at] at hb; exact hno hb i hi x
  ·exact (h.nv i hi x).2 b (by rw [← y]; exact hb)
theorem bit_ans {n:Nat} {a:Int} {m i:Nat} (hn:n≤7) (h0:0≤a) (h1:a<2 ^ n) (hm:m<n) (h:bit (ansS a m) i=true):bit a i=true ∨ i=m:=by
 have hp:=(pow_le7 hn).1
 obtain ⟨k,rfl⟩:=Int.eq_ofNat_of_zero_le h0
 have h3:(2:Nat) ^ m<9223372036854775808:=Nat.lt_of_lt_of_le (Nat.pow_lt_pow_right (by decide) (Nat.lt_of_lt_of_le hm hn)) (by decide)
 unfold ansS at h
 rw [pow_nat m,bits_or_nat k (2 ^ m) (by omega) h3] at h
 unfold bit at h ⊢
 rw [Int.toNat_natCast,Nat.testBit_or,Bool.or_eq_true] at h
 rw [Int.toNat_natCast]
 rcases h with h|h
 ·exact .inl h
 ·rw [Nat.testBit_two_pow] at h
  exact .inr (of_decide_eq_true h).symm
theorem bit_zero (i:Nat):bit 0 i=false:=by unfold bit; simp
theorem bit_full {n i:Nat} (hi:i<n):bit (2 ^ n - 1) i=true:=by
 unfold bit
 have h1:(1:Nat)≤2 ^ n:=Nat.one_le_two_pow
 rw [pow_nat,show (((2 ^ n:Nat):Int) - 1).toNat=2 ^ n - 1 by omega,Nat.testBit_two_pow_sub_one]
 exact decide_eq_true hi
theorem waitsY {P:PL} {att k:Int} (h:waitsB P att k=true):(k=2∧P.stt=0∧att=0) ∨ (k=4∧P.stt=0∧0<att) ∨ (k=6∧P.stt=1):=by
 unfold waitsB at h
 simp at h
 omega
theorem choose_fin {L:List S3} {p:Int} (h:chooseL L=(p,true)):(p=2 ∨ p=3)∧∃ t,t∈L∧t.p=p:=by
 unfold chooseL at h
 split at h
 ·rename_i x
  obtain ⟨rfl,-⟩:=Prod.mk.inj h
  rw [gr_has,hasP_iff] at x
  exact ⟨.inl rfl,x⟩
 ·split at h
  ·rename_i x
   obtain ⟨rfl,-⟩:=Prod.mk.inj h
   rw [gr_has,hasP_iff] at x
   exact ⟨.inr rfl,x⟩
  ·split at h <;> (obtain ⟨-,h2⟩:=Prod.mk.inj h; cases h2)
theorem gr_none {p:Int} {L:List S3} (h:¬ (gr p L).2=true):∀ t,t∈L→t.p≠p:=by
 intro t ht e
 refine h ?_
 rw [gr_has,hasP_iff]
 exact ⟨t,ht,e⟩
theorem gr_top {p:Int} {L:List S3} (h:(gr p L).2=true):(∃ t,t∈L∧t.p=p∧t.a=(gr p L).1)∧∀ t,t∈L→t.p=p→t.a≤(gr p L).1:=by
 rcases gr_of p L with ⟨-,h2,h3⟩|⟨h1,-⟩
 ·exact ⟨h2,h3⟩
 ·rw [h1] at h; cases h
theorem choose_pre {L:List S3} {v:Int} (h:chooseL L=(v,false)):(v=4 ∨ v=5)∧(∀ t,t∈L→t.p≠2∧t.p≠3) ∧
  ((v=5∧∀ t,t∈L→t.p≠4∧t.p≠5) ∨ ∃ t,t∈L∧t.p=v∧∀ u,u∈L→(u.p=4 ∨ u.p=5)→u.a≤t.a):=by
 unfold chooseL at h
 split at h
 ·obtain ⟨-,h2⟩:=Prod.mk.inj h; cases h2
 ·rename_i x2
  split at h
  ·obtain ⟨-,h2⟩:=Prod.mk.inj h; cases h2
  ·rename_i x3
   have h23:∀ t,t∈L→t.p≠2∧t.p≠3:=fun t ht=>⟨gr_none x2 t ht,gr_none x3 t ht⟩
   split at h
   ·rename_i x4
    obtain ⟨rfl,-⟩:=Prod.mk.inj h
    obtain ⟨⟨t,t1,t2,t3⟩,t4⟩:=gr_top x4.1
    refine ⟨.inl rfl,h23,.inr ⟨t,t1,t2,fun u hu hp=>?_⟩⟩
    rcases hp with hp|hp
    ·rw [t3]; exact t4 u hu hp
    ·by_cases x5:(gr 5 L).2=true
     ·have:=(gr_top x5).2 u hu hp
      rcases x4.2 with y|y
      ·rw [y] at x5; cases x5
      ·omega
     ·exact absurd hp (gr_none x5 u hu)
   ·rename_i x4
    obtain ⟨rfl,-⟩:=Prod.mk.inj h
    refine ⟨.inr rfl,h23,?_⟩
    by_cases x5:(gr 5 L).2=true
    ·obtain ⟨⟨t,t1,t2,t3⟩,t4⟩:=gr_top x5
     refine .inr ⟨t,t1,t2,fun u hu hp=>?_⟩
     rcases hp with hp|hp
     ·by_cases y4:(gr 4 L).2=true
      ·have h1:=(gr_top y4).2 u hu hp
       have h2:¬ (gr 5 L).1≤(gr 4 L).1:=fun z=>x4 ⟨y4,.inr z⟩
       omega
      ·exact absurd hp (gr_none y4 u hu)
     ·rw [t3]; exact t4 u hu hp
    ·by_cases y4:(gr 4 L).2=true
     ·exfalso
      refine x4 ⟨y4,.inl ?_⟩
      cases hz:(gr 5 L).2 with
      | true=>exact absurd hz x5
      | false=>rfl
     ·exact .inl ⟨rfl,fun t ht=>⟨gr_none y4 t ht,gr_none x5 t ht⟩⟩
def LeOut (zs:List Int) (s:Nat→St) (g:Gh) (id:Nat) (deal att:Int) (x:PL×Option (Int×Int)):Prop :=
 ∃ g',Co zs s g'∧Gr zs s g s g'∧(∀ a,g'.val a≠g.val a→a=att.toNat∧g.val a=0)∧Le zs s g' id att x.1∧∀ f,f∈outL id deal att zs.length x.2→Fr zs s g' f
theorem toL_mem {id:Nat} {deal k att ph:Int} {n:Nat} {f:F9} (h:f∈toL id deal k att ph n):f.k=k∧f.a=att∧f.ph=ph∧f.y=false∧f.f=id∧f.d=deal:=by
 induction n with
 | zero=>cases h
 | succ n ih =>
  rw [toL,List.mem_append] at h
  rcases h with h|h
  ·exact ih h
  ·rw [List.mem_singleton] at h
   subst h
   exact ⟨rfl,rfl,rfl,rfl,rfl,rfl⟩
theorem fr_dec {id:Nat} {deal att p:Int} {n:Nat} (h2:p=2→Dec2 zs g) (h3:p=3→Dec3 zs g):∀ f,f∈toL id deal 7 att p n→Fr zs s g f:=by
 intro f hf
 obtain ⟨e1,-,e3,-⟩:=toL_mem hf
 exact ⟨fun k=>by omega,fun k=>by omega,fun k=>by omega,fun k=>by omega,fun k=>by omega,fun _ e=>h2 (by omega),fun _ e=>h3 (by omega)⟩
theorem fr_pre {id:Nat} {deal att p:Int} {n:Nat} (h1:p=4 ∨ p=5) (h2:(g.val att.toNat:Int)=p):∀ f,f∈toL id deal 5 att p n→Fr zs s g f:=by
 intro f hf
 obtain ⟨e1,e2,e3,-⟩:=toL_mem hf
 exact ⟨fun k=>by omega,fun k=>by omega,fun k=>by omega,fun _=>by rw [e2,e3]; exact ⟨h1,h2⟩,fun k=>by omega,fun k=>by omega,fun k=>by omega⟩
theorem le_done {id:Nat} {att:Int} {P:PL} (h0:0≤att) (how:0<att→att.toNat % zs.length=id∧att.toNat≤(s id).pr) (hs:P.stt=2 ∨ P.stt=3):Le zs s g id att P :=
 ⟨h0,fun e=>by omega,fun e=>by omega,fun e=>by omega,fun e=>by omega,how,fun e=>by omega,fun e=>by omega⟩
theorem keep_out {id:Nat} {deal att:Int} {P:PL} (h:Co zs s g) (hl:Le zs s g id att P):LeOut zs s g id deal att (P,none) :=
 ⟨g,h,Gr.refl _ _ _,fun _ e=>absurd rfl e,hl,fun _ hf=>by cases hf⟩
theorem dec_out {id:Nat} {deal att p:Int} {P:PL} (h:Co zs s g) (h0:0≤att) (how:0<att→att.toNat % zs.length=id∧att.toNat≤(s id).pr) (h2:p=2→Dec2 zs g) (h3:p=3→Dec3 zs g):LeOut zs s g id deal att (decP P p) :=
 ⟨g,h,Gr.refl _ _ _,fun _ e=>absurd rfl e,le_done h0 how (.inl rfl),fr_dec h2 h3⟩
theorem le_pre {id:Nat} {att:Int} {P:PL} {v:Int} (h0:0≤att) (how:0<att→att.toNat % zs.length=id∧att.toNat≤(s id).pr) (hv:v=4 ∨ v=5) (hg:(g.val att.toNat:Int)=v):Le zs s g id att (preP P v).1 :=
 ⟨h0,fun e=>(by cases e),fun e=>(by cases e),fun e=>(by cases e),fun e=>(by cases e),how,fun _=>⟨hv,hg⟩,fun _ i _ hb=>by
  have hb2:bit 0 i=true:=hb
  rw [bit_zero] at hb2; cases hb2⟩
theorem pre_out {id:Nat} {deal att v:Int} {P:PL} (h:Co zs s g) (h0:0≤att) (how:0<att→att.toNat % zs.length=id∧att.toNat≤(s id).pr) (hv:v=4 ∨ v=5) (hz:att=0→v=4)
  (hb:0<att→g.val att.toNat=0) (hbg:0<att→Qo zs fun i=>att.toNat≤(s i).pr)
  (hpx:∀ b,b<att.toNat→g.val b≠0→v≠g.val b→Qo zs fun i=>b<(s i).pr∧¬ g.acc i b) (hal:v=4→∀ i,i<zs.length→(s i).ph≠0) (hno:v=4→∀ i,i<zs.length→¬ g.no i):LeOut zs s g id deal att (preP P v):=by
 by_cases e0:g.val att.toNat=0
 ·have hc:=co_val (v:=v.toNat) h e0 (by omega) (fun e=>by have:=hz (by omega); omega) (fun e=>by have:=how (by omega); rw [this.1]; exact this.2) (fun e=>hbg (by omega)) (fun b hb1 hb2 hb3=>hpx b hb1 hb2 (by omega)) (fun e=>hal (by omega)) (fun e=>hno (by omega))
  have hval:((ghV g att.toNat v.toNat).val att.toNat:Int)=v:=by rw [ghV_at]; omega
  refine ⟨_,hc.1,hc.2,fun a ha=>?_,le_pre h0 how hv hval,fr_pre hv hval⟩
  by_cases e:a=att.toNat
  ·exact ⟨e,by rw [e]; exact e0⟩
  ·rw [ghV_ne _ _ _ e] at ha; exact absurd rfl ha
 ·have ha:att=0:=by
   rcases Int.lt_or_eq_of_le h0 with x|x
   ·exact absurd (hb x) e0
   ·exact x.symm
  have hval:(g.val att.toNat:Int)=v:=by
   have h1:=h.vi att.toNat
   have h2:=h.v0
   have h3:=hz ha
   subst ha
   simp only [Int.toNat_zero] at h1 e0 ⊢
   omega
  exact ⟨g,h,Gr.refl _ _ _,fun _ e=>absurd rfl e,le_pre h0 how hv hval,fr_pre hv hval⟩
theorem lead_co (h:Co zs s g) (he:errW zs=0) {id:Nat} {deal att:Int} {P:PL} (hl:Le zs s g id att P) (hw:PW zs.length P) (f:F9) (hf:Fr zs s g f):LeOut zs s g id deal att (phear zs id deal att P f):=by
 have hn:=(errW_zero he).2.1
 unfold phear
 by_cases ht:takesB zs.length id deal att P f=true
 ·rw [if_pos ht]
  obtain ⟨⟨-,-,ea⟩,hwt,⟨f0,f1⟩,-⟩:=takesB_in ht
  have hm:f.f.toNat<zs.length:=by omega
  have hpn:=hw.note (f:=f) hn f0 f1
  have hb:∀ i,bit (noteP P f).ans i=true→bit P.ans i=true ∨ i=f.f.toNat:=fun i hi=>bit_ans hn hw.lo hw.hi hm hi
  unfold takenP
  rcases waitsY hwt with ⟨ek,es,ez⟩|⟨ek,es,ez⟩|⟨ek,es⟩
  ·rw [if_pos ek]
   unfold voteP
   cases ey:f.y with
   | false =>
    rw [if_pos rfl]
    exact dec_out h hl.a0 hl.ow (fun e=>by omega) (fun _=>hf.vn ek ey)
   | true =>
    rw [if_neg (by simp)]
    have hvo:∀ i,i<zs.length→bit (noteP P f).ans i=true→(s i).ph≠0∧¬ g.no i:=by
     intro i hi hbi
     rcases hb i hbi with x|rfl
     ·exact hl.vo es ez i hi x
     ·exact hf.vy ek ey
    split
    ·rename_i hfull
     have hall:∀ i,i<zs.length→(s i).ph≠0∧¬ g.no i:=fun i hi=>hvo i hi (by rw [hfull]; exact bit_full hi)
     exact pre_out h hl.a0 hl.ow (.inl rfl) (fun _=>rfl) (fun e=>by omega) (fun e=>by omega) (fun b hb=>by omega) (fun _ i hi=>(hall i hi).1) (fun _ i hi=>(hall i hi).2)
    ·exact keep_out h ⟨hl.a0,fun _ _=>hvo,fun _ e=>by omega,fun _ e=>by omega,fun _ e=>by omega,hl.ow,fun e=>by have:P.stt=1:=e; omega,fun e=>by have:P.stt=1:=e; omega⟩
  ·rw [if_neg (by omega)]
   cases ey:f.y with
   | false =>
    rw [if_pos rfl]
    exact keep_out h (le_done hl.a0 hl.ow (.inr rfl))
   | true =>
    rw [if_neg (by simp),if_pos ek]
    obtain ⟨q1,q2,q3,-⟩:=seeP_of (noteP P f) f.pr
    generalize hQ:seeP (noteP P f) f.pr=Q at *
    have hQw:PW zs.length Q:=by rw [← hQ]; exact hpn.see f.pr
    have hto:=hf.te ek ey
    rw [ea] at hto
    have hlen:f.f.toNat<P.told.length:=by rw [hw.len]; omega
    have hT:∀ i,i<zs.length→bit Q.ans i=true→∃ t,(toldS Q.told f.f.toNat ⟨f.ph,f.pr,f.pa⟩)[i]? = some t∧Told zs s g i att.toNat t:=by
     intro i hi hbi
     rw [q2] at hbi
     rw [q3]
     unfold toldS
     rw [List.getElem?_set]
     by_cases e:f.f.toNat=i
     ·rw [if_pos e,if_pos (show f.f.toNat<(noteP P f).told.length from hlen)]
      subst e
      exact ⟨_,rfl,hto⟩
     ·rw [if_neg e]
      rcases hb i hbi with x|x
      ·exact hl.tt es ez i hi x
      ·exact absurd x.symm e
    have hbit:bit Q.ans f.f.toNat=true:=by
     rw [q2]
     show bit (ansS P.ans f.f.toNat) f.f.toNat=true
     obtain ⟨k,hk⟩:=Int.eq_ofNat_of_zero_le hw.lo
     have hp:=(pow_le7 hn).1
     have hhi:=hw.hi
     have h3:(2:Nat) ^ f.f.toNat<9223372036854775808:=Nat.lt_of_lt_of_le (Nat.pow_lt_pow_right (by decide) (Nat.lt_of_lt_of_le hm hn)) (by decide)
     unfold ansS
     rw [hk] at hhi ⊢
     rw [pow_nat f.f.toNat,bits_or_nat k (2 ^ f.f.toNat) (by omega) h3]
     unfold bit
     rw [Int.toNat_natCast,Nat.testBit_or,Nat.testBit_two_pow_self,Bool.or_true]
    have hmono:∀ i,bit P.ans i=true→bit Q.ans i=true:=by
     intro i hi
     rw [q2]
     show bit (ansS P.ans f.f.toNat) i=true
     obtain ⟨k,hk⟩:=Int.eq_ofNat_of_zero_le hw.lo
     have hp:=(pow_le7 hn).1
     have hhi:=hw.hi
     have h3:(2:Nat) ^ f.f.toNat<9223372036854775808:=Nat.lt_of_lt_of_le (Nat.pow_lt_pow_right (by decide) (Nat.lt_of_lt_of_le hm hn)) (by decide)
     unfold ansS
     rw [hk] at hhi hi ⊢
     rw [pow_nat f.f.toNat,bits_or_nat k (2 ^ f.f.toNat) (by omega) h3]
     unfold bit at hi ⊢
     rw [Int.toNat_natCast] at hi
     rw [Int.toNat_natCast,Nat.testBit_or,hi,Bool.true_or]
    have hT0:∀ i t,(toldS Q.told f.f.toNat ⟨f.ph,f.pr,f.pa⟩)[i]? = some t→t.p=0 ∨ (i<zs.length∧bit Q.ans i=true):=by
     intro i t hit
     rw [q3] at hit
     unfold toldS at hit
     rw [List.getElem?_set] at hit
     by_cases e:f.f.toNat=i
     ·subst e; exact .inr ⟨hm,hbit⟩
     ·rw [if_neg e] at hit
      rcases hl.t0 es ez i t hit with x|x
      ·exact .inl x
      ·exact .inr ⟨x.1,hmono i x.2⟩
    have hTm:∀ t,t∈toldS Q.told f.f.toNat ⟨f.ph,f.pr,f.pa⟩→t.p≠0→∃ i,i<zs.length∧Told zs s g i att.toNat t:=by
     intro t ht hp
     obtain ⟨i,hi⟩:=List.mem_iff_getElem?.1 ht
     rcases hT0 i t hi with x|⟨x,y⟩
     ·exact absurd x hp
     ·obtain ⟨u,hu,hu2⟩:=hT i x y
      rw [hi] at hu
      cases hu
      exact ⟨i,x,hu2⟩
    unfold tellP
    split
    ·refine keep_out h ⟨hl.a0,fun _ e=>by omega,fun _ e=>hl.tv es ez,fun _ _=>hT,fun _ _=>hT0,hl.ow,fun e=>?_,fun e=>?_⟩
     ·have e2:Q.stt=1:=e
      rw [q1] at e2
      have:P.stt=1:=e2
      omega
     ·have e2:Q.stt=1:=e
      rw [q1] at e2
      have:P.stt=1:=e2
      omega
    ·rename_i hen
     have hen2:enoughB zs Q.ans=true:=by
      cases hx:enoughB zs Q.ans with
      | true=>rfl
      | false=>exact absurd hx hen
     have hqo:∀ S:Nat→Prop,(∀ i,i<zs.length→bit Q.ans i=true→S i)→Qo zs S:=fun S hS=>⟨Q.ans,errS_mk he hQw.lo hQw.hi,hen2,hS⟩
     generalize hC:chooseL (toldS Q.told f.f.toNat ⟨f.ph,f.pr,f.pa⟩)=c
     obtain ⟨cp,cf⟩:=c
     cases cf with
     | true =>
      rw [if_pos rfl]
      obtain ⟨c1,t,c2,c3⟩:=choose_fin hC
      obtain ⟨i,-,hi⟩:=hTm t c2 (by omega)
      exact dec_out h hl.a0 hl.ow (fun e=>hi.d2 (by simp only at e; omega)) (fun e=>hi.d3 (by simp only at e; omega))
     | false =>
      rw [if_neg (by simp)]
      obtain ⟨c1,c2,c3⟩:=choose_pre hC
      have hbg:Qo zs fun i=>att.toNat≤(s i).pr:=hqo _ fun i hi hbi=>by
       obtain ⟨t,-,ht⟩:=hT i hi hbi
       exact ht.pr
      have hin:∀ i t,(toldS Q.told f.f.toNat ⟨f.ph,f.pr,f.pa⟩)[i]? = some t→t∈toldS Q.told f.f.toNat ⟨f.ph,f.pr,f.pa⟩:=fun i t hit=>List.mem_iff_getElem?.2 ⟨i,hit⟩
      rcases c3 with ⟨c3,c4⟩|⟨t,c3,c4,c5⟩
      ·refine pre_out h hl.a0 hl.ow c1 (fun e=>by omega) (fun _=>hl.tv es ez) (fun _=>hbg) (fun b hb1 _ _=>hqo _ fun i hi hbi=>?_) (fun e=>by omega) (fun e=>by omega)
       obtain ⟨u,u1,u2⟩:=hT i hi hbi
       refine ⟨Nat.lt_of_lt_of_le hb1 u2.pr,fun hac=>?_⟩
       have x1:=c2 u (hin i u u1)
       have x2:=c4 u (hin i u u1)
       have x3:=(u2.ac x1.1 x1.2 b hb1 hac).1
       omega
      ·obtain ⟨j,hj,hjt⟩:=hTm t c3 (by omega)
       have hval:=hjt.va (by omega)
       rw [c4] at hval
       have hta:=hjt.a0
       refine pre_out h hl.a0 hl.ow c1 (fun e=>by omega) (fun _=>hl.tv es ez) (fun _=>hbg) (fun b hb1 hb2 hb3=>?_) (fun e=>h.al t.a.toNat (by omega)) (fun e i hi hno=>(h.nv i hi hno).2 t.a.toNat (by omega))
       rcases Nat.lt_trichotomy b t.a.toNat with hlt|heq|hgt
       ·exact h.px t.a.toNat b hlt (by omega) hb2 (by omega)
       ·rw [heq] at hb3; exact absurd hval.symm hb3
       ·refine hqo _ fun i hi hbi=>?_
        obtain ⟨u,u1,u2⟩:=hT i hi hbi
        refine ⟨Nat.lt_of_lt_of_le hb1 u2.pr,fun hac=>?_⟩
        have x1:=c2 u (hin i u u1)
        obtain ⟨x3,x4⟩:=u2.ac x1.1 x1.2 b hb1 hac
        have x5:=c5 u (hin i u u1) x3
        omega
  ·rw [if_neg (by omega)]
   cases ey:f.y with
   | false =>
    rw [if_pos rfl]
    exact keep_out h (le_done hl.a0 hl.ow (.inr rfl))
   | true =>
    rw [if_neg (by simp),if_neg (by omega)]
    obtain ⟨q1,q2,q3,q4⟩:=seeP_of (noteP P f) f.pr
    generalize hQ:seeP (noteP P f) f.pr=Q at *
    have hQw:PW zs.length Q:=by rw [← hQ]; exact hpn.see f.pr
    have hak:=hf.ak ek ey
    rw [ea] at hak
    have hpv:=hl.pv es
    have hac:∀ i,i<zs.length→bit Q.ans i=true→g.acc i att.toNat:=by
     intro i hi hbi
     rw [q2] at hbi
     rcases hb i hbi with x|rfl
     ·exact hl.pa es i hi x
     ·exact hak
    have hprep:Q.prep=P.prep:=q4
    unfold ackP
    split
    ·refine keep_out h ⟨hl.a0,fun e=>?_,fun e=>?_,fun e=>?_,fun e=>?_,hl.ow,fun _=>by rw [hprep]; exact hpv,fun _=>hac⟩
     all_goals
      rw [q1] at e
      have:P.stt=0:=e
      omega
    ·rename_i hen
     have hen2:enoughB zs Q.ans=true:=by
      cases hx:enoughB zs Q.ans with
      | true=>rfl
      | false=>exact absurd hx hen
     have hqo:Qo zs fun i=>g.acc i att.toNat:=⟨Q.ans,errS_mk he hQw.lo hQw.hi,hen2,hac⟩
     rw [hprep]
     refine dec_out h hl.a0 hl.ow (fun e=>⟨att.toNat,?_,hqo⟩) (fun e=>.inl ⟨att.toNat,?_,hqo⟩)
     ·unfold afterI at e
      rcases hpv.1 with x|x
      ·omega
      ·rw [x] at e; exact absurd e (by decide)
     ·unfold afterI at e
      rcases hpv.1 with x|x
      ·rw [x] at e; exact absurd e (by decide)
      ·omega
 ·rw [if_neg ht]
  exact keep_out h hl
end
structure FIn (w W:World) (f t d k a:Int) (y:Bool) (p1 p2 p3:Int):Prop where
 row:W.heap[w.heap.size]? = some (.cells #[.int .i64 f,.int .i64 t,.int .i64 d,.int .i64 k,.int .i64 a,.bool y,.int .i64 p1,.int .i64 p2,.int .i64 p3] 125 (0,0))
theorem FIn.later {w W V:World} {f t d k a:Int} {y:Bool} {p1 p2 p3:Int} (h:FIn w W f t d k a y p1 p2 p3) (hb:Below W.heap.size W V):FIn w V f t d k a y p1 p2 p3:=⟨(hb.block _ (row_ltJ h.row)).trans h.row⟩
section
variable {w:World} {lb id n cap:Nat} {deal att:Int} {aw:Option Addr} {st:ByteArray} {wait:Int} {vh:Value} {hs:List F9} {ph seen:Int}
theorem rlhear_again (f:Nat) (k:Int) (y:Bool) (p1 p2 p3:Int) (x:F9) (h:RLd w lb id n cap deal att aw st k vh hs ph seen) (hl:hs.length≤1000) (hw:k≠0) (hf:f<n) (hx:fromL hs f=some x) :
  Calls Tryz.prog 88 #[.pointer (some ⟨lb,0,none⟩),frV f id deal k att y p1 p2 p3] w fun e w'=>e=.returned (.slice none 0 0)∧Below w.heap.size w w':=by
 obtain ⟨W,HW⟩:∃ W,Hid (w.alloc (.cells #[.int .i64 (f:Int),.int .i64 (id:Int),.int .i64 deal,.int .i64 k,.int .i64 att,.bool y,.int .i64 p1,.int .i64 p2,.int .i64 p3] 125)=W):=⟨_,rfl⟩
 have HB:Hid (Below w.heap.size w W):=by rw [← HW.out]; exact (Below.refl _ _).alloc (Nat.le_refl _) _
 have HR:Hid (FIn w W f id deal k att y p1 p2 p3):=by rw [← HW.out]; exact ⟨heap_alloc_new w _⟩
 obtain ⟨b0,b1,b2,b3,b4,b5,b6,b7,b8⟩:=nine HR.out.row
 have HI:=hid (h.later HB.out)
 obtain ⟨c0,c1,c2,c3,c4,c5,c6,c7,c8⟩:=HI.out.cells
 have hW:=HW.out
 have e0:(k == 0)=false:=beq_eq_false_iff_ne.2 hw
 have f7:¬ (n:Int)≤(f:Int):=by omega
 have HX:=hid hx
 obtain ⟨xf,xt,xd,xk,xa,xy,xph,xpr,xpa⟩:=x
 clear h hx
 go_enter Tryz.func88,Tryz.ntmps88
 go_wp2_with fail
 go_quiet (fail)
 have HB2:=hid (below_drewN (Below.refl W.heap.size W) nq)
 generalize W.drewN nq=V at HB2 ⊢
 have HI2:=hid (HI.out.later HB2.out)
 have HR2:=hid (HR.out.later HB2.out)
 have HB3:=hid (HB.out.trans (HB2.out.mono HB.out.size))
 clear b0 b1 b2 b3 b4 b5 b6 b7 b8 c0 c1 c2 c3 c4 c5 c6 c7 c8
 obtain ⟨b0,b1,b2,b3,b4,b5,b6,b7,b8⟩:=nine HR2.out.row
 go_wp2_with fail
 refine (rlfrom_any lb id n cap deal att aw st k vh hs ph seen f _ HI2.out hl).mono ?_
 rw [HX.out]
 unfold frO
 simp only [Option.isSome]
 rintro e w1 ⟨rfl,hb1⟩
 have HB4:=hid (HB3.out.trans (hb1.mono HB3.out.size))
 clear hb1
 go_wp2_with fail
 go_ret
 exact ⟨rfl,HB4.out.alloc HB4.out.size _⟩
end
theorem rferr_ok (f t d k a:Int) (y:Bool) (ph pr pa:Int) (w:World) (h:frOk f t d k a ph pr pa) :
  Calls Tryz.prog 181 #[frV f t d k a y ph pr pa] w fun e w'=>e=.returned (.int .i64 0)∧Below w.heap.size w w':=by
 obtain ⟨W,HW⟩:∃ W,Hid (w.alloc (.cells #[.int .i64 f,.int .i64 t,.int .i64 d,.int .i64 k,.int .i64 a,.bool y,.int .i64 ph,.int .i64 pr,.int .i64 pa] 125)=W):=⟨_,rfl⟩
 have HB:Hid (Below w.heap.size w W):=by rw [← HW.out]; exact (Below.refl _ _).alloc (Nat.le_refl _) _
 have HR:Hid (W.heap[w.heap.size]? = some (.cells #[.int .i64 f,.int .i64 t,.int .i64 d,.int .i64 k,.int .i64 a,.bool y,.int .i64 ph,.int .i64 pr,.int .i64 pa] 125 (0,0))):=by rw [← HW.out]; exact heap_alloc_new w _
 obtain ⟨c0,c1,c2,c3,c4,c5,c6,c7,c8⟩:=nine HR.out
 have hW:=HW.out
 obtain ⟨⟨k0,k1⟩,⟨k2,k3⟩,⟨k4,k5⟩,⟨k6,k7⟩,⟨k8,k9⟩,⟨k10,k11⟩,⟨k12,k13⟩,⟨k14,k15⟩⟩:=h
 go_enter Tryz.func181,Tryz.ntmps181
 go_wp2_with fail
 go_ret
 exact ⟨rfl,HB.out⟩
end Go.Proofs.YtaehdgemkafinaaGreatDoor
