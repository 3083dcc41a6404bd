/-
  On the way to WStepsProof: LA L9 XP.
-/
import Derived.Test.YtadhpkopkkjmfaaGreatDoorBz47
import Derived.Test.YtadhpkopkkjmfaaGreatDoorBz46
import Derived.Great.Frames
set_option maxHeartbeats 8000000
set_option maxRecDepth 100000
namespace Go.Proofs.YtadhpkopkkjmfaaGreatDoor
open Go.RowKit
theorem eval_form {a:Act} {i:Nat} {v:Value} (h:a.eval (.tmp i)=v):a.tmps[i]?.getD undef=v:=by
 unfold Act.eval at h
 simpa using h
def reg14S (lb fb:Nat) (vh:Value) (F:F9) (w':World):Prop:=w'.cell? ⟨lb,6,none⟩=some vh∧w'.cell? ⟨fb,0,none⟩=some (.int .i64 F.f)∧w'.cell? ⟨fb,1,none⟩=some (.int .i64 F.t)∧w'.cell? ⟨fb,2,none⟩=some (.int .i64 F.d)∧w'.cell? ⟨fb,3,none⟩=some (.int .i64 F.k)∧w'.cell? ⟨fb,4,none⟩=some (.int .i64 F.a)∧w'.cell? ⟨fb,5,none⟩=some (.bool F.y)∧w'.cell? ⟨fb,6,none⟩=some (.int .i64 F.ph)∧w'.cell? ⟨fb,7,none⟩=some (.int .i64 F.pr)∧w'.cell? ⟨fb,8,none⟩=some (.int .i64 F.pa)
theorem reg14 {Q:Exit→Act→World→Prop} (a:Act) (w:World) (lb fb:Nat) (vh:Value) (F:F9) (n:Nat) (xs:List Value) (base:Nat) (hz:124<a.tmps.size) (h0:a.eval (.tmp 0)=.pointer (some ⟨lb,0,none⟩)) (h3:a.eval (.tmp 3)=.pointer (some ⟨fb,0,none⟩)) (hS:reg14S lb fb vh F w) (hlb:lb<w.heap.size) (hfb:fb<w.heap.size) (hvb:vh.ownBlock≠some lb) (hvf:vh.ownBlock≠some fb)
  (hown:w.ownsRow base 104 9 vh n xs) (hn:n≤1000000000000) (hb:base≤w.heap.size) (hQp:∀ c (d:Nat) v (a:Act) w,Q (.panic c) (a.put (some d) v) w→Q (.panic c) a w)
  (hQ:∀ a' ad' cap' w',w'.ownsRow base 104 9 (.slice ad' (n+1) cap') (n+1) (xs ++ f9L F)→(w.drew.alloc (.cells (f9L F).toArray 104)).grownBy w' vh.ownBlock→((Value.slice ad' (n+1) cap').ownBlock=vh.ownBlock ∨ (Value.slice ad' (n+1) cap').ownBlock=some (w.drew.alloc (.cells (f9L F).toArray 104)).heap.size) →
   a'=(((((((a.put (some 118) (.pointer (some ⟨lb,0,none⟩))).put (some 119) (.pointer (some ⟨lb,0,none⟩))).put (some 120) (.pointer (some ⟨lb,6,none⟩))).put (some 121) vh).put (some 122) (frV F.f F.t F.d F.k F.a F.y F.ph F.pr F.pa)).put (some 123) (.slice (some ⟨w.heap.size,0,none⟩) 1 1)).put (some 124) (.slice ad' (n+1) cap')).put (some 7) (.slice ad' (n+1) cap')→Q .normal a' w') :
  (Code.region 14 #[{ dst:=some 118,op:=Op.move (Operand.tmp 0),type:=188,pos:= "world.go:175",after:=#[],guard:=none },
   { dst:=some 119,op:=Op.nilCheck (Operand.tmp 118),type:=0,pos:= "world.go:175",after:=#[{ on:=0,ground:=Ground.data }],guard:=none },
   { dst:=some 120,op:=Op.fieldAddr 194 (Operand.tmp 119) 6,type:=0,pos:= "world.go:175",after:=#[{ on:=1,ground:=Ground.data }],guard:=none },
   { dst:=some 121,op:=Op.load 34 (Operand.tmp 120),type:=34,pos:= "world.go:175",after:=#[{ on:=2,ground:=Ground.data }],guard:=none },
   { dst:=some 122,op:=Op.load 104 (Operand.tmp 3),type:=104,pos:= "world.go:175",after:=#[],guard:=none },
   { dst:=some 123,op:=Op.buildSlice 34 1 #[(0,Operand.tmp 122)],type:=34,pos:= "world.go:175",after:=#[{ on:=4,ground:=Ground.data }],guard:=none },
   { dst:=some 124,op:=Op.call { callee:=Callee.builtin Builtin.append,args:=#[Operand.tmp 121,Operand.tmp 123],argTypes:=#[34,34] },type:=34,pos:= "world.go:175",after:=#[{ on:=3,ground:=Ground.data },{ on:=5,ground:=Ground.data }],guard:=none },
   { dst:=some 7,op:=Op.assign (Operand.tmp 124),type:=34,pos:= "world.go:175",after:=#[{ on:=6,ground:=Ground.data },{ on:=6,ground:=Ground.chain },{ on:=0,ground:=Ground.phase },{ on:=1,ground:=Ground.phase },{ on:=2,ground:=Ground.phase },{ on:=3,ground:=Ground.phase },{ on:=4,ground:=Ground.phase },{ on:=5,ground:=Ground.phase },{ on:=6,ground:=Ground.phase }],guard:=none }] true).wp Tryz.prog Q a w:=by
 refine wp_region_held_drew (S:=reg14S lb fb vh F) (by kernel_rfl) hS (fun hHeld=>?_)
 refine wpAnyH_take (i:=0) (oi:={ dst:=some 118,op:=Op.move (Operand.tmp 0),type:=188,pos:= "world.go:175",after:=#[],guard:=none }) (v:=(.pointer (some ⟨lb,0,none⟩))) rfl (by kernel_rfl) (by kernel_rfl) (by kernel_rfl) (fun c a w h=>hQp c _ _ a w h) (Or.inl ⟨by rfl,?_⟩) hHeld ?_
 ·intro w hSw
  unfold reg14S at hSw
  obtain ⟨s0,s1,s2,s3,s4,s5,s6,s7,s8,s9⟩:=hSw
  have e0:=eval_form h0
  clear hS hown hQ hQp
  go_simp
 change wpAnyH _ _ _ _ _ _ _ (Act.put a (some 118) (.pointer (some ⟨lb,0,none⟩))) _
 obtain ⟨a1,Ha1⟩:∃ x,Hid (x=Act.put a (some 118) (.pointer (some ⟨lb,0,none⟩))):=⟨_,rfl⟩
 rw [← Ha1.out]
 have z1:124<a1.tmps.size:=by rw [Ha1.out,Act.size_put]; exact hz
 have e118:a1.eval (.tmp 118)=(.pointer (some ⟨lb,0,none⟩)):=by rw [Ha1.out]; exact Act.eval_put_same _ _ _ (by have:=hz; omega)
 have g3_0:a1.eval (.tmp 3)=.pointer (some ⟨fb,0,none⟩):=by rw [Ha1.out,Act.eval_put_ne _ _ _ _ (by decide)]; exact h3
 refine wpAnyH_take (i:=1) (oi:={ dst:=some 119,op:=Op.nilCheck (Operand.tmp 118),type:=0,pos:= "world.go:175",after:=#[{ on:=0,ground:=Ground.data }],guard:=none }) (v:=(.pointer (some ⟨lb,0,none⟩))) rfl (by kernel_rfl) (by kernel_rfl) (by kernel_rfl) (fun c a w h=>hQp c _ _ a w h) (Or.inl ⟨by rfl,?_⟩) hHeld ?_
 ·intro w hSw
  unfold reg14S at hSw
  obtain ⟨s0,s1,s2,s3,s4,s5,s6,s7,s8,s9⟩:=hSw
  have e0:=eval_form e118
  clear hS hown hQ hQp
  go_simp
 change wpAnyH _ _ _ _ _ _ _ (Act.put a1 (some 119) (.pointer (some ⟨lb,0,none⟩))) _
 obtain ⟨a2,Ha2⟩:∃ x,Hid (x=Act.put a1 (some 119) (.pointer (some ⟨lb,0,none⟩))):=⟨_,rfl⟩
 rw [← Ha2.out]
 have z2:124<a2.tmps.size:=by rw [Ha2.out,Act.size_put]; exact z1
 have e119:a2.eval (.tmp 119)=(.pointer (some ⟨lb,0,none⟩)):=by rw [Ha2.out]; exact Act.eval_put_same _ _ _ (by have:=z1; omega)
 have g3_1:a2.eval (.tmp 3)=.pointer (some ⟨fb,0,none⟩):=by rw [Ha2.out,Act.eval_put_ne _ _ _ _ (by decide)]; exact g3_0
 refine wpAnyH_take (i:=2) (oi:={ dst:=some 120,op:=Op.fieldAddr 194 (Operand.tmp 119) 6,type:=0,pos:= "world.go:175",after:=#[{ on:=1,ground:=Ground.data }],guard:=none }) (v:=(.pointer (some ⟨lb,6,none⟩))) rfl (by kernel_rfl) (by kernel_rfl) (by kernel_rfl) (fun c a w h=>hQp c _ _ a w h) (Or.inl ⟨by rfl,?_⟩) hHeld ?_
 ·intro w hSw
  unfold reg14S at hSw
  obtain ⟨s0,s1,s2,s3,s4,s5,s6,s7,s8,s9⟩:=hSw
  have e0:=eval_form e119
  clear hS hown hQ hQp
  go_simp
 change wpAnyH _ _ _ _ _ _ _ (Act.put a2 (some 120) (.pointer (some ⟨lb,6,none⟩))) _
 obtain ⟨a3,Ha3⟩:∃ x,Hid (x=Act.put a2 (some 120) (.pointer (some ⟨lb,6,none⟩))):=⟨_,rfl⟩
 rw [← Ha3.out]
 have z3:124<a3.tmps.size:=by rw [Ha3.out,Act.size_put]; exact z2
 have e120:a3.eval (.tmp 120)=(.pointer (some ⟨lb,6,none⟩)):=by rw [Ha3.out]; exact Act.eval_put_same _ _ _ (by have:=z2; omega)
 have g3_2:a3.eval (.tmp 3)=.pointer (some ⟨fb,0,none⟩):=by rw [Ha3.out,Act.eval_put_ne _ _ _ _ (by decide)]; exact g3_1
 refine wpAnyH_take (i:=3) (oi:={ dst:=some 121,op:=Op.load 34 (Operand.tmp 120),type:=34,pos:= "world.go:175",after:=#[{ on:=2,ground:=Ground.data }],guard:=none }) (v:=vh) rfl (by kernel_rfl) (by kernel_rfl) (by kernel_rfl) (fun c a w h=>hQp c _ _ a w h) (Or.inl ⟨by rfl,?_⟩) hHeld ?_
 ·intro w hSw
  unfold reg14S at hSw
  obtain ⟨s0,s1,s2,s3,s4,s5,s6,s7,s8,s9⟩:=hSw
  have e0:=eval_form e120
  clear hS hown hQ hQp
  go_simp
 change wpAnyH _ _ _ _ _ _ _ (Act.put a3 (some 121) vh) _
 obtain ⟨a4,Ha4⟩:∃ x,Hid (x=Act.put a3 (some 121) vh):=⟨_,rfl⟩
 rw [← Ha4.out]
 have z4:124<a4.tmps.size:=by rw [Ha4.out,Act.size_put]; exact z3
 have e121:a4.eval (.tmp 121)=vh:=by rw [Ha4.out]; exact Act.eval_put_same _ _ _ (by have:=z3; omega)
 have e3:a4.eval (.tmp 3)=.pointer (some ⟨fb,0,none⟩):=by rw [Ha4.out,Act.eval_put_ne _ _ _ _ (by decide)]; exact g3_2
 refine wpAnyH_take (i:=4) (oi:={ dst:=some 122,op:=Op.load 104 (Operand.tmp 3),type:=104,pos:= "world.go:175",after:=#[],guard:=none }) (v:=(frV F.f F.t F.d F.k F.a F.y F.ph F.pr F.pa)) rfl (by kernel_rfl) (by kernel_rfl) (by kernel_rfl) (fun c a w h=>hQp c _ _ a w h) (Or.inl ⟨by rfl,?_⟩) hHeld ?_
 ·intro w hSw
  unfold reg14S at hSw
  obtain ⟨s0,s1,s2,s3,s4,s5,s6,s7,s8,s9⟩:=hSw
  have e0:=eval_form e3
  clear hS hown hQ hQp
  go_simp
 change wpAnyH _ _ _ _ _ _ _ (Act.put a4 (some 122) (frV F.f F.t F.d F.k F.a F.y F.ph F.pr F.pa)) _
 obtain ⟨a5,Ha5⟩:∃ x,Hid (x=Act.put a4 (some 122) (frV F.f F.t F.d F.k F.a F.y F.ph F.pr F.pa)):=⟨_,rfl⟩
 rw [← Ha5.out]
 have z5:124<a5.tmps.size:=by rw [Ha5.out,Act.size_put]; exact z4
 have e122:a5.eval (.tmp 122)=(frV F.f F.t F.d F.k F.a F.y F.ph F.pr F.pa):=by rw [Ha5.out]; exact Act.eval_put_same _ _ _ (by have:=z4; omega)
 have f121:a5.eval (.tmp 121)=vh:=by rw [Ha5.out,Act.eval_put_ne _ _ _ _ (by decide)]; exact e121
 obtain ⟨W2,HW2⟩:∃ W2,Hid (w.drew.alloc (.cells (f9L F).toArray 104)=W2):=⟨_,rfl⟩
 have HB2:Hid (Below w.heap.size w W2):=by rw [← HW2.out]; exact (Below.refl _ _).drew.alloc (Nat.le_refl _) _
 have HSf:Hid (∀ W,(∀ x,x<w.heap.size→vh.ownBlock≠some x→W.heap[x]? = w.heap[x]?)→reg14S lb fb vh F W):=by
  intro W hW
  have c1:=World.cell?_of_block (w:=w) (w':=W) (a:=⟨lb,6,none⟩) (hW lb hlb hvb)
  have c2:∀ j,W.cell? ⟨fb,j,none⟩=w.cell? ⟨fb,j,none⟩:=fun j=>World.cell?_of_block (w:=w) (w':=W) (a:=⟨fb,j,none⟩) (hW fb hfb hvf)
  unfold reg14S at hS ⊢
  rw [c1,c2,c2,c2,c2,c2,c2,c2,c2,c2]
  exact hS
 have HS2:Hid (reg14S lb fb vh F W2):=HSf.out W2 (fun x hx _=>HB2.out.block x hx)
 refine wpAnyH_ready (rs:=[5]) (by kernel_rfl) (by simp) ?_
 refine AllReadyH.cons (o:={ dst:=some 123,op:=Op.buildSlice 34 1 #[(0,Operand.tmp 122)],type:=34,pos:= "world.go:175",after:=#[{ on:=4,ground:=Ground.data }],guard:=none }) rfl (fun K hK=>?_) AllReadyH.nil
 have e0:=eval_form e122
 have hW2:=HW2.out
 have hW2':w.drew.alloc (.cells #[.int .i64 F.f,.int .i64 F.t,.int .i64 F.d,.int .i64 F.k,.int .i64 F.a,.bool F.y,.int .i64 F.ph,.int .i64 F.pr,.int .i64 F.pa] 104)=W2:=hW2
 have HQ:=hid hQ
 have HQp:=hid hQp
 have HOw:=hid hown
 have HS0:=hid hS
 clear hQ hQp hown hS hW2 hHeld
 go_simp
 refine hK.out _ _ HS2.out (fun hHeld=>?_)
 clear hK K
 change wpAnyH _ _ _ _ _ _ _ (Act.put a5 (some 123) (.slice (some ⟨w.heap.size,0,none⟩) 1 1)) _
 obtain ⟨a6,Ha6⟩:∃ x,Hid (x=Act.put a5 (some 123) (.slice (some ⟨w.heap.size,0,none⟩) 1 1)):=⟨_,rfl⟩
 rw [← Ha6.out]
 have z6:124<a6.tmps.size:=by rw [Ha6.out,Act.size_put]; exact z5
 have e123:a6.eval (.tmp 123)=.slice (some ⟨w.heap.size,0,none⟩) 1 1:=by rw [Ha6.out]; exact Act.eval_put_same _ _ _ (by have:=z5; omega)
 have g121:a6.eval (.tmp 121)=vh:=by rw [Ha6.out,Act.eval_put_ne _ _ _ _ (by decide)]; exact f121
 refine wpAnyH_ready (rs:=[6]) (by kernel_rfl) (by simp) ?_
 refine AllReadyH.cons (o:={ dst:=some 124,op:=Op.call { callee:=Callee.builtin Builtin.append,args:=#[Operand.tmp 121,Operand.tmp 123],argTypes:=#[34,34] },type:=34,pos:= "world.go:175",after:=#[{ on:=3,ground:=Ground.data },{ on:=5,ground:=Ground.data }],guard:=none }) rfl (fun K hK=>?_) AllReadyH.nil
 refine step_append_fr1 rfl (.tmp 121) (.tmp 123) rfl base n vh xs ⟨w.heap.size,0,none⟩ 1 F g121 e123 (own_later HOw.out HB2.out (Nat.le_refl _)) (by rw [← HW2.out]; exact lit_cellsQ w.drew 104 (f9L F)) hn (Nat.le_trans hb HB2.out.size) ?_
 intro ad' cap' w3 hown3 hg3 hat3
 refine hK.out _ _ (HSf.out w3 (fun x hx hne=>(hg3.block x (Nat.lt_of_lt_of_le hx HB2.out.size) (fun e=>hne e.symm)).trans (HB2.out.block x hx))) (fun hHeld=>?_)
 clear hK K
 obtain ⟨a7,Ha7⟩:∃ x,Hid (x=Act.put a6 (some 124) (.slice ad' (n+1) cap')):=⟨_,rfl⟩
 change wpAnyH _ _ _ _ _ _ _ (Act.put a6 (some 124) (.slice ad' (n+1) cap')) _
 rw [← Ha7.out]
 have e124:a7.eval (.tmp 124)=.slice ad' (n+1) cap':=by rw [Ha7.out]; exact Act.eval_put_same _ _ _ z6
 refine wpAnyH_take (i:=7) (oi:={ dst:=some 7,op:=Op.assign (Operand.tmp 124),type:=34,pos:= "world.go:175",after:=#[{ on:=6,ground:=Ground.data },{ on:=6,ground:=Ground.chain },{ on:=0,ground:=Ground.phase },{ on:=1,ground:=Ground.phase },{ on:=2,ground:=Ground.phase },{ on:=3,ground:=Ground.phase },{ on:=4,ground:=Ground.phase },{ on:=5,ground:=Ground.phase },{ on:=6,ground:=Ground.phase }],guard:=none }) (v:=.slice ad' (n+1) cap') rfl (by kernel_rfl) (by kernel_rfl) (by kernel_rfl) (fun c a w h=>HQp.out c _ _ a w h) (Or.inl ⟨by rfl,?_⟩) hHeld ?_
 ·intro w hSw
  have e0:=eval_form e124
  go_simp
 change wpAnyH _ _ _ _ _ _ _ (Act.put a7 (some 7) (.slice ad' (n+1) cap')) _
 refine wpAnyH_done (by kernel_rfl) ?_ _
 refine HQ.out _ ad' cap' w3 hown3 (by rw [HW2.out]; exact hg3) (by rw [HW2.out]; exact hat3) ?_
 rw [Ha7.out,Ha6.out,Ha5.out,Ha4.out,Ha3.out,Ha2.out,Ha1.out]
def InH (lb:Nat) (vh:Value) (k:Nat):Prop:=k=lb ∨ vh.ownBlock=some k
def yesR (zs:List Int) (id:Nat) (deal att:Int) (st:ByteArray) (k:Int) (hs:List F9) (ph:Int):List F9×ByteArray×Int×List F9×Int :=
 if k=2 then (if hs.length=zs.length then (sentL id deal 5 att 4 true zs.length,stB 1,6,[],4) else ([],st,k,hs,ph))
 else if enoughB zs (setTo hs zs.length)=false then ([],st,k,hs,ph)
 else if k=6 then (sentL id deal 7 att (afterI ph) true zs.length,stB 2,0,hs,ph)
 else if (refL (toldTo hs zs.length)).2=true then (sentL id deal 7 att (refL (toldTo hs zs.length)).1 true zs.length,stB 2,0,hs,ph)
 else (sentL id deal 5 att (refL (toldTo hs zs.length)).1 true zs.length,stB 1,6,[],(refL (toldTo hs zs.length)).1)
structure HY (w W:World) (lb id n cap:Nat) (deal att:Int) (aw:Option Addr) (st:ByteArray) (k:Int) (vh v7:Value) (hs':List F9) (ph sn:Int) (f:Nat) (p1 p2 p3:Int):Prop where
 row:W.heap[lb]? = some (.cells (rlC id deal att (.slice aw n cap) st k vh ph sn) 194 (0,0))
 own:W.ownsRow (lb+1) 104 9 v7 hs'.length (frCells hs')
 fr:FIn w W f id deal k att true p1 p2 p3
 kp:Kept (InH lb vh) w W
 nb:∀ g,v7.ownBlock=some g→vh.ownBlock=some g ∨ w.heap.size≤g
theorem HY.made {w X W2 w5:World} {lb id n cap:Nat} {deal att:Int} {aw:Option Addr} {st:ByteArray} {k:Int} {vh v7:Value} {hs hs':List F9} {ph sn:Int} {f:Nat} {p1 p2 p3:Int} (h:HL w X lb id n cap deal att aw st k vh hs ph sn f k true p1 p2 p3) (hb:Below X.heap.size X W2)
  (ho:w5.ownsRow (lb+1) 104 9 v7 hs'.length (frCells hs')) (hg:W2.grownBy w5 vh.ownBlock) (hat:v7.ownBlock=vh.ownBlock ∨ v7.ownBlock=some W2.heap.size) (how:w.ownsRow (lb+1) 104 9 vh hs.length (frCells hs)) :
  HY w w5 lb id n cap deal att aw st k vh v7 hs' ph sn f p1 p2 p3:=by
 have h2:=h.later hb
 have hsz:X.heap.size≤W2.heap.size:=hb.size
 have hlt:=how.lt
 have keep:∀ i,i<W2.heap.size→vh.ownBlock≠some i→w5.heap[i]? = W2.heap[i]?:=fun i hi hne=>hg.block i hi (fun e=>hne e.symm)
 refine ⟨?_,ho,⟨?_⟩,?_,?_⟩
 ·rw [keep lb (row_ltJ h2.ld.row) (fun e=>by have:=(hlt lb e).1; omega)]; exact h2.ld.row
 ·rw [keep w.heap.size (row_ltJ h2.fr.row) (fun e=>by have:=(hlt _ e).2; omega)]; exact h2.fr.row
 ·have k1:Kept (InH lb vh) w W2:=h2.kp.mono (fun i e=>.inl e)
  exact k1.trans ⟨hg.os,hg.tape,hg.output,hg.size,fun i hi hn=>keep i hi (fun e=>hn (.inr e))⟩
 ·intro g hgg
  rcases hat with q|q
  ·exact .inl (q ▸ hgg)
  ·rw [q] at hgg
   have e:W2.heap.size=g:=by simpa using hgg
   have:=h.kp.size
   exact .inr (by omega)
theorem snoc_cells {hs hs':List F9} {x:F9} (h:hs ++ [x]=hs'):hs'.length=hs.length+1∧frCells hs'=frCells hs ++ f9L x:=by
 subst h
 exact ⟨by simp,by rw [frCells_append]; rfl⟩
structure HZ (w W:World) (lb id n cap:Nat) (deal att:Int) (aw:Option Addr) (st:ByteArray) (k:Int) (vh v7:Value) (hs':List F9) (ph sn:Int) (f:Nat) (p1 p2 p3:Int):Prop where
 ld:RLd W lb id n cap deal att aw st k v7 hs' ph sn
 fr:FIn w W f id deal k att true p1 p2 p3
 kp:Kept (InH lb vh) w W
 nb:∀ g,v7.ownBlock=some g→vh.ownBlock=some g ∨ w.heap.size≤g
theorem HZ.later {w W V:World} {lb id n cap:Nat} {deal att:Int} {aw:Option Addr} {st:ByteArray} {k:Int} {vh v7:Value} {hs':List F9} {ph sn:Int} {f:Nat} {p1 p2 p3:Int} (h:HZ w W lb id n cap deal att aw st k vh v7 hs' ph sn f p1 p2 p3) (hb:Below W.heap.size W V):HZ w V lb id n cap deal att aw st k vh v7 hs' ph sn f p1 p2 p3 :=
 ⟨h.ld.later hb,h.fr.later hb,h.kp.trans (Kept.of_below hb),h.nb⟩
theorem HY.stored {w W:World} {lb id n cap:Nat} {deal att:Int} {aw:Option Addr} {st:ByteArray} {k:Int} {vh v7:Value} {hs':List F9} {ph sn:Int} {f:Nat} {p1 p2 p3:Int} (h:HY w W lb id n cap deal att aw st k vh v7 hs' ph sn f p1 p2 p3) (hlb:lb<w.heap.size):HZ w (W.setCell ⟨lb,6,none⟩ v7) lb id n cap deal att aw st k vh v7 hs' ph sn f p1 p2 p3:=by
 have hk:Kept (In1 lb) W (W.setCell ⟨lb,6,none⟩ v7):=(Kept.refl _ W).set1 6 v7
 refine ⟨⟨?_,?_⟩,⟨hk.row h.fr.row (fun e=>by have:w.heap.size=lb:=e; omega)⟩,h.kp.trans (hk.mono fun x hx=>.inl hx),h.nb⟩
 ·rw [heap_setCell_same W lb 6 _ _ _ h.row]; rfl
 ·refine ⟨h.own.1,?_⟩
  rcases h.own.2 with hn|⟨g,cp,cur,rfl,hb',hgg,rest⟩
  ·exact .inl hn
  ·exact .inr ⟨g,cp,cur,rfl,hb',hk.row hgg (fun e=>by have:g=lb:=e; omega),rest⟩
section
variable {w:World} {lb id n cap:Nat} {deal att:Int} {st:ByteArray} {vh:Value} {hs:List F9} {ph seen:Int}
theorem rlhear_yes (vb vo:Nat) (zs:List Int) (f:Nat) (k:Int) (p1 p2 p3 sn:Int) (R:List F9×ByteArray×Int×List F9×Int) (hs':List F9) (hhs:hs ++ [⟨f,id,deal,k,att,true,p1,p2,p3⟩]=hs') (h:RLd w lb id n cap deal att (some ⟨vb,vo,none⟩) st k vh hs ph seen) (hl:hs.length≤60) (hk:k=2 ∨ k=4 ∨ k=6) (hf:f<n) (hx:fromL hs f=none) (hzn:zs.length=n) (he:errW zs=0)
  (hvc:∀ i,i<zs.length→w.cell? ⟨vb,vo+i,none⟩=some (.int .i64 (zs.getD i 0))) (hvl:vb≠lb) (hvh:vh.ownBlock≠some vb) (hsn:(if k≠2∧seen<p2 then p2 else seen)=sn)
  (hR:yesR zs id deal att st k hs' ph=R) :
  Calls Tryz.prog 126 #[.pointer (some ⟨lb,0,none⟩),frV f id deal k att true p1 p2 p3] w fun e w'=>∃ v vh',e=.returned v∧IsFr w' v R.1∧RLd w' lb id n cap deal att (some ⟨vb,vo,none⟩) R.2.1 R.2.2.1 vh' R.2.2.2.1 R.2.2.2.2 sn∧Kept (InH lb vh) w w'∧∀ g,vh'.ownBlock=some g→vh.ownBlock=some g ∨ w.heap.size≤g:=by
 have hn7:n≤7:=by rw [← hzn]; exact (errW_zero he).2.1
 have HOk:Hid (okTo zs zs.length):=(errW_zero he).2.2.1
 have HVC:=hid hvc
 have HR:=hid hR
 have HOw:=hid h.own
 have HS2:=hid (snoc_cells hhs)
 clear hvc hR hhs
 obtain ⟨W,HW⟩:∃ W,Hid (w.alloc (.cells #[.int .i64 (f:Int),.int .i64 (id:Int),.int .i64 deal,.int .i64 k,.int .i64 att,.bool true,.int .i64 p1,.int .i64 p2,.int .i64 p3] 104)=W):=⟨_,rfl⟩
 have HB:Hid (Below w.heap.size w W):=by rw [← HW.out]; exact (Below.refl _ _).alloc (Nat.le_refl _) _
 have hlbw:lb<w.heap.size:=row_ltJ h.row
 have HI:Hid (HL w W lb id n cap deal att (some ⟨vb,vo,none⟩) st k vh hs ph seen f k true p1 p2 p3):=⟨h.later HB.out,by rw [← HW.out]; exact ⟨heap_alloc_new w _⟩,Kept.of_below HB.out⟩
 obtain ⟨b0,b1,b2,b3,b4,b5,b6,b7,b8⟩:=nine HI.out.fr.row
 obtain ⟨c0,c1,c2,c3,c4,c5,c6,c7,c8⟩:=HI.out.ld.cells
 have hW:=HW.out
 have e0:(k == 0)=false:=beq_eq_false_iff_ne.2 (by omega)
 have f7:¬ (n:Int)≤(f:Int):=by omega
 have HX:=hid hx
 clear h hx
 go_enter Tryz.func126,Tryz.ntmps126
 go_wp2_with fail
 go_quiet (fail)
 have HB2:=hid (below_drewN (Below.refl W.heap.size W) nq)
 generalize W.drewN nq=V at HB2 ⊢
 have HI2:=hid (HI.out.later HB2.out)
 clear b0 b1 b2 b3 b4 b5 b6 b7 b8 c0 c1 c2 c3 c4 c5 c6 c7 c8 HI HB2 hW HW HB e0 f7
 obtain ⟨b0,b1,b2,b3,b4,b5,b6,b7,b8⟩:=nine HI2.out.fr.row
 go_wp2_with fail
 refine (rlfrom_any lb id n cap deal att (some ⟨vb,vo,none⟩) st k vh hs ph seen f _ HI2.out.ld (by omega)).mono ?_
 rw [HX.out,frO_none]
 simp only [Option.isSome]
 rintro e w1 ⟨rfl,hb1⟩
 have HI3:=hid ((HI2.out.later hb1).later ((Below.refl _ _).alloc (Nat.le_refl _) (.cells #[.int .i64 0,.int .i64 0,.int .i64 0,.int .i64 0,.int .i64 0,.bool false,.int .i64 0,.int .i64 0,.int .i64 0] 104)))
 clear hb1
 obtain ⟨X,HXw⟩:∃ X,Hid (w1.alloc (.cells #[.int .i64 0,.int .i64 0,.int .i64 0,.int .i64 0,.int .i64 0,.bool false,.int .i64 0,.int .i64 0,.int .i64 0] 104)=X):=⟨_,rfl⟩
 rw [HXw.out] at HI3
 clear b0 b1 b2 b3 b4 b5 b6 b7 b8 HI2
 obtain ⟨b0,b1,b2,b3,b4,b5,b6,b7,b8⟩:=nine HI3.out.fr.row
 obtain ⟨c0,c1,c2,c3,c4,c5,c6,c7,c8⟩:=HI3.out.ld.cells
 have z8:=HI3.out.ld.fz 8
 have HSn:=hid hsn
 clear hsn
 obtain ⟨bb,HBB⟩:∃ b:Bool,Hid (decide (k≠2∧seen<p2)=b):=⟨_,hid (Eq.refl _)⟩
 go_upto_region 13 with fail
 rw [HXw.out]
 go_cut [92] from 16 (fun s92 wx=>s92=.bool bb∧Below X.heap.size X wx)
 case first =>
  as_aux_lemma =>
   by_cases g1:k=2
   ·have hb:bb=false:=by rw [← HBB.out]; exact decide_eq_false (fun x=>x.1 g1)
    subst hb
    subst g1
    go_quiet (fail)
    go_wp2_with fail
    go_meet
    exact ⟨rfl,below_drewN (Below.refl _ _) _⟩
   ·have e1:(k != 2)=true:=bne_iff_ne.2 g1
    by_cases g2:seen<p2
    ·have hb:bb=true:=by rw [← HBB.out]; exact decide_eq_true ⟨g1,g2⟩
     subst hb
     go_quiet (fail)
     go_wp2_with fail
     go_meet
     exact ⟨rfl,below_drewN (Below.refl _ _) _⟩
    ·have hb:bb=false:=by rw [← HBB.out]; exact decide_eq_false (fun x=>g2 x.2)
     subst hb
     go_quiet (fail)
     go_wp2_with fail
     go_meet
     exact ⟨rfl,below_drewN (Below.refl _ _) _⟩
 obtain ⟨rfl,hbx⟩:=hcut
 rename_i wc
 have HI4:=hid (HI3.out.later hbx)
 clear hbx b0 b1 b2 b3 b4 b5 b6 b7 b8 c0 c1 c2 c3 c4 c5 c6 c7 c8 z8 HI3 HXw
 generalize wc=X2 at *
 obtain ⟨b0,b1,b2,b3,b4,b5,b6,b7,b8⟩:=nine HI4.out.fr.row
 obtain ⟨c0,c1,c2,c3,c4,c5,c6,c7,c8⟩:=HI4.out.ld.cells
 have z8:=HI4.out.ld.fz 8
 go_upto_if 92 with fail
 go_cut [] from 16 (fun wx=>HL w wx lb id n cap deal att (some ⟨vb,vo,none⟩) st k vh hs ph sn f k true p1 p2 p3)
 case first =>
  as_aux_lemma =>
   cases bb with
   | true =>
    have hq:=of_decide_eq_true HBB.out
    have HSe:Hid (sn=p2):=by unfold Hid; rw [← HSn.out]; exact if_pos hq
    go_wp2_with fail
    go_meet
    rw [HSe.out]
    exact HI4.out.setSeen hlbw p2
   | false =>
    have hq:=of_decide_eq_false HBB.out
    have HSe:Hid (sn=seen):=by unfold Hid; rw [← HSn.out]; exact if_neg hq
    go_wp2_with fail
    go_meet
    rw [HSe.out]
    exact HI4.out
 rename_i wc
 have HI5:=hid hcut
 clear hcut HI4 b0 b1 b2 b3 b4 b5 b6 b7 b8 c0 c1 c2 c3 c4 c5 c6 c7 c8 z8
 generalize wc=X3 at *
 obtain ⟨b0,b1,b2,b3,b4,b5,b6,b7,b8⟩:=nine HI5.out.fr.row
 obtain ⟨c0,c1,c2,c3,c4,c5,c6,c7,c8⟩:=HI5.out.ld.cells
 obtain ⟨i0,hi,hz0,hz1,hz2⟩:=info_parts Tryz.infoFr
 have hlb5:lb<X3.heap.size:=row_ltJ HI5.out.ld.row
 go_upto_if 106 with fail
 iterate 3 go_step
 go_upto_if 111 with fail
 iterate 5 go_step
 go_cut [7] from 16 (fun s7 wx=>HY w wx lb id n cap deal att (some ⟨vb,vo,none⟩) st k vh s7 hs' ph sn f p1 p2 p3)
 case first =>
  as_aux_lemma =>
   obtain ⟨W2,HW2⟩:∃ W2,Hid (X3.drew.alloc (.cells (f9L ⟨f,id,deal,k,att,true,p1,p2,p3⟩).toArray 104)=W2):=⟨_,rfl⟩
   have HB2:Hid (Below X3.heap.size X3 W2):=by rw [← HW2.out]; exact (Below.refl _ _).drew.alloc (Nat.le_refl _) _
   have HMade:Hid (∀ ad' cap' w',w'.ownsRow (lb+1) 104 9 (.slice ad' (hs.length+1) cap') (hs.length+1) (frCells hs ++ f9L ⟨f,id,deal,k,att,true,p1,p2,p3⟩)→W2.grownBy w' vh.ownBlock→((Value.slice ad' (hs.length+1) cap').ownBlock=vh.ownBlock ∨ (Value.slice ad' (hs.length+1) cap').ownBlock=some W2.heap.size)→HY w w' lb id n cap deal att (some ⟨vb,vo,none⟩) st k vh (.slice ad' (hs.length+1) cap') hs' ph sn f p1 p2 p3):=by
    intro ad' cap' w' q1 q2 q3
    exact HY.made HI5.out HB2.out (by rw [HS2.out.1,HS2.out.2]; exact q1) q2 q3 HOw.out
   refine reg14 _ X3 lb w.heap.size vh ⟨f,id,deal,k,att,true,p1,p2,p3⟩ hs.length (frCells hs) (lb+1) (by simp) rfl rfl (by unfold reg14S; exact ⟨c6,b0,b1,b2,b3,b4,b5,b6,b7,b8⟩) hlb5 (row_ltJ HI5.out.fr.row) (fun e=>by have:=(HOw.out.lt lb e).1; omega) (fun e=>by have:=(HOw.out.lt _ e).2; omega) HI5.out.ld.own (by omega) hlb5 (fun _ _ _ _ _ h=>h) ?_
   intro a' ad' cap' w' q1 q2 q3 ha'
   rw [HW2.out] at q2 q3
   have HQ5:=hid (HMade.out ad' cap' w' q1 q2 q3)
   subst ha'
   clear q1 q2 q3
   simp only [Act.put,List.setIfInBounds_toArray,List.set_cons_zero,List.set_cons_succ]
   go_wp2_with fail
   go_meet
   exact HQ5.out
 rename_i wc
 have HI6:=hid hcut
 clear hcut HI5 b0 b1 b2 b3 b4 b5 b6 b7 b8 c0 c1 c2 c3 c4 c5 c6 c7 c8
 generalize wc=X4 at *
 have c6:X4.cell? ⟨lb,6,none⟩=some vh:=by rw [cell_of_row _ _ _ _ _ _ HI6.out.row]; rfl
 have z6:=frozen_of_row X4 lb 6 _ _ HI6.out.row
 obtain ⟨ad7,cap7,hu7⟩:∃ ad cp,u7=Value.slice ad hs'.length cp:=by
  rcases HI6.out.own.2 with ⟨e,h0⟩|⟨g',cap',cur',e,-⟩
  ·exact ⟨none,0,by rw [e,h0]⟩
  ·exact ⟨_,_,e⟩
 subst hu7
 obtain ⟨X5,HX5⟩:∃ X5,Hid (X4.setCell ⟨lb,6,none⟩ (.slice ad7 hs'.length cap7)=X5):=⟨_,rfl⟩
 have HI7:Hid (HZ w X5 lb id n cap deal att (some ⟨vb,vo,none⟩) st k vh (.slice ad7 hs'.length cap7) hs' ph sn f p1 p2 p3):=by rw [← HX5.out]; exact HI6.out.stored hlbw
 have hX5:=HX5.out
 have hs61:hs'.length≤61:=by rw [HS2.out.1]; omega
 have H0:Hid (X5.ownsRow X5.heap.size 43 3 (.slice none 0 0) (toldTo hs' 0).length (stCells (toldTo hs' 0))∧Below X5.heap.size X5 X5):=⟨World.ownsRow_nil _ _ _ _,Below.refl _ _⟩
 go_wp2_with fail
 clear c6 z6
 go_loopw [8,9,10] (fun s8 s9 s10 wr=>∃ i:Nat,i≤n∧s8=.int .i64 (setTo hs' i)∧s10=.int .i64 (i:Int)∧Hid (wr.ownsRow X5.heap.size 43 3 s9 (toldTo hs' i).length (stCells (toldTo hs' i))∧Below X5.heap.size X5 wr)) (fun _ _ i _=>n - (intOf i).toNat)
 case atStart=>exact ⟨0,Nat.zero_le _,rfl,rfl,H0.out⟩
 case round =>
  obtain ⟨i,hi,rfl,rfl,HR7⟩:=hrel
  have HI8:=hid (HI7.out.later HR7.out.2)
  obtain ⟨c0,c1,c2,c3,c4,c5,c6,c7,c8⟩:=HI8.out.ld.cells
  have hbd:=setTo_bd hs' i
  by_cases hlt:i<n
  ·have hlt2:(i:Int)<(n:Int):=by omega
   have HFr:=hid (rlfrom_any lb id n cap deal att (some ⟨vb,vo,none⟩) st k (.slice ad7 hs'.length cap7) hs' ph sn (i:Int) wr HI8.out.ld (by omega))
   cases hfi:fromL hs' (i:Int) with
   | none =>
    rw [hfi,frO_none] at HFr
    have HSt:Hid (setTo hs' (i+1)=setTo hs' i∧toldTo hs' (i+1)=toldTo hs' i):=by
     constructor
     ·show (if (fromL hs' (i:Int)).isSome=true then _ else _)=_
      rw [hfi]; rfl
     ·show (match fromL hs' (i:Int) with|none=>_|some y=>_)=_
      rw [hfi]
    go_wp2_with fail
    refine HFr.out.mono ?_
    simp only [Option.isSome]
    rintro e w1 ⟨rfl,hb1⟩
    have HB1:Hid (Below wr.heap.size wr (w1.alloc (.cells #[.int .i64 0,.int .i64 0,.int .i64 0,.int .i64 0,.int .i64 0,.bool false,.int .i64 0,.int .i64 0,.int .i64 0] 104))):=hb1.alloc hb1.size _
    have HN:Hid ((w1.alloc (.cells #[.int .i64 0,.int .i64 0,.int .i64 0,.int .i64 0,.int .i64 0,.bool false,.int .i64 0,.int .i64 0,.int .i64 0] 104)).ownsRow X5.heap.size 43 3 u9 (toldTo hs' (i+1)).length (stCells (toldTo hs' (i+1)))∧Below X5.heap.size X5 (w1.alloc (.cells #[.int .i64 0,.int .i64 0,.int .i64 0,.int .i64 0,.int .i64 0,.bool false,.int .i64 0,.int .i64 0,.int .i64 0] 104))):=by
     rw [HSt.out.2]; exact ⟨own_later HR7.out.1 HB1.out (Nat.le_refl _),below_trans HR7.out.2 HB1.out⟩
    have HS1:=hid HSt.out.1
    clear hb1
    go_wp2_with fail
    go_roundw
    case rel=>exact ⟨i+1,by omega,by rw [HS1.out],by go_num,HN.out⟩
    case measure=>simp [intOf]; omega
   | some y =>
    obtain ⟨yf,yt,yd,yk,ya,yy,yh,yp,yq⟩:=y
    rw [hfi,show frO (some ⟨yf,yt,yd,yk,ya,yy,yh,yp,yq⟩)=frV yf yt yd yk ya yy yh yp yq from rfl] at HFr
    have HSt:Hid (setTo hs' (i+1)=setTo hs' i+2 ^ i∧toldTo hs' (i+1)=toldTo hs' i ++ [⟨yh,yp,yq⟩]):=by
     constructor
     ·show (if (fromL hs' (i:Int)).isSome=true then _ else _)=_
      rw [hfi]; rfl
     ·show (match fromL hs' (i:Int) with|none=>_|some y=>_)=_
      rw [hfi]
    have hp7:(2:Int) ^ i≤64:=by
     have h1:(2:Nat) ^ i≤2 ^ 6:=Nat.pow_le_pow_right (by decide) (by omega)
     have h2:((2 ^ i:Nat):Int)≤((2 ^ 6:Nat):Int):=by exact_mod_cast h1
     simpa using h2
    have hp0:(0:Int)≤2 ^ i:=by
     have:(0:Int)≤((2 ^ i:Nat):Int):=Int.natCast_nonneg _
     simpa using this
    obtain ⟨S,HSs⟩:∃ S,Hid (setTo hs' i=S):=⟨_,rfl⟩
    obtain ⟨T,HTt⟩:∃ T,Hid ((2:Int) ^ i=T):=⟨_,rfl⟩
    rw [HSs.out,HTt.out] at hbd
    rw [HTt.out] at hp7 hp0
    have hw1:IntKind.i64.wrap (S+T)=S+T:=by rw [IntKind.wrap_i64]; omega
    have HTw:=hid (two_any i)
    rw [HSs.out]
    go_wp2_with fail
    refine HFr.out.mono ?_
    simp only [Option.isSome]
    rintro e w1 ⟨rfl,hb1⟩
    obtain ⟨W2,HW2⟩:∃ W2,Hid (w1.alloc (.cells #[.int .i64 yf,.int .i64 yt,.int .i64 yd,.int .i64 yk,.int .i64 ya,.bool yy,.int .i64 yh,.int .i64 yp,.int .i64 yq] 104)=W2):=⟨_,rfl⟩
    have HB2:Hid (Below w1.heap.size w1 W2):=by rw [← HW2.out]; exact (Below.refl _ _).alloc (Nat.le_refl _) _
    have HR2:Hid (W2.heap[w1.heap.size]? = some (.cells #[.int .i64 yf,.int .i64 yt,.int .i64 yd,.int .i64 yk,.int .i64 ya,.bool yy,.int .i64 yh,.int .i64 yp,.int .i64 yq] 104 (0,0))):=by rw [← HW2.out]; exact heap_alloc_new w1 _
    obtain ⟨q0,q1,q2,q3,q4,q5,q6,q7,q8⟩:=nine HR2.out
    have hW2:=HW2.out
    have HBx:=hid (below_trans hb1 HB2.out)
    obtain ⟨W3,HW3⟩:∃ W3,Hid (W2.alloc (.cells #[.int .i64 yh,.int .i64 yp,.int .i64 yq] 43)=W3):=⟨_,rfl⟩
    have HB3:Hid (Below W2.heap.size W2 W3):=by rw [← HW3.out]; exact (Below.refl _ _).alloc (Nat.le_refl _) _
    have hs2:W2.heap.size=w1.heap.size+1:=by rw [← HW2.out]; simp
    have HSL:Hid (SL W3 (some ⟨w1.heap.size+1,0,none⟩) [⟨yh,yp,yq⟩]):=fun j hj=>by
     rw [← hs2]
     obtain rfl:j=0:=by simp at hj; omega
     have hr3:W3.heap[W2.heap.size]? = some (.cells #[.int .i64 yh,.int .i64 yp,.int .i64 yq] 43 (0,0)):=by rw [← HW3.out]; exact heap_alloc_new W2 _
     exact ⟨_,_,rfl,by rw [cell_of_row _ _ _ _ _ _ hr3]; rfl,by rw [cell_of_row _ _ _ _ _ _ hr3]; rfl,by rw [cell_of_row _ _ _ _ _ _ hr3]; rfl⟩
    have HB23:=hid (below_trans HBx.out HB3.out)
    have HO3:=hid (own_later HR7.out.1 HB23.out (Nat.le_refl _))
    have hbs:X5.heap.size≤W3.heap.size:=Nat.le_trans HR7.out.2.size HB23.out.size
    have htl:=toldTo_le hs' i
    have hW3:=HW3.out
    clear hb1
    go_wp2_with fail
    refine (HTw.out _ (by omega)).mono ?_
    rintro e w4 ⟨rfl,hx⟩
    subst w4
    rw [HTt.out]
    go_wp2_with (at_builtin; refine wp_append_states rfl _ _ rfl X5.heap.size _ (toldTo hs' i) rfl HO3.out (some ⟨w1.heap.size+1,0,none⟩) 1 1 [⟨yh,yp,yq⟩] rfl rfl (fun x=>by cases x) HSL.out (by omega) (by simp) hbs ?_)
    intro v' w5 hown hb5
    have HN:Hid (w5.ownsRow X5.heap.size 43 3 v' (toldTo hs' (i+1)).length (stCells (toldTo hs' (i+1)))∧Below X5.heap.size X5 w5):=by
     rw [HSt.out.2,List.length_append]; exact ⟨hown,(below_trans HR7.out.2 HB23.out).trans hb5⟩
    have HS1:Hid (S+T=setTo hs' (i+1)):=by rw [HSt.out.1,HSs.out,HTt.out]; exact rfl
    clear hown hb5
    go_wp2_with fail
    go_roundw
    case rel=>exact ⟨i+1,by omega,by rw [HS1.out],by go_num,HN.out⟩
    case measure=>simp [intOf]; omega
  ·obtain rfl:i=n:=by omega
   have hlt2:¬ ((i:Int)<(i:Int)):=by omega
   obtain ⟨adS,capS,hu9,-,hsl⟩:=SL.owned HR7.out.1
   subst hu9
   have HSL:=hid hsl
   have htl:=toldTo_le hs' i
   obtain ⟨b0,b1,b2,b3,b4,b5,b6,b7,b8⟩:=nine HI8.out.fr.row
   obtain ⟨nh,HNh⟩:∃ nh,Hid (hs'.length=nh):=⟨_,rfl⟩
   have HNil:Hid (∀ w',Below wr.heap.size wr w'→R=([],st,k,hs',ph)→∃ vh',IsFr w' (.slice none 0 0) R.1∧RLd w' lb id i cap deal att (some ⟨vb,vo,none⟩) R.2.1 R.2.2.1 vh' R.2.2.2.1 R.2.2.2.2 sn∧Kept (InH lb vh) w w'∧∀ g,vh'.ownBlock=some g→vh.ownBlock=some g ∨ w.heap.size≤g):=by
    intro w' hb hR
    rw [hR]
    have h9:=HI8.out.later hb
    exact ⟨_,IsFr.zero w',h9.ld,h9.kp,h9.nb⟩
   have HDec:Hid (∀ p v w',R=(sentL id deal 7 att p true i,stB 2,0,hs',ph)→IsFr w' v (sentL id deal 7 att p true i)→RLd w' lb id i cap deal att (some ⟨vb,vo,none⟩) (stB 2) 0 (.slice ad7 hs'.length cap7) hs' ph sn→Kept (In1 lb) wr w'→∃ vh',IsFr w' v R.1∧RLd w' lb id i cap deal att (some ⟨vb,vo,none⟩) R.2.1 R.2.2.1 vh' R.2.2.2.1 R.2.2.2.2 sn∧Kept (InH lb vh) w w'∧∀ g,vh'.ownBlock=some g→vh.ownBlock=some g ∨ w.heap.size≤g):=by
    intro p v w' hR q1 q2 q3
    rw [hR]
    exact ⟨_,q1,q2,HI8.out.kp.trans (q3.mono fun x hx=>.inl hx),HI8.out.nb⟩
   have HPre:Hid (∀ p v w',R=(sentL id deal 5 att p true i,stB 1,6,[],p)→IsFr w' v (sentL id deal 5 att p true i)→RLd w' lb id i cap deal att (some ⟨vb,vo,none⟩) (stB 1) 6 (.slice none 0 0) [] p sn→Kept (In1 lb) wr w'→∃ vh',IsFr w' v R.1∧RLd w' lb id i cap deal att (some ⟨vb,vo,none⟩) R.2.1 R.2.2.1 vh' R.2.2.2.1 R.2.2.2.2 sn∧Kept (InH lb vh) w w'∧∀ g,vh'.ownBlock=some g→vh.ownBlock=some g ∨ w.heap.size≤g):=by
    intro p v w' hR q1 q2 q3
    rw [hR]
    exact ⟨_,q1,q2,HI8.out.kp.trans (q3.mono fun x hx=>.inl hx),fun g hg=>by cases hg⟩
   rw [HNh.out] at c6
   clear hsl
   rcases hk with rfl|hk46
   ·by_cases hnn:nh=i
    ·have HRv:Hid (R=(sentL id deal 5 att 4 true i,stB 1,6,[],4)):=by
      rw [← HR.out]
      show (if (2:Int)=2 then (if hs'.length=zs.length then _ else _) else _)=_
      rw [if_pos rfl,if_pos (by rw [HNh.out,hzn]; exact hnn),hzn]
     have e1:((nh:Int) == (i:Int))=true:=by rw [hnn]; exact beq_self_eq_true _
     go_wp2_with fail
     go_quiet (fail)
     have HPr:=hid (rlprepare_any 4 (HI8.out.later (below_drewN (Below.refl wr.heap.size wr) nq)).ld (by omega))
     have HBq:=hid (below_drewN (Below.refl wr.heap.size wr) nq)
     generalize wr.drewN nq=wq at HPr HBq ⊢
     go_wp2_with fail
     refine HPr.out.mono ?_
     rintro e w7 ⟨v7,rfl,y1,y2,y3⟩
     have HY7:=hid (HPre.out 4 v7 w7 HRv.out y1 y2 ((Kept.of_below HBq.out).trans y3))
     clear y1 y2 y3
     go_wp2_with fail
     go_ret
     obtain ⟨vh',t1,t2,t3,t4⟩:=HY7.out
     first|exact ⟨v7,vh',rfl,t1,t2,t3,t4⟩|exact ⟨v7,rfl,t1,vh',t2,t3,t4⟩|exact ⟨v7,rfl,vh',t1,t2,t3,t4⟩|exact ⟨rfl,vh',t1,t2,t3,t4⟩|exact ⟨t1,vh',t2,t3,t4⟩|exact ⟨vh',t1,t2,t3,t4⟩
    ·have HRv:Hid (R=([],st,2,hs',ph)):=by
      rw [← HR.out]
      show (if (2:Int)=2 then (if hs'.length=zs.length then _ else _) else _)=_
      rw [if_pos rfl,if_neg (by rw [HNh.out,hzn]; exact hnn)]
     have e1:((nh:Int) == (i:Int))=false:=beq_eq_false_iff_ne.2 (by omega)
     go_wp2_with fail
     go_quiet (fail)
     have HY7:=hid (HNil.out _ (below_drewN (Below.refl wr.heap.size wr) nq) HRv.out)
     go_wp2_with fail
     go_ret
     obtain ⟨vh',t1,t2,t3,t4⟩:=HY7.out
     first|exact ⟨.slice none 0 0,vh',rfl,t1,t2,t3,t4⟩|exact ⟨.slice none 0 0,rfl,t1,vh',t2,t3,t4⟩|exact ⟨.slice none 0 0,rfl,vh',t1,t2,t3,t4⟩|exact ⟨rfl,vh',t1,t2,t3,t4⟩|exact ⟨t1,vh',t2,t3,t4⟩|exact ⟨vh',t1,t2,t3,t4⟩
   ·have k2:(k == 2)=false:=beq_eq_false_iff_ne.2 (by omega)
    have hsb:=setTo_bd hs' i
    have hp7:(2:Int) ^ i≤128:=by
     have h1:(2:Nat) ^ i≤2 ^ 7:=Nat.pow_le_pow_right (by decide) (by omega)
     have h2:((2 ^ i:Nat):Int)≤((2 ^ 7:Nat):Int):=by exact_mod_cast h1
     simpa using h2
    have HVw:Hid (∀ j,j<zs.length→wr.cell? ⟨vb,vo+j,none⟩=some (.int .i64 (zs.getD j 0))):=fun j hj=>cell_kept (HVC.out j hj) HI8.out.kp (fun e=>by rcases e with e|e; exact hvl e; exact hvh e)
    obtain ⟨S,HSs⟩:∃ S,Hid (setTo hs' i=S):=⟨_,rfl⟩
    rw [HSs.out] at hsb
    cases hen:enoughB zs S with
    | false =>
     have HEn:=hid (rEnough_is vb vo cap zs S false wr (by omega) HOk.out hsb.1 (by omega) HVw.out hen)
     rw [hzn] at HEn
     have HRv:Hid (R=([],st,k,hs',ph)):=by
      rw [← HR.out]
      unfold yesR
      rw [if_neg (by omega),if_pos (by rw [hzn,HSs.out]; exact hen)]
      exact rfl
     have HY7:=hid (HNil.out _ (Below.refl _ _) HRv.out)
     rw [HSs.out]
     go_wp2_with fail
     refine HEn.out.mono ?_
     rintro e w7 ⟨rfl,hx⟩
     subst w7
     go_wp2_with fail
     go_ret
     obtain ⟨vh',t1,t2,t3,t4⟩:=HY7.out
     first|exact ⟨.slice none 0 0,vh',rfl,t1,t2,t3,t4⟩|exact ⟨.slice none 0 0,rfl,t1,vh',t2,t3,t4⟩|exact ⟨.slice none 0 0,rfl,vh',t1,t2,t3,t4⟩|exact ⟨rfl,vh',t1,t2,t3,t4⟩|exact ⟨t1,vh',t2,t3,t4⟩|exact ⟨vh',t1,t2,t3,t4⟩
    | true =>
     have HEn:=hid (rEnough_is vb vo cap zs S true wr (by omega) HOk.out hsb.1 (by omega) HVw.out hen)
     rw [hzn] at HEn
     rw [HSs.out]
     rcases hk46 with rfl|rfl
     ·obtain ⟨p,fl,HCh⟩:∃ p fl,Hid (refL (toldTo hs' i)=(p,fl)):=⟨_,_,rfl⟩
      have HCo:=hid (rchoose_any adS capS (toldTo hs' i) wr (by omega) HSL.out)
      rw [HCh.out] at HCo
      cases fl with
      | true =>
       have HRv:Hid (R=(sentL id deal 7 att p true i,stB 2,0,hs',ph)):=by
        rw [← HR.out]
        unfold yesR
        rw [if_neg (by decide),if_neg (by rw [hzn,HSs.out,hen]; decide),if_neg (by decide),hzn,HCh.out,if_pos rfl]
        exact rfl
       have HDc:=hid (rldecide_any p HI8.out.ld (by omega))
       go_wp2_with fail
       refine HEn.out.mono ?_
       rintro e w7 ⟨rfl,hx⟩
       subst w7
       go_wp2_with fail
       refine HCo.out.mono ?_
       rintro e w7 ⟨rfl,hx⟩
       subst w7
       go_wp2_with fail
       refine HDc.out.mono ?_
       rintro e w7 ⟨v7,rfl,y1,y2,y3⟩
       have HY7:=hid (HDec.out p v7 w7 HRv.out y1 y2 y3)
       clear y1 y2 y3
       go_wp2_with fail
       go_ret
       obtain ⟨vh',t1,t2,t3,t4⟩:=HY7.out
       first|exact ⟨v7,vh',rfl,t1,t2,t3,t4⟩|exact ⟨v7,rfl,t1,vh',t2,t3,t4⟩|exact ⟨v7,rfl,vh',t1,t2,t3,t4⟩|exact ⟨rfl,vh',t1,t2,t3,t4⟩|exact ⟨t1,vh',t2,t3,t4⟩|exact ⟨vh',t1,t2,t3,t4⟩
      | false =>
       have HRv:Hid (R=(sentL id deal 5 att p true i,stB 1,6,[],p)):=by
        rw [← HR.out]
        unfold yesR
        rw [if_neg (by decide),if_neg (by rw [hzn,HSs.out,hen]; decide),if_neg (by decide),hzn,HCh.out,if_neg (fun h=>by cases h)]
        exact rfl
       have HDc:=hid (rlprepare_any p HI8.out.ld (by omega))
       go_wp2_with fail
       refine HEn.out.mono ?_
       rintro e w7 ⟨rfl,hx⟩
       subst w7
       go_wp2_with fail
       refine HCo.out.mono ?_
       rintro e w7 ⟨rfl,hx⟩
       subst w7
       go_wp2_with fail
       refine HDc.out.mono ?_
       rintro e w7 ⟨v7,rfl,y1,y2,y3⟩
       have HY7:=hid (HPre.out p v7 w7 HRv.out y1 y2 y3)
       clear y1 y2 y3
       go_wp2_with fail
       go_ret
       obtain ⟨vh',t1,t2,t3,t4⟩:=HY7.out
       first|exact ⟨v7,vh',rfl,t1,t2,t3,t4⟩|exact ⟨v7,rfl,t1,vh',t2,t3,t4⟩|exact ⟨v7,rfl,vh',t1,t2,t3,t4⟩|exact ⟨rfl,vh',t1,t2,t3,t4⟩|exact ⟨t1,vh',t2,t3,t4⟩|exact ⟨vh',t1,t2,t3,t4⟩
     ·obtain ⟨p,HPa⟩:∃ p,Hid (afterI ph=p):=⟨_,rfl⟩
      have HAf:=hid (rafter_any ph wr)
      rw [HPa.out] at HAf
      have HRv:Hid (R=(sentL id deal 7 att p true i,stB 2,0,hs',ph)):=by
       rw [← HR.out]
       unfold yesR
       rw [if_neg (by decide),if_neg (by rw [hzn,HSs.out,hen]; decide),if_pos rfl,hzn,HPa.out]
       exact rfl
      have HDc:=hid (rldecide_any p HI8.out.ld (by omega))
      go_wp2_with fail
      refine HEn.out.mono ?_
      rintro e w7 ⟨rfl,hx⟩
      subst w7
      go_wp2_with fail
      refine HAf.out.mono ?_
      rintro e w7 ⟨rfl,hx⟩
      subst w7
      go_wp2_with fail
      refine HDc.out.mono ?_
      rintro e w7 ⟨v7,rfl,y1,y2,y3⟩
      have HY7:=hid (HDec.out p v7 w7 HRv.out y1 y2 y3)
      clear y1 y2 y3
      go_wp2_with fail
      go_ret
      obtain ⟨vh',t1,t2,t3,t4⟩:=HY7.out
      first|exact ⟨v7,vh',rfl,t1,t2,t3,t4⟩|exact ⟨v7,rfl,t1,vh',t2,t3,t4⟩|exact ⟨v7,rfl,vh',t1,t2,t3,t4⟩|exact ⟨rfl,vh',t1,t2,t3,t4⟩|exact ⟨t1,vh',t2,t3,t4⟩|exact ⟨vh',t1,t2,t3,t4⟩
end
section
variable {w0 w w1 w':World} {C C':Nat→Nat} {K:RB} {Y:YB} {aw:Option Addr} {i n cap m m':Nat} {zs:List Int} {N:PN} {V V':PX}
theorem rcUp_zero {n:Nat} {s:Int} (h:cUp n V s=0):∃ k:Nat,s=k∧k<n∧upN (V.nd k)=true:=by
 unfold cUp at h
 by_cases hs:0≤s∧s<n
 ·rw [if_pos hs] at h
  refine ⟨s.toNat,by omega,by omega,?_⟩
  by_cases hu:upN (V.nd s.toNat)=true
  ·exact hu
  ·rw [if_neg hu] at h; omega
 ·rw [if_neg hs] at h; omega
theorem setNd_fall (V:PX) (i:Nat):setNd V i (fallN { V.nd i with B:=(V.nd i).B,over:=(V.nd i).over })=downX V i:=rfl
theorem rdown_any (s:Int) (c:Nat) (h:RW w0 w C Y aw cap zs V m) (hc:cUp zs.length V s=c) :
  Calls Tryz.prog 91 #[.pointer (some ⟨Y.xb,0,none⟩),.int .i64 s] w fun e w'=>e=.returned (.int .i64 (c:Int))∧ROut w0 w w' C Y aw cap zs (if c=0 then downX V s.toNat else V) (m+1):=by
 have H:=hid h
 have HU:=hid (rup_is s c h hc)
 by_cases c0:c=0
 ·subst c0
  obtain ⟨k,rfl,hk,hup⟩:=rcUp_zero hc
  obtain ⟨-,c1,-,-,-⟩:=h.cells
  have cn:=h.ns k hk
  have hN:=h.nds k hk
  obtain ⟨-,d1,-,-⟩:=hN.cells
  obtain ⟨off,l',cuts,p1,p2⟩:=hN.pl
  have q1:=p1.c1
  have q2:=p1.fz 1
  have e1:=hN.cn; have e2:=hN.cr
  have k1:Kept (In1 (Y.K k).r) w (w.setCell ⟨(Y.K k).r,1,none⟩ (.bool true)):=(Kept.refl _ w).set1 1 _
  have hx:Y.xb≠(Y.K k).r:=fun e=>by have:=h.cx; rw [e] at this; have:=h.n7.2; omega
  have hnb:Y.nb≠(Y.K k).r:=fun e=>by have:=h.cn; rw [e] at this; have:=h.n7.2; omega
  have hnd:(Y.K k).nd≠(Y.K k).r:=fun e=>by rw [e] at e1; omega
  have c1':=keptC k1 c1 hx
  have cn':=keptC k1 cn hnb
  have HR:=hid (k1.row hN.row hnd)
  have HK:=hid hk
  have HP:=hid (p1.s1 true)
  have HN:=hid hN
  have HK1:=hid k1
  obtain ⟨n,HNn⟩:∃ n,zs.length=n:=⟨_,rfl⟩
  rw [HNn] at c1 c1' hk
  clear h hc hN hup HNn p1 p2 k1
  go_enter Tryz.func91,Tryz.ntmps91
  go_wp2_with fail
  refine HU.out.mono ?_
  rintro e w1 ⟨rfl,rfl⟩
  go_wp2_with fail
  refine (rfall_any HR.out).mono ?_
  rintro e w2 ⟨rfl,rfl⟩
  go_wp2_with fail
  go_ret
  refine ⟨rfl,?_⟩
  rw [← setNd_fall]
  exact H.out.fell HK.out HK1.out (fun x hx=>by rw [show x=_ from hx]; have:=HN.out.cr; omega) ⟨_,_,_,HP.out,.inl ⟨rfl,rfl⟩⟩ (fun _ _=>rfl) (Nat.le_succ _) ((H.out.inv.nd k HK.out).fall.mono (Nat.le_succ _))
 ·have c9:¬ ((c:Int)=0):=by omega
  rw [if_neg c0]
  clear h hc
  go_enter Tryz.func91,Tryz.ntmps91
  go_wp2_with fail
  refine HU.out.mono ?_
  rintro e w1 ⟨rfl,rfl⟩
  go_wp2_with fail
  go_ret
  exact ⟨rfl,H.out.out (Below.refl _ _) (Nat.le_succ _)⟩
theorem RN.cut {l:Int} (h:RN w C K i n cap aw N) (hu:upN N=true) (hl:l≠-2) (hk:Kept (In1 K.r) w w') (hp:∃ off l' cuts,RP w' K.r N.B off l' cuts∧Lk l off l' cuts):RN w' C K i n cap aw { N with l:=l }:=by
 obtain ⟨c1,c2,c3,c4,c5⟩:=h.cu hu
 have e1:=h.cn; have e2:=h.cr; have e3:=h.cl; have e4:=h.cd
 have no:∀ x,C x≠100 * i+7→¬ In1 K.r x:=fun x g hx=>g (by rw [show x=K.r from hx]; exact e2)
 obtain ⟨u1,u2⟩:=h.up hu
 have hru:upN { N with l:=l }=upN N:=by rw [hu]; unfold upN; simpa using hl
 have hrc:rndC K { N with l:=l }=rndC K N:=by unfold rndC rsV; rw [hru]
 refine ⟨by rw [hrc]; exact hk.row h.row (no _ (by omega)),hp,fun _=>⟨⟨u1.rj.kept hk (no _ (by omega)) (no _ (by omega)) (no _ (by omega)),hp,u1.rm,u1.rn,u1.rs,u1.sz,u1.s6⟩,u2.kept hk (no _ (by omega)) (no _ (by omega))⟩,hk.row h.lrow (no _ (by omega)),hk.row h.drow (no _ (by omega)),fun d hd x hx=>?_,h.cn,h.cr,h.cl,h.cd,fun _=>⟨c1,c2,c3,c4,c5⟩,h.ce⟩
 obtain ⟨L,r1,r2⟩:=h.lds d hd x hx
 obtain ⟨b1,b2⟩:=h.ce d hd x hx
 exact ⟨L,r1,r2.kept hk (no _ (by omega)) (fun g hg=>no g (by have:=b2 g hg; omega))⟩
theorem setNd_self (V:PX) (i:Nat):setNd V i (V.nd i)=V:=by
 unfold setNd
 have:(fun k=>if k=i then V.nd i else V.nd k)=V.nd:=funext fun k=>by
  by_cases g:k=i
  ·rw [if_pos g,g]
  ·rw [if_neg g]
 rw [this]
theorem cutX_neg (V:PX) (s:Nat) (x:Int) (h:cL (V.nd s).l x=(V.nd s).l):cutX V s x=V:=by
 unfold cutX
 rw [h]
 exact setNd_self V s
theorem rcut_any (s x:Int) (c:Nat) (h:RW w0 w C Y aw cap zs V m) (hx:x≤9223372036854775807) (hc:cCut zs.length V s x=c) :
  Calls Tryz.prog 96 #[.pointer (some ⟨Y.xb,0,none⟩),.int .i64 s,.int .i64 x] w fun e w'=>e=.returned (.int .i64 (c:Int))∧ROut w0 w w' C Y aw cap zs (if 0≤s∧s<zs.length then cutX V s.toNat x else V) (m+1):=by
 have H:=hid h
 by_cases hx0:x<0
 ·have hc2:c=2:=by
   rw [← hc]; unfold cCut cC
   rw [if_pos hx0]
   split <;> rfl
  have hV:(if 0≤s∧s<zs.length then cutX V s.toNat x else V)=V:=by
   split
   ·exact cutX_neg _ _ _ (by unfold cL; rw [if_pos hx0])
   ·rfl
  rw [hV]
  subst hc2
  clear h hc hV hx
  go_enter Tryz.func96,Tryz.ntmps96
  go_wp2_with fail
  go_ret
  exact ⟨rfl,H.out.out (Below.refl _ _) (Nat.le_succ _)⟩
 ·obtain ⟨u,hu⟩:∃ u,cUp zs.length V s=u:=⟨_,rfl⟩
  have HU:=hid (rup_is s u h hu)
  by_cases u0:u=0
  ·subst u0
   obtain ⟨k,rfl,hk,hup⟩:=rcUp_zero hu
   have hl:(V.nd k).l≠-2:=by unfold upN at hup; simpa using hup
   have hs:(0:Int)≤(k:Int)∧(k:Int)<zs.length:=⟨by omega,by omega⟩
   rw [if_pos hs,Int.toNat_natCast]
   have hcc:cC (V.nd k).l x=c:=by rw [← hc]; unfold cCut; rw [if_pos hs,Int.toNat_natCast]
   obtain ⟨-,c1,-,-,-⟩:=h.cells
   have cn:=h.ns k hk
   have hN:=h.nds k hk
   obtain ⟨-,d1,-,-⟩:=hN.cells
   obtain ⟨off,l',cuts,p1,p2⟩:=hN.pl
   have HC:=hid (cut_rp (Y.K k).r (V.nd k).B (V.nd k).l x l' off cuts w p1 p2 hx)
   have hcl:cL (V.nd k).l x=x:=by unfold cL; rw [if_neg hx0,if_neg hl]
   have HCL:=hid hcl
   have HK:=hid hk
   have HUP:=hid hup
   have HCC:=hid hcc
   have HX:=hid hx
   obtain ⟨n,HNn⟩:∃ n,zs.length=n:=⟨_,rfl⟩
   rw [HNn] at c1 hk
   clear h hc hN hup HNn p1 p2 hs hu hl hcc hcl hx
   go_enter Tryz.func96,Tryz.ntmps96
   go_wp2_with fail
   refine HU.out.mono ?_
   rintro e w1 ⟨rfl,rfl⟩
   go_wp2_with fail
   refine HC.out.mono ?_
   rintro e w2 ⟨rfl,hp,hk2⟩
   rw [HCC.out]
   have HP:=hid hp
   have HK2:=hid hk2
   clear hp hk2
   go_wp2_with fail
   go_ret
   refine ⟨rfl,?_⟩
   exact H.out.nodeOut HK.out HK2.out (fun x hx=>by rw [show x=_ from hx]; have:=(H.out.nds k HK.out).cr; omega) ((H.out.nds k HK.out).cut HUP.out (by rw [HCL.out]; omega) HK2.out HP.out) rfl (Nat.le_succ _) (((H.out.inv.nd k HK.out).cut HX.out).mono (Nat.le_succ _))
  ·have u9:¬ ((u:Int)=0):=by omega
   have u8:¬ ((u:Int)≤0):=by omega
   have hcu:c=u:=by
    rw [← hc,← hu]; unfold cCut cUp cC
    by_cases hs:0≤s∧s<zs.length
    ·rw [if_pos hs,if_pos hs,if_neg hx0]
     by_cases hl:(V.nd s.toNat).l=-2
     ·rw [if_pos hl,if_neg (by unfold upN; simp [hl])]
     ·exfalso
      apply u0
      rw [← hu]; unfold cUp
      rw [if_pos hs,if_pos (by unfold upN; simpa using hl)]
    ·rw [if_neg hs,if_neg hs]
   have hV:(if 0≤s∧s<zs.length then cutX V s.toNat x else V)=V:=by
    by_cases hs:0≤s∧s<zs.length
    ·rw [if_pos hs]
     refine cutX_neg _ _ _ ?_
     by_cases hl:(V.nd s.toNat).l=-2
     ·unfold cL; rw [if_neg hx0,if_pos hl]
     ·exfalso
      apply u0
      rw [← hu]; unfold cUp
      rw [if_pos hs,if_pos (by unfold upN; simpa using hl)]
    ·rw [if_neg hs]
   rw [hV,hcu]
   clear h hc hV hx hu hcu
   go_enter Tryz.func96,Tryz.ntmps96
   go_wp2_with fail
   refine HU.out.mono ?_
   rintro e w1 ⟨rfl,rfl⟩
   go_wp2_with fail
   go_ret
   exact ⟨rfl,H.out.out (Below.refl _ _) (Nat.le_succ _)⟩
end
end Go.Proofs.YtadhpkopkkjmfaaGreatDoor
