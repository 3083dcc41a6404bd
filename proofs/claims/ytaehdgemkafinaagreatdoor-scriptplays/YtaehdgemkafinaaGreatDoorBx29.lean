/-
  On the way to SPlaysProof: UE VZ GW XN XO XQ XP XF XG.
-/
import Derived.Test.YtaehdgemkafinaaGreatDoorBx27
import Derived.Test.YtaehdgemkafinaaGreatDoorBx15
set_option maxHeartbeats 8000000
set_option maxRecDepth 100000
namespace Go.Proofs.YtaehdgemkafinaaGreatDoor
open Go.RowKit
open Go.Proofs.Tryz
theorem ahe(base b o n c i vb:Nat)(a:Array Value)(L:List F9)(F:F9)(w:World)(f:w.heap[b]?=some (.cells a 125 (0,0)))(t:base<=b)(h:L.length=n)(u:n<=c)(v:c<=maxLen)(x:o+c*9<=a.size)(p:∀j,j<n*9->a[o+j]?=(am L)[j]?)(y:n<=1000000000000)(q:i<n)(r:w.heap[vb]?=some (.cells (f9L F).toArray 125 (0,0)))(z:vb≠b):Calls prog 117 #[.slice (some ⟨b,o,none⟩) n c,.int .i64 (i:Int),.slice (some ⟨vb,0,none⟩) 1 1] w fun e w'=>∃g s d,e=.returned (.slice (some ⟨g,s,none⟩) (n+1) d)∧OwnF w' base (.slice (some ⟨g,s,none⟩) (n+1) d) (iZ L i F)∧Kept (In1 b) w w'∧(g=b∨g=w.heap.size):=by
 by_cases A:n+1<=c
 ·refine(ael base b o n c i vb a L F w f t h A v x p q r z).mono ?_
  rintro e w' ⟨k,l,m⟩;exact⟨b,o,c,k,l,m,.inl rfl⟩
 ·refine(aem base b o n c i vb a L F w f (by have:=ah f;omega) h u (by omega) y p q r).mono ?_
  rintro e w' ⟨d,k,l,m⟩;refine⟨_,0,d,k,OwnF.of_own ?_,Kept.of_below m,.inr rfl⟩;rw[pk L i F (by omega),h];exact l
section
variable {w0 w w':World} {C C':Nat→Nat} {K:NB} {X:XB} {i m m':Nat} {zs:List Int} {N:PN} {V V':PX} {A:Nat→Addr}
theorem aep(s:Int)(h:WD w0 w C X zs V m)(a:Held9 w0 A)(b:¬(0<=s∧s<V.fly.length)):Calls prog 49 #[.pointer (some ⟨X.xb,0,none⟩),.int .i64 s] w fun e w'=>e=.returned (ev A 4)∧w'=w:=by
 have c:=hid h;have d:=hid (aS b);have g:w.cell? ⟨3,0,none⟩=some (.iface 318 (.pointer (some (A 3)))):=(h.held a).var 3 (by decide);clear h a b
 go_enter func49,ntmps49
 go_wp2_with fail
 refine(ju s false c d).mono ?_;rintro e f ⟨rfl,j⟩;subst f
 go_wp2_with fail
 go_ret
 exact⟨rfl,rfl⟩
theorem XI.twice{k:Nat}{f:F9}(h:XI zs V m)(c:f∈V.fly):XI zs (ik V k f) (m+1):=by
 refine⟨h.he,fun i d=>(h.nd i d).mono (aP _),fun b e=>?_,?_,h.ev⟩
 ·rcases List.mem_append.1 e with a|a
  ·exact h.fr b (List.mem_of_mem_take a)
  ·rcases List.mem_cons.1 a with a|a
   ·rw[a];exact h.fr f c
   ·exact h.fr b (List.mem_of_mem_drop a)
 ·have:=h.fl
  show(V.fly.take k++f::V.fly.drop k).length<=_;rw[aR,bI,bq,List.length_drop];omega
theorem WD.twiced{k g o c b q r:Nat}{f:F9}{W:World}(h:WD w0 w C X zs V m)(F:X.fv=.slice (some ⟨g,o,none⟩) V.fly.length c)(P:k<V.fly.length)(G:f∈V.fly)(y:Below w.heap.size w W)(z:OwnF w' w0.heap.size (.slice (some ⟨b,q,none⟩) (V.fly.length+1) r) (iZ V.fly k f))(B:Kept (In1 g) W w')(D:b=g∨b=W.heap.size):WOut w0 w (w'.setCell ⟨X.xb,3,none⟩ (.slice (some ⟨b,q,none⟩) (V.fly.length+1) r)) C X zs (ik V k f) (m+1):=by
 have n:=h.later y;have u:C g=1005:=h.cf g (by rw[F];rfl);have Q:=h.cx;have H:g≠X.xb:=fun d=>by rw[d]at u;omega
 have I:w'.heap[X.xb]?=some (.cells (wdC X zs.length).toArray 148 (0,0)):=B.row n.row (fun d=>H (show X.xb=g from d).symm);have R:=ah n.row;have E:∀a,(a=X.xb∨a=g)->C a=1001∨C a=1005∨C a=1006:=fun a e=>by
  rcases e with rfl|rfl
  ·exact .inl h.cx
  ·exact .inr (.inl u)
 have v:Kept (fun a=>a=X.xb∨a=g) W (w'.setCell ⟨X.xb,3,none⟩ (.slice (some ⟨b,q,none⟩) (V.fly.length+1) r)):=(B.mono (fun a e=>.inr e)).setCell (.inl rfl) _;have J:b<w'.heap.size:=(z.lt _ rfl).2;have L:b≠X.xb:=fun d=>by rcases D with p|p<;>omega
 obtain⟨s,x,M,O⟩:∃s:Nat->Nat,(∀a,a<W.heap.size->s a=C a)∧(∀a,W.heap.size<=a->s a<2000->a<(w'.setCell ⟨X.xb,3,none⟩ (.slice (some ⟨b,q,none⟩) (V.fly.length+1) r)).heap.size)∧s b=1005:=by
  rcases D with p|p
  ·exact⟨C,fun _ _=>rfl,fun a e t=>by have:=n.lt a t;omega,by rw[p];exact u⟩
  ·refine⟨bV C b 1005,fun a e=>aq (by omega),fun a e t=>?_,bw _ _ _⟩
   by_cases d:a=b
   ·rw[d];simpa using J
   ·rw[aq d]at t
    have:=n.lt a t;omega
 have S:(V.fly.take k++f::V.fly.drop k).length=V.fly.length+1:=by rw[aR,bI,bq,List.length_drop];omega
 refine WOut.step (C1:=C) (X1:=X) rfl (Kept.of_below y) (fun _ _=>rfl) ?_;refine⟨s,{ X with fv:=.slice (some ⟨b,q,none⟩) (V.fly.length+1) r },?_,rfl,v.mono (fun a e=>by show C a<2000;rcases E a e with p|p|p<;>omega),x⟩
 refine n.own (ev:=X.ev) (E:=V.evs) (F:=V.fly.take k++f::V.fly.drop k) v E x M ?_ ?_ ?_ ?_ ?_ (aP _) (h.inv.twice G)
 ·rw[aE w' X.xb 3 _ _ _ I];rfl
 ·exact z.kept ((Kept.refl (In1 X.xb) w').set1 3 _) (fun j l d=>by
   have:b=j:=bF l;rw[<-this]at d;exact L d)
 ·exact aV n.evs v (fun j l d=>by
   have T:=h.ce j l;rcases d with rfl|rfl
   ·omega
   ·omega)
 ·intro j l
  have:b=j:=bF l;rw[<-this];exact O
 ·intro j l
  rw[x j (kt n.evs l)];exact h.ce j l
theorem adA(j:Nat)(F:F9)(h:WD w0 w C X zs V m)(f:j<V.fly.length)(p:V.fly[j]'f=F)(hm:m<1000000):Calls prog 49 #[.pointer (some ⟨X.xb,0,none⟩),.int .i64 (j:Int)] w fun e w'=>e=.returned .nilIface∧WOut w0 w w' C X zs (ik V j F) (m+1):=by
 obtain⟨c,q,cap,O,l,x,g,y,z,B,r⟩:=h.flyForm (by omega);have s:=tk g r f;rw[p]at s;obtain⟨D,P,Q,R,S,T,U,W,Y⟩:=mH (o:=q+j*9) s;obtain⟨-,-,-,t,-⟩:=h.cells;have E:C c=1005:=h.cf c (by rw[l];rfl);have Z:Hid (F∈V.fly):=by rw[<-p];exact List.getElem_mem _
 have k:=hid h;have HB:Hid (decide (0<=(j:Int)∧(j:Int)<V.fly.length)=true):=bo (by omega);have G:V.fly.length<=1000000000000:=by have:=h.inv.fl;omega
 obtain⟨n,a⟩:=nmd (V.fly.length);have H:=hid l;rw[l]at t;obtain⟨b,u⟩:=nmd (w.drew.alloc (.cells (f9L F).toArray 125));have d:Hid (Below w.heap.size w b):=by rw[<-u.out];exact aF.drew.alloc aj _
 have a0:Hid (b.heap[w.heap.size]?=some (.cells (f9L F).toArray 125 (0,0))):=by rw[<-u.out];exact aB w.drew _
 have I:=u.out;have a1:=ag d.out t;have a2:=hid (ahe w0.heap.size c q n cap j w.heap.size O V.fly F b ((d.out.block _ (ah g)).trans g) x a.out (by rw[<-a.out];exact y) z B (by rw[<-a.out];exact r) (by rw[<-a.out];exact G) (by rw[<-a.out];exact f) a0.out (by have:=ah g;omega));have HJ:=hid f;rw[a.out]at t a1 G f;have HX:Hid (∀w',Kept (In1 c) b w'->w'.cell? ⟨X.xb,3,none⟩=some (.slice (some ⟨c,q,none⟩) n cap)∧w'.frozen? ⟨X.xb,3,none⟩=false):=by
  intro w' a3;have J:=a3.row (k.out.later d.out).row (fun e=>by have h1:=k.out.cx;rw[show X.xb=c from e,E]at h1;omega);exact⟨by rw[ai J,<-a.out,<-H.out];rfl,dN J⟩
 obtain⟨ff,ft,fd,fk,fa,fy,a4,a5,a6⟩:=F;simp only at D P Q R S T U W Y;have e0:=ag d.out D;have a7:w.drew.alloc (.cells #[.int .i64 ff,.int .i64 ft,.int .i64 fd,.int .i64 fk,.int .i64 fa,.bool fy,.int .i64 a4,.int .i64 a5,.int .i64 a6] 125)=b:=I;have a8:Hid (X.xb<b.heap.size):=by have:=ah (k.out.later d.out).row;exact this
 clear h l x g y z B r E s p I
 go_enter func49,ntmps49
 go_wp2_with fail
 refine(ju (j:Int) true k.out HB.out).mono ?_;rintro e w1 ⟨rfl,hx⟩;subst w1
 go_wp2_with fail
 go_region_with ((go_at_call 117;(with_reducible refine a2.out.mono ?_);rintro e w2 ⟨g',o',a9,rfl,L,v,M⟩;obtain⟨q3,qz⟩:=HX.out w2 v;have o:=hid (And.intro L (And.intro v M));clear L v M))
 all_goals go_wp2_with fail
 all_goals go_ret
 all_goals refine⟨rfl,?_⟩
 all_goals rw[<-a.out]at o ⊢
 all_goals exact k.out.twiced H.out HJ.out Z.out d.out o.out.1 o.out.2.1 o.out.2.2
end
section
variable {w0 w w':World} {C C':Nat→Nat} {K:NB} {X:XB} {i m m':Nat} {zs:List Int} {N:PN} {V V':PX} {A:Nat→Addr}
theorem vr{a b c d:Nat}{l:Lit}(h1:keyOf prog 172 (gD a b)=some l)(e:keyOf prog 172 (gD c d)=some l):a=c∧b=d:=by
 have:=tU.inj h1 e;unfold gD at this;simp at this;omega
theorem WD.linked{a b:Nat}{whole:Bool}(h:WD w0 w C X zs V m)(c:Kept (In1 X.mb) w w')(p:∃n:DataW Unit,w'.ownsMap prog 172 unitElem X.mb (m+1) n∧∀x y,x<7->y<7->∀l,keyOf prog 172 (gD x y)=some l->Maps.has n l=(eH V a b whole).br x y):WOut w0 w w' C X zs (eH V a b whole) (m+1):=by
 have s:=h.n7.2;have t:=h.cx;have u:=h.cw;have v:=h.cn;have q:=h.cm;have o:∀x,In1 X.mb x->w0.heap.size<=x:=fun x d=>by rw[show x=_ from d];exact h.low _ (by omega)
 have f:∀x,C x≠1004->¬In1 X.mb x:=fun x e d=>by rw[show x=X.mb from d]at e;exact e q
 refine⟨C,X,⟨c.below h.bel.size o h.bel,c.row h.row (f _ (by omega)),fun g j=>aI (h.ws g j) c (f _ (by show C X.wb≠_;omega)),fun g j=>aI (h.ns g j) c (f _ (by show C X.nb≠_;omega)),fun g j=>((h.nds g j).kept c (fun x _ d=>f x (by omega)) o).mono (aP _),p,h.fly.kept c (fun e k=>f e (by have:=h.cf e k;omega)),aV h.evs c (fun e k=>f e (by have:=h.ce e k;omega)),h.cx,h.cw,h.cn,h.cm,h.cf,h.ce,fun x d=>bm (h.lt x d) c.size,h.low,?_⟩,rfl,c.mono (fun x d=>by rw[show x=_ from d];show C _<2000;omega),fun _ _=>rfl⟩;exact⟨h.inv.he,fun i r=>(h.inv.nd i r).mono (aP _),h.inv.fr,by have:=h.inv.fl;show V.fly.length<=_;omega,h.inv.ev⟩
theorem jI{b:Nat}(h:w.mapTurned w' b):Kept (In1 b) w w':=by
 obtain⟨g,j,c,d,k,rfl⟩:=h;refine⟨rfl,rfl,rfl,?_,fun a l e=>?_⟩
 ·show w.heap.size<=(w.heap.setIfInBounds b (.map c d)).size
  simp
 ·show(w.heap.setIfInBounds b (.map c d))[a]?=w.heap[a]?
  rw[Array.getElem?_setIfInBounds_ne (fun f=>e (show a=b from f.symm))]
theorem WD.breaks{a b:Nat}(h:WD w0 w C X zs V m)(v:m<1000000)(x:a<7)(y:b<7):∃c,(Instr.mapUpdate 146 (.map (some X.mb)) (gD (min a b) (max a b)) (.agg #[])).run prog w=.ok () c∧c.cell? ⟨X.xb,2,none⟩=some (.map (some X.mb))∧WOut w0 w c C X zs (eH V a b false) (m+1):=by
 obtain⟨z,l,o⟩:=h.brk;obtain⟨B,f⟩:=nY (min a b) (max a b) (by omega) (by omega);obtain⟨c,p,q,n⟩:=l.store tU underlying146 (by unfold maxLen;omega) f unitElem_mk;refine⟨c,p,aI h.cells.2.2.1 (jI n) (fun k=>by have r:=h.cx;have D:=h.cm;rw[show X.xb=X.mb from k]at r;omega),h.linked (jI n) ⟨_,q,fun g j s t u d=>?_⟩⟩;show _=if g=min a b∧j=max a b then !false else V.br g j
 by_cases e:g=min a b∧j=max a b
 ·rw[af e]
  rw[e.1,e.2,f]at d;obtain rfl:=bF d;exact Maps.has_put_same l.isMap (tU.key f) _
 ·rw[aa e,Maps.has_put_other (fun k=>e ?_)]
  ·exact o g j s t u d
  ·rw[k]at d
   exact vr d f
theorem WD.mends{a b:Nat}(h:WD w0 w C X zs V m)(v:a<7)(x:b<7)(ty:TypeId):∃c,(Builtin.delete_ #[146,172] ty #[.map (some X.mb),gD (min a b) (max a b)]).run prog w=.ok (.tuple #[]) c∧c.cell? ⟨X.xb,2,none⟩=some (.map (some X.mb))∧WOut w0 w c C X zs (eH V a b true) (m+1):=by
 obtain⟨y,n,o⟩:=h.brk;obtain⟨z,j⟩:=nY (min a b) (max a b) (by omega) (by omega);obtain⟨c,p,q,l⟩:=n.drop tU underlying146 j ty;refine⟨c,p,aI h.cells.2.2.1 (jI l) (fun k=>by have r:=h.cx;have B:=h.cm;rw[show X.xb=X.mb from k]at r;omega),h.linked (jI l) ⟨_,q.mono (aP _),fun f g s t u d=>?_⟩⟩;show _=if f=min a b∧g=max a b then !true else V.br f g
 by_cases e:f=min a b∧g=max a b
 ·rw[af e]
  rw[e.1,e.2,j]at d;obtain rfl:=bF d;exact Maps.has_del_same
 ·rw[aa e,Maps.has_del_other (fun k=>e ?_)]
  ·exact o f g s t u d
  ·rw[k]at d
   exact vr d j
theorem agQ(a b:Nat)(whole:Bool)(h:WD w0 w C X zs V m)(D:a<zs.length)(E:b<zs.length)(x:m<1000000):Calls prog 51 #[.pointer (some ⟨X.xb,0,none⟩),.int .i64 (a:Int),.int .i64 (b:Int),.bool whole] w fun e w'=>e=.returned .nilIface∧WOut w0 w w' C X zs (eH V a b whole) (m+1):=by
 have s:=hid h;have F:=h.n7;obtain⟨-,-,t,-,-⟩:=h.cells;have u:=hid (lS (a:Int) true h (bo (by omega)));have v:=hid (lS (b:Int) true h (bo (by omega)));have k:a<7∧b<7:=by omega
 clear h
 cases whole with
 | true =>
  have l:Hid (∀f,Below w.heap.size w f->∃c,(Builtin.delete_ #[146,172] 0 #[.map (some X.mb),gD (min a b) (max a b)]).run prog f=.ok (.tuple #[]) c∧c.cell? ⟨X.xb,2,none⟩=some (.map (some X.mb))∧WOut w0 w c C X zs (eH V a b true) (m+1)):=by
   intro f d;obtain⟨c,n,o,p⟩:=(s.out.later d).mends k.1 k.2 0;exact⟨c,n,o,WOut.step (C1:=C) (X1:=X) rfl (Kept.of_below d) (fun _ _=>rfl) p⟩
  go_enter func51,ntmps51
  go_wp2_with (first|(go_at_call 118;(with_reducible refine u.out.mono ?_);rintro e g ⟨rfl,q⟩;subst g)|(go_at_call 118;(with_reducible refine v.out.mono ?_);rintro e g ⟨rfl,q⟩;subst g))
  go_region_held3 (fun V=>V.cell? ⟨X.xb,2,none⟩=some (.map (some X.mb))) (go_keep) (first|(go_at_call 119;(with_reducible refine(lu a b _).mono ?_);rintro e f ⟨rfl,d⟩;have y:=ag d t;obtain⟨c,z,B,j⟩:=l.out f (aF.drew.trans d);have r:=hid j;clear d j))
  all_goals go_wp2_with fail
  all_goals go_ret
  all_goals exact⟨rfl,r.out⟩
 | false =>
  have l:Hid (∀f,Below w.heap.size w f->∃c,(Instr.mapUpdate 146 (.map (some X.mb)) (gD (min a b) (max a b)) (.agg #[])).run prog f=.ok () c∧c.cell? ⟨X.xb,2,none⟩=some (.map (some X.mb))∧WOut w0 w c C X zs (eH V a b false) (m+1)):=by
   intro f d;obtain⟨c,n,o,p⟩:=(s.out.later d).breaks x k.1 k.2;exact⟨c,n,o,WOut.step (C1:=C) (X1:=X) rfl (Kept.of_below d) (fun _ _=>rfl) p⟩
  go_enter func51,ntmps51
  go_wp2_with (first|(go_at_call 118;(with_reducible refine u.out.mono ?_);rintro e g ⟨rfl,q⟩;subst g)|(go_at_call 118;(with_reducible refine v.out.mono ?_);rintro e g ⟨rfl,q⟩;subst g))
  go_region_held3 (fun V=>V.cell? ⟨X.xb,2,none⟩=some (.map (some X.mb))) (go_keep) (first|(go_at_call 119;(with_reducible refine(lu a b _).mono ?_);rintro e f ⟨rfl,d⟩;have y:=ag d t;obtain⟨c,z,B,j⟩:=l.out f (aF.drew.trans d);have r:=hid j;clear d j))
  all_goals go_wp2_with fail
  all_goals go_ret
  all_goals exact⟨rfl,r.out⟩
theorem agq(a b:Int)(whole:Bool)(h:WD w0 w C X zs V m)(p:Held9 w0 A)(g:¬((0<=a∧a<zs.length)∧0<=b∧b<zs.length)):Calls prog 51 #[.pointer (some ⟨X.xb,0,none⟩),.int .i64 a,.int .i64 b,.bool whole] w fun e w'=>e=.returned (ev A 2)∧w'=w:=by
 have s:w.cell? ⟨0,0,none⟩=some (.iface 318 (.pointer (some (A 1)))):=(h.held p).var 1 (by decide);have f:=hid (fun j=>lS a j h);have k:=hid (fun j=>lS b j h);clear h
 by_cases c:0<=a∧a<zs.length
 ·have n:¬(0<=b∧b<zs.length):=fun q=>g ⟨c,q⟩
  have l:=hid (f.out true (bo c));have r:=hid (k.out false (aS n));clear f k c n g
  go_enter func51,ntmps51
  go_wp2_with (first|(go_at_call 118;(with_reducible refine l.out.mono ?_);rintro e d ⟨rfl,o⟩;subst d)|(go_at_call 118;(with_reducible refine r.out.mono ?_);rintro e d ⟨rfl,o⟩;subst d))
  go_ret
  exact⟨rfl,rfl⟩
 ·have l:=hid (f.out false (aS c))
  clear f k c g
  go_enter func51,ntmps51
  go_wp2_with (first|(go_at_call 118;(with_reducible refine l.out.mono ?_);rintro e d ⟨rfl,o⟩;subst d))
  go_ret
  exact⟨rfl,rfl⟩
end
theorem mq{w:World}{b a:Nat}{e:TypeId}{size n:Nat}{v:Value}{xs:List Value}(h:w.ownsRow b e size v n xs)(c:a<=b):w.ownsRow a e size v n xs:=by
 refine⟨h.1,?_⟩;rcases h.2 with d|⟨f,cap,g,rfl,i,rest⟩
 ·exact .inl d
 ·exact .inr ⟨f,cap,g,rfl,bc c i,rest⟩
theorem OwnF.base{w:World}{b a:Nat}{v:Value}{L:List F9}(h:OwnF w b v L)(c:a<=b):OwnF w a v L:=by
 rcases h with h|⟨d,e,cap,f,rfl,g,rest⟩
 ·exact .inl h
 ·exact .inr ⟨d,e,cap,f,rfl,bc c g,rest⟩
section
variable {w0 w1 w w':World} {C C' Ca Cb:Nat→Nat} {X Xa Xb:XB} {m ma mb:Nat} {zs:List Int} {V Va Vb:PX}
theorem WD.rebase(h:WD w1 w C X zs V m)(e:Below w0.heap.size w0 w)(c:w0.heap.size<=w1.heap.size):WD w0 w C X zs V m:=by
 refine⟨e,h.row,h.ws,h.ns,fun f g=>?_,h.brk,h.fly.base c,mq h.evs c,h.cx,h.cw,h.cn,h.cm,h.cf,h.ce,h.lt,fun i j=>bc c (h.low i j),h.inv⟩;have a:=h.nds f g;have d:=a.sp;have b:=d.jp;exact⟨a.row,⟨⟨e,b.jr,b.pl,b.jp,b.jq,bc c b.j0,bc c b.p0,bc c b.q0,b.l0,b.l1,b.sz,b.s6⟩,d.sr,d.ns,d.nm,d.sm,bc c d.s0,bc c d.m0⟩,a.lds,a.cn,a.cs,a.cj,a.cm,a.cp,a.cq,a.cl,bc c a.n0⟩
end
section
variable {w0 w w':World} {C C':Nat→Nat} {K:RB} {Y:YB} {aw:Option Addr} {i n cap m m':Nat} {zs:List Int} {N:PN} {V V':PX}
theorem kx{Y:YB}{K:RB}{i:Nat}(h:K.nd=(Y.K i).nd):eY { Y with K:=fun e=>if e=i then K else Y.K e }=eY Y:=by
 unfold eY;refine Prod.ext rfl (funext fun e=>?_);show(if e=i then K else Y.K e).nd=(Y.K e).nd
 by_cases a:e=i
 ·rw[af a,a,h]
 ·rw[aa a]
theorem RW.nodeOut{S:Nat->Prop}(h:RW w0 w C Y aw cap zs V m)(e:i<zs.length)(k:Kept S w w')(a:∀x,S x->C x / 100=i)(f:RN w' C K i zs.length cap aw N)(b:K.nd=(Y.K i).nd)(c:m<=m')(g:NI zs.length N m'):ROut w0 w w' C Y aw cap zs (aA V i N) m':=by
 have l:=h.n7.2;exact⟨C,_,h.node k e a (fun _ _=>rfl) (fun x d j=>by have:=h.lt x j;omega) f b c (h.inv.node g c),kx b,k.mono (fun x d=>by show C x<2000;have:=a x d;omega),fun _ _=>rfl⟩
theorem RN.refuse{d:Nat}(h:RN w C K i n cap aw N)(j:upN N=true)(e:d<6):RN (w.setCell ⟨K.gb,d,none⟩ (.bool true)) C K i n cap aw { N with R:=my N.R d }:=by
 obtain⟨k,o,p,q,l⟩:=h.cu j;have c:Kept (In1 K.gb) w (w.setCell ⟨K.gb,d,none⟩ (.bool true)):=(Kept.refl _ w).set1 d _;have G:=h.cn;have H:=h.cr;have I:=h.cl;have J:=h.cd;have a:∀b,C b≠100*i+6->¬In1 K.gb b:=fun b f g=>f (by rw[show b=K.gb from g];exact l)
 obtain⟨r,s,t,u,v⟩:=h.pl;obtain⟨x,y⟩:=h.up j;refine⟨c.row h.row (a _ (by omega)),⟨r,s,t,u.kept c (a _ (by omega)),v⟩,fun _=>⟨x.kept c (a _ (by omega)) (a _ (by omega)) (a _ (by omega)) (a _ (by omega)),?_⟩,c.row h.lrow (a _ (by omega)),c.row h.drow (a _ (by omega)),fun d e b g=>?_,h.cn,h.cr,h.cl,h.cd,fun _=>⟨k,o,p,q,l⟩,h.ce⟩
 ·exact y.refuse e (fun z=>by rw[z]at k;omega)
 ·obtain⟨A,B,D⟩:=h.lds d e b g
  obtain⟨L,E⟩:=h.ce d e b g;exact⟨A,B,D.kept c (a _ (by omega)) (fun f F=>a f (by have:=E f F;omega))⟩
theorem wI(s d:Int)(c:Nat)(h:RW w0 w C Y aw cap zs V m)(a:hP zs.length V s d=c):Calls prog 23 #[.pointer (some ⟨Y.xb,0,none⟩),.int .i64 s,.int .i64 d] w fun e w'=>e=.returned (.int .i64 (c:Int))∧ROut w0 w w' C Y aw cap zs (if c=0 then lZ V s.toNat d.toNat else V) (m+1):=by
 have j:=hid h
 by_cases f:0<=d∧d<6
 ·obtain⟨l,rfl⟩:=bD f.1
  have x:l<6:=by omega
  have o:hP zs.length V s l=cUp zs.length V s:=by
   unfold hP cUp
   by_cases g:0<=s∧s<zs.length
   ·rw[af ⟨g,f⟩,af g]
   ·rw[aa (fun t=>g t.1),aa g]
  have y:=hid (kw s c h (by rw[<-o];exact a))
  by_cases z:c=0
  ·obtain⟨b,rfl,p,k⟩:∃b:Nat,s=b∧b<zs.length∧upN (V.nd b)=true:=by
    rw[o]at a;unfold cUp at a
    by_cases g:0<=s∧s<zs.length
    ·rw[af g]at a
     refine⟨s.toNat,by omega,by omega,?_⟩
     by_cases A:upN (V.nd s.toNat)=true
     ·exact A
     ·rw[aa A]at a;omega
    ·rw[aa g]at a;omega
   subst z;obtain⟨-,E,-,-,-⟩:=h.cells;have J:=h.ns b p;have q:=h.nds b p;obtain⟨B,-,-,-⟩:=q.cells;unfold rsV at B;rw[k,af rfl]at B;obtain⟨-,r⟩:=q.up k;obtain⟨-,-,L⟩:=r.cells;have M:=r.ref x;have O:w.frozen? ⟨(Y.K b).gb,l,none⟩=false:=dN r.refs;have F:=hid (q.refuse k x);have u:=hid p;have G:=hid k;obtain⟨n,v⟩:∃n,zs.length=n:=⟨_,rfl⟩;rw[v]at E p;have P:=hid v;clear h a o f r q k v
   go_enter func23,ntmps23
   go_wp2_with fail
   refine y.mono ?_;rintro e D ⟨rfl,rfl⟩
   go_wp2_with fail
   go_ret
   refine⟨rfl,?_⟩;exact j.nodeOut u ((Kept.refl (In1 _) D).set1 l _) (fun H I=>by rw[show H=_ from I];have:=((j.nds b u).cu G).2.2.2.2;omega) F rfl (aP _) ((j.inv.nd b u).refuse.mono (aP _))
  ·have Q:¬((c:Int)=0):=by omega
   rw[aa z];clear h a o f
   go_enter func23,ntmps23
   go_wp2_with fail
   refine y.mono ?_;rintro e D ⟨rfl,rfl⟩
   go_wp2_with fail
   go_ret
   exact⟨rfl,j.out.out aF (aP _)⟩
 ·have e:c=2:=by rw[<-a];unfold hP;rw[aa (fun t=>f t.2)]
  subst e;rw[aa (by decide)]
  by_cases R:d<0
  ·clear h a f
   go_enter func23,ntmps23
   go_wp2_with fail
   go_ret
   exact⟨rfl,j.out.out aF (aP _)⟩
  ·have S:(6:Int)<=d:=by omega
   clear h a f
   go_enter func23,ntmps23
   go_wp2_with fail
   go_ret
   exact⟨rfl,j.out.out aF (aP _)⟩
end
theorem Tryz.infoRL:(prog.info? 111).map (fun i=>(i.zero,i.size,i.bytes))=some (some (.pointer none),1,8):=by kernel_rfl
theorem ahh:madeCells (Value.pointer none).cells 6=#[.pointer none,.pointer none,.pointer none,.pointer none,.pointer none,.pointer none]:=by first|rfl|kernel_rfl
theorem adt(w:World):(Instr.makeSlice 66 (.int .i64 6) (.int .i64 6)).run prog w=.ok (.slice (some ⟨w.heap.size,0,none⟩) 6 6) (w.alloc (.cells #[.pointer none,.pointer none,.pointer none,.pointer none,.pointer none,.pointer none] 111)):=by
 obtain⟨b,c,d,e,f⟩:=info_parts Tryz.infoRL;have a:=run_make (P:=prog) w 66 111 b _ underlying66 c d .i64 .i64 6 6 (by omega) (Int.le_refl _) (by rw[f];decide) (by decide);rw[e,show Int.toNat 6*1=6 from rfl,ahh]at a;exact a
def gR(w:World)(nd:Nat):World:=((w.setCell ⟨nd,0,none⟩ (.pointer none)).alloc (.cells #[.pointer none,.pointer none,.pointer none,.pointer none,.pointer none,.pointer none] 111)).setCell ⟨nd,2,none⟩ (.slice (some ⟨w.heap.size,0,none⟩) 6 6)
section
variable {w0 w w1 w':World} {C C':Nat→Nat} {K:RB} {Y:YB} {aw:Option Addr} {i n cap m m':Nat} {zs:List Int} {N:PN} {V V':PX}
theorem yG(w:World)(a:Nat):(gR w a).heap.size=w.heap.size+1:=by unfold gR;simp
theorem rq(w:World)(a:Nat):Kept (In1 a) w (gR w a):=by
 unfold gR;refine Kept.set1 ?_ 2 _;exact((Kept.refl (In1 a) w).set1 0 _).trans (Kept.of_below (aD))
theorem acM{a b c d:Value}(h:w.heap[K.nd]?=some (.cells #[a,b,c,d] 69 (0,0))):(gR w K.nd).heap[K.nd]?=some (.cells #[.pointer none,b,.slice (some ⟨w.heap.size,0,none⟩) 6 6,d] 69 (0,0)):=by
 have e:=aE w K.nd 0 _ _ (.pointer none) h;have f:((w.setCell ⟨K.nd,0,none⟩ (.pointer none)).alloc (.cells #[.pointer none,.pointer none,.pointer none,.pointer none,.pointer none,.pointer none] 111)).heap[K.nd]?=_:=(Below.heap_alloc _ _ _ (ah e)).trans e;unfold gR;rw[aE _ K.nd 2 _ _ _ f];rfl
theorem acg(h:K.nd<w.heap.size):(gR w K.nd).heap[w.heap.size]?=some (.cells #[.pointer none,.pointer none,.pointer none,.pointer none,.pointer none,.pointer none] 111 (0,0)):=by
 unfold gR;rw[dS _ _ _ _ (by show w.heap.size≠K.nd;omega)];have:=aB (w.setCell ⟨K.nd,0,none⟩ (.pointer none)) (.cells #[.pointer none,.pointer none,.pointer none,.pointer none,.pointer none,.pointer none] 111)
 simpa using this
theorem ts{f:Nat}{a b c d:Value}(h:w.heap[f]?=some (.cells #[a,b,c,d] 69 (0,0))):Calls prog 89 #[.pointer (some ⟨f,0,none⟩)] w fun e w'=>e=.returned (.tuple #[])∧w'=gR w f:=by
 have k:w.cell? ⟨f,0,none⟩=some a:=aG _ _ 0 _ _ _ h;have l:w.frozen? ⟨f,0,none⟩=false:=dN h;have g:=aE w f 0 _ _ (.pointer none) h;have j:((w.setCell ⟨f,0,none⟩ (.pointer none)).alloc (.cells #[.pointer none,.pointer none,.pointer none,.pointer none,.pointer none,.pointer none] 111)).heap[f]?=_:=(Below.heap_alloc _ _ _ (ah g)).trans g;have o:((w.setCell ⟨f,0,none⟩ (.pointer none)).alloc (.cells #[.pointer none,.pointer none,.pointer none,.pointer none,.pointer none,.pointer none] 111)).cell? ⟨f,2,none⟩=some c:=aG _ _ 2 _ _ _ j;have p:((w.setCell ⟨f,0,none⟩ (.pointer none)).alloc (.cells #[.pointer none,.pointer none,.pointer none,.pointer none,.pointer none,.pointer none] 111)).frozen? ⟨f,2,none⟩=false:=dN j;have q:=adt;clear h g j;unfold gR
 go_enter func89,ntmps89
 go_wp2_with fail
 go_end0
 exact⟨rfl,by simp⟩
theorem RN.fall{S:Nat->Prop}{B:ByteArray}{ov:Bool}(h:RN w C K i n cap aw N)(g:Kept S w w1)(p:∀x,S x->C x / 100=i∧C x≠100*i+1∧C x≠100*i+9)(v:∃c e f,RP w1 K.r B c e f∧Lk (-2) c e f)(j:∀d,d<6->aT (au B.data.toList d).2.ph=aT (stN N d).ph):RN (gR w1 K.nd) (bV C w1.heap.size (100*i+8)) { K with ls:=w1.heap.size } i n cap aw (gQ { N with B:=B,over:=ov }):=by
 have q:=h.cn;have r:=h.cr;have F:=h.cl;have k:=h.cd;have G:=ah h.row;have H:=ah h.drow;have I:=g.size;have y:w1.heap[K.nd]?=some (.cells (kB K N).toArray 69 (0,0)):=g.row h.row (fun a=>(p _ a).2.1 q);have z:VR w1 K.dn (fun d=>aT (stN N d).ph):=g.row h.drow (fun a=>(p _ a).2.2 k);have s:=rq w1 K.nd;obtain⟨c,e,f,t,A⟩:=v;have J:K.r<w1.heap.size:=ah t;have D:K.r≠K.nd:=fun a=>by rw[a]at r;omega
 have E:K.dn≠K.nd:=fun a=>by rw[a]at k;omega
 have u:VR (gR w1 K.nd) K.dn (fun d=>aT (stN N d).ph):=s.row z E;refine⟨?_,⟨c,e,f,t.kept s D,A⟩,fun l=>(by cases l),?_,?_,fun d j x o=>(by cases o),?_,?_,?_,?_,fun l=>(by cases l),fun d j x o=>(by cases o)⟩
 ·exact acM y
 ·exact acg (by omega)
 ·unfold VR at u ⊢
  rw[u];have b:∀d,d<6->aT (stN (gQ { N with B:=B,over:=ov }) d).ph=aT (stN N d).ph:=j;simp only[b 0 (by omega),b 1 (by omega),b 2 (by omega),b 3 (by omega),b 4 (by omega),b 5 (by omega)]
 ·show bV C _ _ K.nd=_
  rw[aq (by omega)];exact q
 ·show bV C _ _ K.r=_
  rw[aq (by omega)];exact r
 ·exact bw _ _ _
 ·show bV C _ _ K.dn=_
  rw[aq (by omega)];exact k
theorem RW.fell{S:Nat->Prop}{B:ByteArray}{ov:Bool}(h:RW w0 w C Y aw cap zs V m)(c:i<zs.length)(b:Kept S w w1)(e:∀x,S x->C x / 100=i∧C x≠100*i+1∧C x≠100*i+9)(q:∃f g j,RP w1 (Y.K i).r B f g j∧Lk (-2) f g j)(r:∀d,d<6->aT (au B.data.toList d).2.ph=aT (stN (V.nd i) d).ph)(k:m<=m')(s:NI zs.length (gQ { V.nd i with B:=B,over:=ov }) m'):ROut w0 w (gR w1 (Y.K i).nd) C Y aw cap zs (aA V i (gQ { V.nd i with B:=B,over:=ov })) m':=by
 have u:=h.n7.2;have l:=h.nds i c;have v:=l.cn;have y:=b.size;have o:Kept (fun x=>C x / 100=i) w (gR w1 (Y.K i).nd):=(b.mono (fun x a=>(e x a).1)).trans ((rq w1 (Y.K i).nd).mono (fun x a=>by rw[show x=_ from a];omega));refine⟨_,_,h.node o c (fun x a=>a) (fun x a=>aq (by omega)) (fun x a p=>?_) (l.fall (ov:=ov) b e q r) rfl k (h.inv.node s k),kx rfl,o.mono (fun x a=>by show C x<2000;omega),fun x a=>aq (by omega)⟩;rw[yG]
 by_cases t:x=w1.heap.size
 ·omega
 ·rw[aq t]at p
  have:=h.lt x p;omega
end
def cR(F:List E3)(i:Nat)(g:Nat->Bool)(p:Nat->Nat):Nat->List E3
 | 0=>F
 | k+1=>if g k=false∧aT (p k)=true∧(cR F i g p k).length<500 then cR F i g p k++[⟨i,k,p k⟩]else cR F i g p k
def el(g:Nat->Bool)(p:Nat->Nat)(k:Nat):Nat->Bool:=fun e=>if e<k then g e||aT (p e)else g e
theorem qg{F:List E3}{i:Nat}{g:Nat->Bool}{p:Nat->Nat}{k:Nat}(h:g k=aT (p k)):cR F i g p (k+1)=cR F i g p k:=by
 rw[cR,aa];rintro⟨a,b,-⟩;rw[h,b]at a;cases a
theorem lH{F:List E3}{i d:Nat}{g:Nat->Bool}{p:Nat->Nat}(h:∀e,e<d->g e=aT (p e)):∀k,k<=d->cR F i g p k=F
 | 0,_=>rfl
 | k+1,a=>(qg (h k (by omega))).trans (lH h k (by omega))
theorem pp{F:List E3}{i d:Nat}{g:Nat->Bool}{p:Nat->Nat}(h:∀e,d<e->e<6->g e=aT (p e)):∀j,d+1+j<=6->cR F i g p (d+1+j)=cR F i g p (d+1)
 | 0,_=>rfl
 | j+1,a=>(qg (h (d+1+j) (by omega) (by omega))).trans (pp h j (by omega))
theorem abU{F:List E3}{i d a:Nat}{g:Nat->Bool}{p:Nat->Nat}(q:d<6)(j:∀e,e<6->e≠d->g e=aT (p e))(k:g d=aT a)(l:aT a=true->p d=a):cR F i g p 6=noteE F i d a (p d):=by
 obtain⟨h,m⟩:∃h,6=d+1+h:=⟨5-d,by omega⟩;rw[m,pp (fun e n o=>j e o (by omega)) h (by omega),cR,lH (fun e n=>j e (by omega) (by omega)) d aj];unfold noteE
 by_cases b:aT (p d)=true∧F.length<500
 ·by_cases f:aT a=true
  ·rw[aa (by rw[k,f];simp),aa (fun c=>c.1 (l f))]
  ·rw[af ⟨by rw[k];simpa using f,b⟩,af ⟨fun e=>f (by rw[<-e];exact b.1),b⟩]
 ·rw[aa (fun c=>b c.2),aa (fun c=>b c.2)]
theorem zm{F:List E3}{i:Nat}{g:Nat->Bool}{p:Nat->Nat}(a:∀e,e<6->g e=aT (p e)):cR F i g p 6=F:=lH a 6 aj
theorem aa1(g:Nat->Bool)(p:Nat->Nat):el g p 0=g:=funext fun a=>by unfold el;rw[aa (by omega)]
theorem zt{g:Nat->Bool}{p:Nat->Nat}{k:Nat}(h:g k=true∨aT (p k)=false):el g p (k+1)=el g p k:=funext fun a=>by
 unfold el
 by_cases c:a=k
 ·subst c
  rw[af (by omega),aa (by omega)];rcases h with h|h<;>rw[h]<;>simp
 ·by_cases b:a<k
  ·rw[af (by omega),af b]
  ·rw[aa (by omega),aa b]
theorem aaS{g:Nat->Bool}{p:Nat->Nat}{k:Nat}(h:aT (p k)=true):el g p (k+1)=zk (el g p k) k true:=funext fun a=>by
 unfold el zk
 by_cases b:a=k
 ·subst b
  rw[af (by omega),af rfl,h];simp
 ·rw[aa b]
  show _=if a<k then g a||aT (p a)else g a
  by_cases c:a<k
  ·rw[af (by omega),af c]
  ·rw[aa (by omega),aa c]
theorem adr(g:Nat->Bool)(p:Nat->Nat)(k:Nat):el g p k k=g k:=by unfold el;rw[aa (by omega)]
theorem sC{g:Nat->Bool}{p:Nat->Nat}{e:Nat}(a:e<6)(h:g e=true->aT (p e)=true):el g p 6 e=aT (p e):=by
 unfold el;rw[af a]
 cases b:g e with
 | true=>rw[h b];rfl
 | false=>rfl
structure NT (b0:Nat) (w:World) (C:Nat->Nat) (Y:YB) (K:RB) (aw:Option Addr) (cap n i:Nat) (g:Nat->Bool) (E:Nat->Nat×St) (F:List E3):Prop where
 row:w.heap[Y.xb]?=some (.cells (rwC Y aw n cap).toArray 58 (0,0))
 ns:w.cell? ⟨Y.nb,i,none⟩=some (.pointer (some ⟨K.nd,0,none⟩))
 nd:w.cell? ⟨K.nd,0,none⟩=some (.pointer (some ⟨K.t,0,none⟩))
 dd:w.cell? ⟨K.nd,3,none⟩=some (.slice (some ⟨K.dn,0,none⟩) 6 6)
 st:w.cell? ⟨K.t,1,none⟩=some (.pointer (some ⟨K.m,0,none⟩))
 js:∃cs,w.cell? ⟨K.m,2,none⟩=some (.slice (some ⟨K.gs,0,none⟩) 6 cs)
 ph:∀d,d<6->w.cell? ⟨K.gs,d*3,none⟩=some (.int .i64 ((E d).2.ph:Int))
 drow:VR w K.dn g
 evs:w.ownsRow b0 77 3 Y.ev F.length (bu F)
 le:F.length<=500
 i7:i<7
 cx:C Y.xb=1001
 cn:C Y.nb=1003
 c1:C K.nd=100*i+1
 c2:C K.t=100*i+2
 c3:C K.m=100*i+3
 c5:C K.gs=100*i+5
 c9:C K.dn=100*i+9
 ce:∀g,Y.ev.ownBlock=some g->C g=1006
 lt:∀x,C x<2000->x<w.heap.size
def InN(C:Nat->Nat)(i:Nat)(x:Nat):Prop:=C x=1001∨C x=1006∨C x=100*i+9
section
variable {b0:Nat} {w w':World} {C C':Nat→Nat} {Y:YB} {K:RB} {aw:Option Addr} {cap n i k:Nat} {g:Nat→Bool} {E:Nat→Nat×St} {F:List E3}
theorem NT.later(h:NT b0 w C Y K aw cap n i g E F)(b:Below w.heap.size w w'):NT b0 w' C Y K aw cap n i g E F:=by
 have k:Kept (fun _=>False) w w':=Kept.of_below b;obtain⟨c,d⟩:=h.js;exact⟨k.row h.row (fun a=>a),aI h.ns k (fun a=>a),aI h.nd k (fun a=>a),aI h.dd k (fun a=>a),aI h.st k (fun a=>a),⟨c,aI d k (fun a=>a)⟩,fun e f=>aI (h.ph e f) k (fun a=>a),k.row h.drow (fun a=>a),aV h.evs k (fun _ _ a=>a),h.le,h.i7,h.cx,h.cn,h.c1,h.c2,h.c3,h.c5,h.c9,h.ce,fun a j=>bm (h.lt a j) b.size⟩
theorem NT.cells(h:NT b0 w C Y K aw cap n i g E F):w.cell? ⟨Y.xb,1,none⟩=some (.slice (some ⟨Y.nb,0,none⟩) n Y.nc)∧w.cell? ⟨Y.xb,4,none⟩=some Y.ev∧w.frozen? ⟨Y.xb,4,none⟩=false:=
 ⟨by rw[ai h.row];rfl,by rw[ai h.row];rfl,dN h.row⟩
theorem NT.mark(h:NT b0 w C Y K aw cap n i g E F)(e:k<6):NT b0 (w.setCell ⟨K.dn,k,none⟩ (.bool true)) C Y K aw cap n i (zk g k true) E F:=by
 have b:Kept (In1 K.dn) w (w.setCell ⟨K.dn,k,none⟩ (.bool true)):=(Kept.refl _ w).set1 k _;have q:=h.i7;have r:=h.cx;have s:=h.cn;have t:=h.c1;have u:=h.c2;have v:=h.c3;have x:=h.c5;have f:=h.c9;have c:∀a,C a≠100*i+9->¬In1 K.dn a:=fun a j d=>j (by rw[show a=K.dn from d];exact f)
 obtain⟨l,m⟩:=h.js;exact⟨b.row h.row (c _ (by omega)),aI h.ns b (c Y.nb (by omega)),aI h.nd b (c K.nd (by omega)),aI h.dd b (c K.nd (by omega)),aI h.st b (c K.t (by omega)),⟨l,aI m b (c K.m (by omega))⟩,fun o p=>aI (h.ph o p) b (c K.gs (by omega)),h.drow.set e true,aV h.evs b (fun a d=>c a (by have:=h.ce a d;omega)),h.le,h.i7,h.cx,h.cn,h.c1,h.c2,h.c3,h.c5,h.c9,h.ce,fun a d=>by simpa using h.lt a d⟩
def NTo(b0:Nat)(w w':World)(C:Nat->Nat)(Y:YB)(K:RB)(aw:Option Addr)(cap n i:Nat)(g:Nat->Bool)(E:Nat->Nat×St)(F:List E3):Prop:=
 ∃C' v,NT b0 w' C' { Y with ev:=v } K aw cap n i g E F∧Kept (InN C i) w w'∧∀x,x<w.heap.size->C' x=C x
theorem NTo.step{w1 e:World}{C1:Nat->Nat}{v1:Value}{f:Nat->Bool}{h:List E3}(a:Kept (InN C i) w w1)(j:∀x,x<w.heap.size->C1 x=C x)(p:NTo b0 w1 e C1 { Y with ev:=v1 } K aw cap n i f E h):NTo b0 w e C Y K aw cap n i f E h:=by
 obtain⟨C',q,r,b,s⟩:=p;refine⟨C',q,r,?_,fun x l=>(s x (bm l a.size)).trans (j x l)⟩;refine⟨b.os.trans a.os,b.tape.trans a.tape,b.output.trans a.output,bc a.size b.size,fun c d m=>?_⟩;refine(b.block c (bm d a.size) (fun o=>m ?_)).trans (a.block c d m);unfold InN at o ⊢;rw[<-j c d];exact o
theorem NT.push{v':Value}{e:E3}(h:NT b0 w C Y K aw cap n i g E F)(r:w'.ownsRow b0 77 3 v' (F.length+1) (bu F++e3L e))(u:w.grownBy w' Y.ev.ownBlock)(s:v'.ownBlock=Y.ev.ownBlock∨v'.ownBlock=some w.heap.size)(O:F.length<500):NTo b0 w (w'.setCell ⟨Y.xb,4,none⟩ v') C Y K aw cap n i g E (F++[e]):=by
 have P:=h.i7;have v:=h.cx;have Q:=h.cn;have R:=h.c1;have S:=h.c2;have T:=h.c3;have U:=h.c5;have x:=h.c9;have c:=ah h.row;have q:=bZ u;have y:w'.heap[Y.xb]?=some (.cells (rwC Y aw n cap).toArray 58 (0,0)):=q.row h.row (fun b=>by have:=h.ce _ b;omega);have f:Kept (InN C i) w (w'.setCell ⟨Y.xb,4,none⟩ v'):=(q.mono (fun a c=>.inr (.inl (h.ce a c)))).setCell (.inl v) v';have j:∀a,C a≠1001->C a≠1006->C a≠100*i+9->¬InN C i a:=fun a V W X c=>by rcases c with b|b|b<;>omega
 have z:Kept (fun a=>a=Y.xb∨Y.ev.ownBlock=some a) w (w'.setCell ⟨Y.xb,4,none⟩ v'):=(q.mono (fun a c=>.inr c)).setCell (.inl rfl) v';have A:¬(K.dn=Y.xb∨Y.ev.ownBlock=some K.dn):=fun b=>by
  rcases b with b|b
  ·rw[b]at x;omega
  ·have:=h.ce _ b;omega
 have B:(w'.setCell ⟨Y.xb,4,none⟩ v').heap[Y.xb]?=some (.cells (rwC { Y with ev:=v' } aw n cap).toArray 58 (0,0)):=by
  rw[aE w' Y.xb 4 _ _ _ y];rfl
 have D:∀a,v'.ownBlock=some a->a≠Y.xb:=fun a l b=>by
  rcases s with d|d
  ·rw[d]at l;have:=h.ce a l;rw[b]at this;omega
  ·rw[d]at l;have:=bF l;omega
 have G:(w'.setCell ⟨Y.xb,4,none⟩ v').ownsRow b0 77 3 v' (F++[e]).length (bu (F++[e])):=by
  have:=aV r ((Kept.refl (In1 Y.xb) w').set1 4 v') (fun a l b=>D a l b);rw[aR,show bu (F++[e])=bu F++e3L e by unfold bu;simp];exact this
 obtain⟨m,t,H,I⟩:∃m:Nat->Nat,(∀a,a<w.heap.size->m a=C a)∧(∀a,w.heap.size<=a->m a<2000->a<(w'.setCell ⟨Y.xb,4,none⟩ v').heap.size)∧∀a,v'.ownBlock=some a->m a=1006:=by
  rcases s with d|d
  ·exact⟨C,fun _ _=>rfl,fun a c o=>by have:=h.lt a o;omega,fun a c=>h.ce a (by rw[<-d];exact c)⟩
  ·refine⟨bV C w.heap.size 1006,fun a c=>aq (by omega),fun a c o=>?_,fun a c=>?_⟩
   ·by_cases b:a=w.heap.size
    ·rw[b];have:=(r.lt _ d).2;simpa using this
    ·rw[aq b]at o
     have:=h.lt a o;omega
   ·rw[d]at c
    obtain rfl:=bF c;exact bw _ _ _
 obtain⟨J,L⟩:=h.js;have d:∀{a p:Nat},C a=p->p<2000->m a=p:=fun {a p} b o=>(t a (h.lt a (by omega))).trans b
 refine⟨m,v',⟨B,aI h.ns f (j Y.nb (by omega) (by omega) (by omega)),aI h.nd f (j K.nd (by omega) (by omega) (by omega)),aI h.dd f (j K.nd (by omega) (by omega) (by omega)),aI h.st f (j K.t (by omega) (by omega) (by omega)),⟨J,aI L f (j K.m (by omega) (by omega) (by omega))⟩,fun M N=>aI (h.ph M N) f (j K.gs (by omega) (by omega) (by omega)),z.row h.drow A,G,by rw[aR];simp only[bq,List.length_nil];omega,h.i7,d h.cx (by omega),d h.cn (by omega),d h.c1 (by omega),d h.c2 (by omega),d h.c3 (by omega),d h.c5 (by omega),d h.c9 (by omega),I,fun a c=>?_⟩,f,t⟩;rcases bU a w.heap.size with b|b
 ·exact bm b f.size
 ·exact H a b c
end
section
variable {w0 w w1 w':World} {C C':Nat→Nat} {K:RB} {Y:YB} {aw:Option Addr} {i n cap m m':Nat} {zs:List Int} {N:PN} {V V':PX}
theorem nw{n:Nat}{s:Int}(h:cUp n V s=0):∃k:Nat,s=k∧k<n∧upN (V.nd k)=true:=by
 unfold cUp at h
 by_cases a:0<=s∧s<n
 ·rw[af a]at h
  refine⟨s.toNat,by omega,by omega,?_⟩
  by_cases b:upN (V.nd s.toNat)=true
  ·exact b
  ·rw[aa b]at h;omega
 ·rw[aa a]at h;omega
theorem zq(V:PX)(i:Nat):aA V i (gQ { V.nd i with B:=(V.nd i).B,over:=(V.nd i).over })=oI V i:=rfl
theorem abs(s:Int)(c:Nat)(h:RW w0 w C Y aw cap zs V m)(f:cUp zs.length V s=c):Calls prog 25 #[.pointer (some ⟨Y.xb,0,none⟩),.int .i64 s] w fun e w'=>e=.returned (.int .i64 (c:Int))∧ROut w0 w w' C Y aw cap zs (if c=0 then oI V s.toNat else V) (m+1):=by
 have k:=hid h;have o:=hid (kw s c h f)
 by_cases p:c=0
 ·subst p
  obtain⟨a,rfl,g,u⟩:=nw f;obtain⟨-,q,-,-,-⟩:=h.cells;have v:=h.ns a g;have b:=h.nds a g;obtain⟨-,I,-,-⟩:=b.cells;obtain⟨J,L,M,j,x⟩:=b.pl;have O:=j.c1;have P:=j.fz 1;have y:=b.cn;have Q:=b.cr;have d:Kept (In1 (Y.K a).r) w (w.setCell ⟨(Y.K a).r,1,none⟩ (.bool true)):=(Kept.refl _ w).set1 1 _;have l:Y.xb≠(Y.K a).r:=fun e=>by have:=h.cx;rw[e]at this;have:=h.n7.2;omega
  have z:Y.nb≠(Y.K a).r:=fun e=>by have:=h.cn;rw[e]at this;have:=h.n7.2;omega
  have A:(Y.K a).nd≠(Y.K a).r:=fun e=>by rw[e]at y;omega
  have B:=jJ d q l;have R:=jJ d v z;have D:=hid (d.row b.row A);have r:=hid g;have E:=hid (j.s1 true);have F:=hid b;have G:=hid d;obtain⟨n,t⟩:∃n,zs.length=n:=⟨_,rfl⟩;rw[t]at q B g;clear h f b u t j x d
  go_enter func25,ntmps25
  go_wp2_with fail
  refine o.mono ?_;rintro e w1 ⟨rfl,rfl⟩
  go_wp2_with fail
  refine(ts D).mono ?_;rintro e S ⟨rfl,rfl⟩
  go_wp2_with fail
  go_ret
  refine⟨rfl,?_⟩;rw[<-zq];exact k.fell r G (fun H l=>by rw[show H=_ from l];have:=F.cr;omega) ⟨_,_,_,E,.inl ⟨rfl,rfl⟩⟩ (fun _ _=>rfl) (aP _) ((k.inv.nd a r).fall.mono (aP _))
 ·have T:¬((c:Int)=0):=by omega
  rw[aa p];clear h f
  go_enter func25,ntmps25
  go_wp2_with fail
  refine o.mono ?_;rintro e w1 ⟨rfl,rfl⟩
  go_wp2_with fail
  go_ret
  exact⟨rfl,k.out.out aF (aP _)⟩
theorem RN.cut{l:Int}(h:RN w C K i n cap aw N)(g:upN N=true)(s:l≠-2)(c:Kept (In1 K.r) w w')(j:∃k o p,RP w' K.r N.B k o p∧Lk l k o p):RN w' C K i n cap aw { N with l:=l }:=by
 obtain⟨t,u,v,x,y⟩:=h.cu g;have J:=h.cn;have z:=h.cr;have L:=h.cl;have M:=h.cd;have a:∀b,C b≠100*i+7->¬In1 K.r b:=fun b e f=>e (by rw[show b=K.r from f];exact z)
 obtain⟨d,A⟩:=h.up g;have B:upN { N with l:=l }=upN N:=by rw[g];unfold upN;simpa using s
 have D:kB K { N with l:=l }=kB K N:=by unfold kB rsV;rw[B]
 refine⟨by rw[D];exact c.row h.row (a _ (by omega)),j,fun _=>⟨⟨d.rj.kept c (a _ (by omega)) (a _ (by omega)) (a _ (by omega)),j,d.rm,d.rn,d.rs,d.sz,d.s6⟩,A.kept c (a _ (by omega)) (a _ (by omega))⟩,c.row h.lrow (a _ (by omega)),c.row h.drow (a _ (by omega)),fun q r b f=>?_,h.cn,h.cr,h.cl,h.cd,fun _=>⟨t,u,v,x,y⟩,h.ce⟩;obtain⟨E,F,G⟩:=h.lds q r b f;obtain⟨O,H⟩:=h.ce q r b f;exact⟨E,F,G.kept c (a _ (by omega)) (fun e I=>a e (by have:=H e I;omega))⟩
theorem aat(V:PX)(i:Nat):aA V i (V.nd i)=V:=by
 unfold aA;have:(fun a=>if a=i then V.nd i else V.nd a)=V.nd:=funext fun a=>by
  by_cases b:a=i
  ·rw[af b,b]
  ·rw[aa b]
 rw[this]
theorem vE(V:PX)(s:Nat)(x:Int)(h:cL (V.nd s).l x=(V.nd s).l):mP V s x=V:=by
 unfold mP;rw[h];exact aat V s
theorem aeb(s x:Int)(c:Nat)(h:RW w0 w C Y aw cap zs V m)(f:x<=9223372036854775807)(k:kP zs.length V s x=c):Calls prog 31 #[.pointer (some ⟨Y.xb,0,none⟩),.int .i64 s,.int .i64 x] w fun e w'=>e=.returned (.int .i64 (c:Int))∧ROut w0 w w' C Y aw cap zs (if 0<=s∧s<zs.length then mP V s.toNat x else V) (m+1):=by
 have l:=hid h
 by_cases o:x<0
 ·have J:c=2:=by
   rw[<-k];unfold kP cC;rw[af o]
   split<;>rfl
  have p:(if 0<=s∧s<zs.length then mP V s.toNat x else V)=V:=by
   split
   ·exact vE _ _ _ (by unfold cL;rw[af o])
   ·rfl
  rw[p];subst J;clear h k p f
  go_enter func31,ntmps31
  go_wp2_with fail
  go_ret
  exact⟨rfl,l.out.out aF (aP _)⟩
 ·obtain⟨g,j⟩:∃g,cUp zs.length V s=g:=⟨_,rfl⟩
  have y:=hid (kw s g h j)
  by_cases u:g=0
  ·subst u
   obtain⟨a,rfl,q,r⟩:=nw j;have d:(V.nd a).l≠-2:=by unfold upN at r;simpa using r
   have b:(0:Int)<=(a:Int)∧(a:Int)<zs.length:=⟨by omega,by omega⟩;rw[af b,aU];have z:cC (V.nd a).l x=c:=by rw[<-k];unfold kP;rw[af b,aU]
   obtain⟨-,L,-,-,-⟩:=h.cells;have X:=h.ns a q;have v:=h.nds a q;obtain⟨-,Z,-,-⟩:=v.cells;obtain⟨M,O,P,A,B⟩:=v.pl;have Q:=hid (ahS (Y.K a).r (V.nd a).B (V.nd a).l x O M P w A B f);have D:cL (V.nd a).l x=x:=by unfold cL;rw[aa o,aa d]
   have R:=hid D;have t:=hid q;have S:=hid r;have T:=hid z;have U:=hid f;obtain⟨n,E⟩:∃n,zs.length=n:=⟨_,rfl⟩;rw[E]at L q;clear h k v r E A B b j d z D f
   go_enter func31,ntmps31
   go_wp2_with fail
   refine y.mono ?_;rintro e w1 ⟨rfl,rfl⟩
   go_wp2_with fail
   refine Q.mono ?_;rintro e w2 ⟨rfl,F,G⟩;rw[T.out];have W:=hid F;have H:=hid G;clear F G
   go_wp2_with fail
   go_ret
   refine⟨rfl,?_⟩;exact l.nodeOut t H (fun x f=>by rw[show x=_ from f];have:=(l.nds a t).cr;omega) ((l.nds a t).cut S (by rw[R.out];omega) H W) rfl (aP _) (((l.inv.nd a t).cut U).mono (aP _))
  ·have u9:¬((g:Int)=0):=by omega
   have u8:¬((g:Int)<=0):=by omega
   have I:c=g:=by
    rw[<-k,<-j];unfold kP cUp cC
    by_cases b:0<=s∧s<zs.length
    ·rw[af b,af b,aa o]
     by_cases d:(V.nd s.toNat).l=-2
     ·rw[af d,aa (by unfold upN;simp[d])]
     ·exfalso
      apply u;rw[<-j];unfold cUp;rw[af b,af (by unfold upN;simpa using d)]
    ·rw[aa b,aa b]
   have p:(if 0<=s∧s<zs.length then mP V s.toNat x else V)=V:=by
    by_cases b:0<=s∧s<zs.length
    ·rw[af b]
     refine vE _ _ _ ?_
     by_cases d:(V.nd s.toNat).l=-2
     ·unfold cL;rw[aa o,af d]
     ·exfalso
      apply u;rw[<-j];unfold cUp;rw[af b,af (by unfold upN;simpa using d)]
    ·rw[aa b]
   rw[p,I];clear h k p f j I
   go_enter func31,ntmps31
   go_wp2_with fail
   refine y.mono ?_;rintro e w1 ⟨rfl,rfl⟩
   go_wp2_with fail
   go_ret
   exact⟨rfl,l.out.out aF (aP _)⟩
end
theorem od{w:World}{b a:Nat}{e:TypeId}{size n:Nat}{v:Value}{xs:List Value}(h:w.ownsRow b e size v n xs)(c:a<=b):w.ownsRow a e size v n xs:=by
 refine⟨h.1,?_⟩;rcases h.2 with d|⟨f,cap,g,rfl,i,rest⟩
 ·exact .inl d
 ·exact .inr ⟨f,cap,g,rfl,bc c i,rest⟩
theorem ye{w:World}{g o cap c k:Nat}{L:List F9}(h:IsFr w (.slice (some ⟨g,o,none⟩) L.length cap) L)(r:k<=L.length):IsFr w (.slice (some ⟨g,o,none⟩) k c) (L.take k):=by
 have a:(L.take k).length=k:=by rw[bI];omega
 obtain⟨s,t,b,d⟩:=h;injection b with e u v
 subst e;refine⟨_,c,by rw[a],fun f i=>?_⟩;rw[a]at i;obtain⟨j,l,m,n⟩:=d f (by omega);refine⟨j,l,m,fun p q=>?_⟩;rw[n p q,List.getElem_take]
theorem xq{w:World}{g o o2 cap c k:Nat}{L:List F9}(h:IsFr w (.slice (some ⟨g,o,none⟩) L.length cap) L)(t:k<=L.length)(b:k<L.length->o2=o+k*9):IsFr w (.slice (some ⟨g,o2,none⟩) (L.length-k) c) (L.drop k):=by
 have a:(L.drop k).length=L.length-k:=by rw[List.length_drop]
 obtain⟨u,v,d,e⟩:=h;injection d with f x y
 subst f;refine⟨_,c,by rw[a],fun i j=>?_⟩;rw[a]at j;obtain⟨z,A,l,m⟩:=e (k+i) (by omega);have n:=bF l;injection n with p q
 subst p q;refine⟨g,o2,rfl,fun r s=>?_⟩;have:=m r s;rw[b (by omega),List.getElem_drop,<-this]
 congr 2
 omega
section
variable {w0 w w':World} {C C':Nat→Nat} {Y:YB} {aw:Option Addr} {cap m m':Nat} {zs:List Int} {V V':PX}
theorem vA(k:Nat)(F:F9)(h:RW w0 w C Y aw cap zs V m)(x:k<V.fly.length)(hF:V.fly[k]'x=F)(hm:m<=100000000):Calls prog 92 #[.pointer (some ⟨Y.xb,0,none⟩),.int .i64 (k:Int)] w fun e w'=>e=.returned (.tuple #[frV F.f F.t F.d F.k F.a F.y F.ph F.pr F.pa,.bool true])∧ROut w0 w w' C Y aw cap zs (ay V k) m:=by
 obtain⟨f,c,E,G,d8,a0,d9,e0,e1,c4⟩:∃f c,∃E:Array Value,Y.fv=.slice (some ⟨f,0,none⟩) V.fly.length c∧w0.heap.size<=f∧w.heap[f]?=some (.cells E 125 (0,0))∧V.fly.length<=c∧c<=maxLen∧E.size=c*9∧E.toList.take (V.fly.length*9)=am V.fly:=by
  rcases h.fly.2 with⟨-,h0⟩|h1
  ·omega
  ·exact h1
 have a1:=hid (IsFr.owned h.fly);rw[G]at a1;have c5:∀n,n<9->w.cell? ⟨f,k*9+n,none⟩=(f9L F)[n]?:=fun n y=>by
  rw[<-hF,ai a0,<-gJ V.fly k n x y,<-c4,List.getElem?_take_of_lt (by omega),Array.getElem?_toList]
 obtain⟨H,I,J,K,L,M,N,O,P⟩:=F;obtain⟨o,Q⟩:=nmd (w.alloc (.cells #[iV 0,iV 0,iV 0,iV 0,iV 0,.bool false,iV 0,iV 0,iV 0] 125));have g:Hid (bW w o):=by rw[<-Q.out];exact aD
 have c6:Hid (o.heap[w.heap.size]?=some (.cells #[iV 0,iV 0,iV 0,iV 0,iV 0,.bool false,iV 0,iV 0,iV 0] 125 (0,0))):=by rw[<-Q.out];exact aB w _
 have e2:o.heap.size=w.heap.size+1:=by rw[<-Q.out];simp
 obtain⟨a,R⟩:=nmd (o.alloc (.cells #[iV H,iV I,iV J,iV K,iV L,.bool M,iV N,iV O,iV P] 125));have p:Hid (bW w a):=by rw[<-R.out];exact g.alloc g.size _
 have a2:Hid (a.heap[w.heap.size]?=some (.cells #[iV 0,iV 0,iV 0,iV 0,iV 0,.bool false,iV 0,iV 0,iV 0] 125 (0,0))):=by rw[<-R.out];exact(Below.heap_alloc o _ _ (ah c6)).trans c6
 have c7:Hid (a.heap[w.heap.size+1]?=some (.cells #[iV H,iV I,iV J,iV K,iV L,.bool M,iV N,iV O,iV P] 125 (0,0))):=by rw[<-R.out,<-e2];exact aB o _
 have S:=hid h;have c8:=hid (h.later p);obtain⟨i,hn⟩:=nmd (V.fly.length);have e3:V.fly.length<=1000000000000:=by have:=h.inv.fl;omega
 have T:=(h.cells).2.2.2.1;rw[G]at T;have e4:=ag g T;have a3:=ag p T;obtain⟨b0,b1,b2,b3,b4,b5,b6,b7,b8⟩:=mH (o:=k*9) c5;simp only at b0 b1 b2 b3 b4 b5 b6 b7 b8;have y0:=ag g b0;have y1:=ag g b1;have y2:=ag g b2;have y3:=ag g b3;have y4:=ag g b4;have y5:=ag g b5;have y6:=ag g b6;have y7:=ag g b7;have y8:=ag g b8;have c9:=hid (ye (c:=c) (a1.later p) (Nat.le_of_lt x));obtain⟨z,a4⟩:∃z,z=if c=k+1 then 0 else(k+1)*9:=⟨_,rfl⟩
 have a5:=hid (xq (c:=c-(k+1)) (o2:=z) (k:=k+1) a1 x (fun s=>by rw[a4,aa (by omega)];omega));have g0:(if c=k+1 then some (⟨f,0,none⟩:Addr)else some ⟨f,(k+1)*9,none⟩)=some ⟨f,z,none⟩:=by rw[a4];split<;>rfl
 have U:Hid (V.fly.take k++V.fly.drop (k+1)=V.fly.eraseIdx k):=(List.eraseIdx_eq_take_drop_succ V.fly k).symm;have a6:(V.fly.take k).length=k:=by rw[bI];omega
 have W:(V.fly.drop (k+1)).length=V.fly.length-(k+1):=by rw[List.length_drop]
 obtain⟨A,e5⟩:=nmd (V.fly.take k);obtain⟨X,e6⟩:=nmd (V.fly.drop (k+1));rw[e5.out]at c9 U a6;rw[e6.out]at a5 U W;rw[hn.out]at T e4 a3 x e3 d9 W a5;have g3:IntKind.i64.wrap ((k:Int)+1)=(k:Int)+1:=by rw[IntKind.wrap_i64];omega
 have g4:(0:Int)<=(k:Int)+1:=by omega
 have g5:(k:Int)+1<=(i:Int):=by omega
 have a7:(k:Int)<=(c:Int):=by omega
 have q:((k:Int)+1).toNat=k+1:=by omega
 have g6:=ah h.row;have g7:=hid (ah a0);have g8:=Q.out;have g9:=R.out;have a8:=hid a6;have a9:=hid W;have HV:=hid G;clear h G d8 a0 e0 e1 c4 c5 hF a4 b0 b1 b2 b3 b4 b5 b6 b7 b8 a6 W;have e7:Hid (∀d,a.grownBy d none->d.cell? ⟨Y.xb,3,none⟩=some (.slice (some ⟨f,0,none⟩) i c)∧bW a d):=by
  intro d t;have j:bW a d:=Below.grown aF t aj (fun n y=>by cases y);exact⟨ag j a3,j⟩
 have e8:Hid (∀(v3:Value) (d b:World) (ys:List Value),d.ownsRow a.heap.size 125 9 v3 k ys->bW a d->d.grownBy b v3.ownBlock->b.cell? ⟨Y.xb,3,none⟩=some (.slice (some ⟨f,0,none⟩) i c)∧b.frozen? ⟨Y.xb,3,none⟩=false∧bW a b):=by
  intro v3 d b ys Z j t;have q:bW a b:=Below.grown j t j.size (fun n y=>(Z.lt n y).1);exact⟨ag q a3,dN ((c8.later q).row),q⟩
 have e9:Hid (∀(l:Value) (b:World),b.ownsRow a.heap.size 125 9 l (k+(i-(k+1))) (am A++am X)->bW a b->ROut w0 a (b.setCell ⟨Y.xb,3,none⟩ l) C Y aw cap zs (ay V k) m):=by
  intro l b Z j;have f0:(V.fly.eraseIdx k).length=k+(i-(k+1)):=by rw[<-U.out,aR,a8.out,a9.out]
  refine c8.framed (F:=V.fly.eraseIdx k) (S:=fun _=>False) (Kept.of_below j) (fun _ r=>r.elim) ?_ ?_ aj S.inv.take
  ·rw[f0,<-U.out,cE]
   exact od Z (bc S.bel.size p.size)
  ·cases f1:l.ownBlock with
   | none=>exact .inl rfl
   | some B=>exact .inr (.inr ⟨B,rfl,(Z.lt B f1).1⟩)
 have f2:Hid (∀(l:Value) (b:World),bW a b->(b.setCell ⟨Y.xb,3,none⟩ l).heap[w.heap.size]?=some (.cells #[iV 0,iV 0,iV 0,iV 0,iV 0,.bool false,iV 0,iV 0,iV 0] 125 (0,0))∧(b.setCell ⟨Y.xb,3,none⟩ l).heap[w.heap.size+1]?=some (.cells #[iV H,iV I,iV J,iV K,iV L,.bool M,iV N,iV O,iV P] 125 (0,0))):=by
  intro l b j;have d0:Kept (In1 Y.xb) b (b.setCell ⟨Y.xb,3,none⟩ l):=(Kept.refl _ b).set1 3 l;exact⟨d0.row ((j.block _ (ah a2)).trans a2) (fun e=>by have:w.heap.size=Y.xb:=e;omega),d0.row ((j.block _ (ah c7)).trans c7) (fun e=>by have:w.heap.size+1=Y.xb:=e;omega)⟩
 have f3:Hid (2000<=C w.heap.size):=by
  rcases bU (C w.heap.size) 2000 with b9|b9
  ·have:=S.lt _ b9;omega
  ·exact b9
 go_enter func92,ntmps92
 go_wp2_with (first
  | (at_builtin;refine dQ rfl _ _ rfl a.heap.size 0 (.slice none 0 0) (.slice (some ⟨f,0,none⟩) k c) [] A rfl rfl (World.ownsRow_nil _ _ _ _) c9 (by rw[a8.out];omega) aj ?_;rw[a8.out,Nat.zero_add];intro f4 f5 d d1 t _;obtain⟨h2,a7⟩:=e7.out d t;have D:=hid (And.intro d1 a7);clear d1 t a7)
  | (at_builtin;refine dQ rfl _ _ rfl a.heap.size k (.slice f4 k f5) (.slice (some ⟨f,z,none⟩) (i-(k+1)) (c-(k+1))) ([]++am A) X rfl rfl D.1 (a5.later (p.trans (D.2.mono p.size))) (by rw[a9.out];omega) D.2.size ?_;rw[a9.out,List.nil_append];intro d2 d3 b d4 d5 _;obtain⟨h3,h4,q⟩:=e8.out _ d b _ D.1 D.2 d5;have d6:=hid (e9 _ b d4 q);obtain⟨c0,c1⟩:=f2.out (.slice d2 (k+(i-(k+1))) d3) b q;obtain⟨W5,d7⟩:=nmd (b.setCell ⟨Y.xb,3,none⟩ (.slice d2 (k+(i-(k+1))) d3));rw[d7.out]at d6 c0 c1;have c2:=hid c0;have f6:=hid c1;obtain⟨z0,z1,z2,z3,z4,z5,z6,z7,z8⟩:=bH (f:=0) (t:=0) (d:=0) (k:=0) (a:=0) (y:=false) (ph:=0) (pr:=0) (pa:=0) c2;obtain⟨h5,h6,h7,h8,h9,i0,i1,i2,i3⟩:=rJ c2;obtain⟨i4,i5,i6,i7,i8,i9,j0,j1,j2⟩:=bH f6;have j3:=d7.out;clear d4 d5 q c0 c1))
 obtain⟨Yw,HY,f7,u⟩:=oL c2 H I J K L M N O P;rw[HY.out];refine bh (cH rfl _ _ w.heap.size 125 _ (0,0) _ rfl (f7) underlying125 rfl (by kernel_rfl)) rfl ?_;refine⟨rfl,?_⟩;obtain⟨C',Y',g1,g2,f8,B⟩:=d6.out;have v:Kept (di C) w W5:=(Kept.of_below p).trans f8;have f9:2000<=C' w.heap.size:=by rw[B _ (ah a2)];exact f3
 exact⟨C',Y',g1.far u (fun r s=>by rw[show r=w.heap.size from s];exact f9) (fun r s=>by rw[show r=w.heap.size from s];exact S.bel.size),g2,⟨u.os.trans v.os,u.tape.trans v.tape,u.output.trans v.output,bc v.size u.size,fun c3 hy hs=>(u.block c3 (bm hy v.size) (fun e=>by have:c3=w.heap.size:=e;omega)).trans (v.block c3 hy hs)⟩,fun r s=>B r (bm s p.size)⟩
end
section
variable {w0 w w':World} {C C':Nat→Nat} {Y:YB} {aw:Option Addr} {cap m m':Nat} {zs:List Int} {V V':PX}
theorem RW.flyForm(h:RW w0 w C Y aw cap zs V m):∃a c,Y.fv=.slice a V.fly.length c:=by
 rcases h.fly.2 with⟨b,d⟩|⟨e,f,g,b,-⟩
 ·exact⟨none,0,by rw[b,d]⟩
 ·exact⟨_,_,b⟩
theorem uG(s:Int)(h:RW w0 w C Y aw cap zs V m)(p:¬(0<=s∧s<V.fly.length))(v:m<=100000000):Calls prog 92 #[.pointer (some ⟨Y.xb,0,none⟩),.int .i64 s] w fun e w'=>e=.returned (.tuple #[frV 0 0 0 0 0 false 0 0 0,.bool false])∧Below w.heap.size w w':=by
 obtain⟨x,y,o⟩:=h.flyForm;have d:=(h.cells).2.2.2.1;rw[o]at d;obtain⟨b,f⟩:=nmd (w.alloc (.cells #[iV 0,iV 0,iV 0,iV 0,iV 0,.bool false,iV 0,iV 0,iV 0] 125));have a:Hid (bW w b):=by rw[<-f.out];exact aD
 have c:Hid (b.heap[w.heap.size]?=some (.cells #[iV 0,iV 0,iV 0,iV 0,iV 0,.bool false,iV 0,iV 0,iV 0] 125 (0,0))):=by rw[<-f.out];exact aB w _
 have q:=ag a d;have r:V.fly.length<=1000000000000:=by have:=h.inv.fl;omega
 obtain⟨g,t⟩:=nmd (V.fly.length);rw[t.out]at d q p r;have z:=f.out;obtain⟨A,B,D,E,F,G,H,I,J⟩:=bH (f:=0) (t:=0) (d:=0) (k:=0) (a:=0) (y:=false) (ph:=0) (pr:=0) (pa:=0) c;obtain⟨K,L,M,N,O,P,Q,R,S⟩:=rJ c;clear h o
 by_cases T:s<0
 ·go_enter func92,ntmps92
  go_wp2_with fail
  obtain⟨u,i,j,k⟩:=oL c 0 0 0 0 0 false 0 0 0;rw[i.out];refine bh (cH rfl _ _ w.heap.size 125 _ (0,0) _ rfl (j) underlying125 rfl (by kernel_rfl)) rfl ?_;exact⟨rfl,k.below a.size (fun l n=>Nat.le_of_eq (show l=w.heap.size from n).symm) a⟩
 ·have U:(g:Int)<=s:=by omega
  go_enter func92,ntmps92
  go_wp2_with fail
  obtain⟨u,i,j,k⟩:=oL c 0 0 0 0 0 false 0 0 0;rw[i.out];refine bh (cH rfl _ _ w.heap.size 125 _ (0,0) _ rfl (j) underlying125 rfl (by kernel_rfl)) rfl ?_;exact⟨rfl,k.below a.size (fun l n=>Nat.le_of_eq (show l=w.heap.size from n).symm) a⟩
theorem ROut.later{a:World}(h:ROut w0 w w' C Y aw cap zs V' m')(b:Below w'.heap.size w' a):ROut w0 w a C Y aw cap zs V' m':=by
 obtain⟨g,i,c,d,e,f⟩:=h;exact ROut.step d e f (c.out b aj)
theorem qP(w:World)(f t d k a:Int)(y:Bool)(ph pr pa:Int):Below w.heap.size w (w.alloc (.cells #[.int .i64 f,.int .i64 t,.int .i64 d,.int .i64 k,.int .i64 a,.bool y,.int .i64 ph,.int .i64 pr,.int .i64 pa] 125)):=aD
theorem ad8(k:Nat)(h:RW w0 w C Y aw cap zs V m)(b:k<V.fly.length)(c:m<=100000000):Calls prog 28 #[.pointer (some ⟨Y.xb,0,none⟩),.int .i64 (k:Int)] w fun e w'=>e=.returned (.int .i64 0)∧ROut w0 w w' C Y aw cap zs (ay V k) m:=by
 have g:=hid h;have i:=hid c;have a:=hid b;clear h c b
 go_enter func28,ntmps28
 go_wp2_with fail
 refine(vA k _ g a rfl i).mono ?_;rintro e j ⟨rfl,d⟩;have f:=hid (d.later (qP j (V.fly[k]'a).f (V.fly[k]'a).t (V.fly[k]'a).d (V.fly[k]'a).k (V.fly[k]'a).a (V.fly[k]'a).y (V.fly[k]'a).ph (V.fly[k]'a).pr (V.fly[k]'a).pa));clear d;generalize (V.fly[k]'a)=l at f ⊢;obtain⟨n,o,p,q,r,s,t,u,v⟩:=l
 go_wp2_with fail
 go_ret
 exact⟨rfl,f⟩
theorem adi(s:Int)(h:RW w0 w C Y aw cap zs V m)(b:¬(0<=s∧s<V.fly.length))(c:m<=100000000):Calls prog 28 #[.pointer (some ⟨Y.xb,0,none⟩),.int .i64 s] w fun e w'=>e=.returned (.int .i64 4)∧Below w.heap.size w w':=by
 have d:=hid h;have f:=hid c;have g:=hid (show ¬(0<=s∧s<(V.fly.length:Int))from b);clear h c b
 go_enter func28,ntmps28
 go_wp2_with fail
 refine(uG s d g f).mono ?_;rintro e i ⟨rfl,a⟩;have j:=hid (a.trans ((qP i 0 0 0 0 0 false 0 0 0).mono a.size));clear a
 go_wp2_with fail
 go_ret
 exact⟨rfl,j⟩
end
end Go.Proofs.YtaehdgemkafinaaGreatDoor
