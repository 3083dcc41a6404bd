/-
  On the way to SPlaysProof: VO VP VQ VR XE.
-/
import Derived.Test.YtaehdgemkafinaaGreatDoorBx25
import Derived.Test.YtaehdgemkafinaaGreatDoorBx26
set_option maxHeartbeats 8000000
set_option maxRecDepth 100000
namespace Go.Proofs.YtaehdgemkafinaaGreatDoor
open Go.RowKit
open Go.Proofs.Tryz
section
variable {w0 w w':World} {C:Nat→Nat} {K:NB} {X:XB} {i m m':Nat} {zs:List Int} {N:PN} {V V':PX} {A:Nat→Addr}
theorem XI.take{k:Nat}(h:XI zs V m):XI zs (ay V k) m:=
 ⟨h.he,h.nd,fun a b=>h.fr a (List.mem_of_mem_eraseIdx b),bc (List.length_eraseIdx_le _ _) h.fl,h.ev⟩
theorem WD.flyForm(h:WD w0 w C X zs V m)(b:0<V.fly.length):∃g o cap,∃a:Array Value,X.fv=.slice (some ⟨g,o,none⟩) V.fly.length cap∧w0.heap.size<=g∧w.heap[g]?=some (.cells a 125 (0,0))∧V.fly.length<=cap∧cap<=maxLen∧o+cap*9<=a.size∧∀j,j<V.fly.length*9->a[o+j]?=(am V.fly)[j]?:=by
 rcases h.fly with⟨-,c⟩|⟨g,o,cap,a,d,e,f,k,l,n,p⟩
 ·rw[c]at b;simp at b
 ·exact⟨g,o,cap,a,d,e,f,k,l,n,p⟩
theorem WD.taken{k g o f cap j:Nat}(h:WD w0 w C X zs V m)(t:X.fv=.slice (some ⟨g,o,none⟩) V.fly.length cap)(u:OwnF w' w0.heap.size (.slice (some ⟨g,f,none⟩) (V.fly.length-1) j) (V.fly.eraseIdx k))(p:Kept (In1 g) w w'):WOut w0 w (w'.setCell ⟨X.xb,3,none⟩ (.slice (some ⟨g,f,none⟩) (V.fly.length-1) j)) C X zs (ay V k) m:=by
 have l:C g=1005:=h.cf g (by rw[t];rfl);have y:=h.cx;have q:g≠X.xb:=fun b=>by rw[b]at l;omega
 have v:w'.heap[X.xb]?=some (.cells (wdC X zs.length).toArray 148 (0,0)):=p.row h.row (fun b=>q (show X.xb=g from b).symm);have r:∀a,(a=X.xb∨a=g)->C a=1001∨C a=1005∨C a=1006:=fun a c=>by
  rcases c with rfl|rfl
  ·exact .inl h.cx
  ·exact .inr (.inl l)
 have n:Kept (fun a=>a=X.xb∨a=g) w (w'.setCell ⟨X.xb,3,none⟩ (.slice (some ⟨g,f,none⟩) (V.fly.length-1) j)):=(p.mono (fun a c=>.inr c)).setCell (.inl rfl) _;refine⟨C,{ X with fv:=.slice (some ⟨g,f,none⟩) (V.fly.length-1) j },?_,rfl,n.mono (fun a c=>by show C a<2000;rcases r a c with s|s|s<;>omega),fun _ _=>rfl⟩
 refine h.own (ev:=X.ev) (E:=V.evs) (F:=V.fly.eraseIdx k) n r (fun _ _=>rfl) (fun a c x=>by have:=h.lt a x;omega) ?_ ?_ ?_ ?_ h.ce aj h.inv.take
 ·rw[aE w' X.xb 3 _ _ _ v];rfl
 ·exact u.kept ((Kept.refl (In1 X.xb) w').set1 3 _) (fun d e b=>by
   have:g=d:=bF e;rw[<-this]at b;exact q b)
 ·exact aV h.evs n (fun d e b=>by
   have z:=h.ce d e;rcases b with rfl|rfl
   ·omega
   ·omega)
 ·intro d e
  have:g=d:=bF e;rw[<-this];exact l
theorem tk{g o k:Nat}{a:Array Value}{L:List F9}(c:w.heap[g]?=some (.cells a 125 (0,0)))(ht:∀j,j<L.length*9->a[o+j]?=(am L)[j]?)(b:k<L.length):∀j,j<9->w.cell? ⟨g,o+k*9+j,none⟩=(f9L (L[k]'b))[j]?:=by
 intro j d;rw[ai c,<-gJ L k j b d,<-ht _ (by omega),Nat.add_assoc]
theorem OwnF.moved{base g o a k cap:Nat}{b:Array Value}{L:List F9}(l:base<=g)(n:w.heap[g]?=some (.cells b 125 (0,0)))(h:k<L.length)(u:L.length<=cap)(v:cap<=maxLen)(x:o+cap*9<=b.size)(p:∀j,j<L.length*9->b[o+j]?=(am L)[j]?)(d:a=if cap=1 then o else o+9):OwnF (w.setCells g a (am (L.take k))) base (.slice (some ⟨g,a,none⟩) (L.length-1) (cap-1)) (L.eraseIdx k)∧(am (L.take k)).length=k*9∧a+k*9<=b.size:=by
 have c:(am (L.take k)).length=k*9:=by rw[ba,bI,Nat.min_eq_left (Nat.le_of_lt h)]
 have e:(L.eraseIdx k).length=L.length-1:=List.length_eraseIdx_of_lt h;have f:a+k*9<=b.size:=by
  rw[d];split<;>omega
 refine⟨?_,c,f⟩;have q:=eo (am (L.take k)) a w b n (by rw[c];exact f);refine .inr ⟨g,a,cap-1,_,by rw[e],l,q,by rw[e];omega,by omega,?_,fun j r=>?_⟩
 ·rw[List.size_toArray,aR,aR,bI,List.length_drop,Array.length_toList (xs:=b),c,d]
  split<;>omega
 ·rw[e]at r
  have s:a=o+9:=by rw[d,aa (by omega)]
  rw[List.getElem?_toArray,jK _ _ _ _ (by rw[Array.length_toList (xs:=b),c];exact f),aa (by omega),c,List.eraseIdx_eq_take_drop_succ,cE]
  by_cases t:j<k*9
  ·rw[af (by omega),List.getElem?_append_left (by rw[c];exact t)]
   congr 1
   omega
  ·rw[aa (by omega),List.getElem?_append_right (by rw[c];omega),c,Array.getElem?_toList,s,Nat.add_assoc,p _ (by omega),fA,List.getElem?_drop]
   congr 1
   omega
theorem WD.far{S:Nat->Prop}(h:WD w0 w C X zs V m)(k:Kept S w w')(g:∀x,S x->2000<=C x)(f:∀x,S x->w0.heap.size<=x):WD w0 w' C X zs V m:=by
 obtain⟨j,l,n⟩:=h.brk;have p:=h.n7;have q:=h.cx;have r:=h.cw;have s:=h.cn;have t:=h.cm;have a:∀x,C x<2000->¬S x:=fun x d o=>by have:=g x o;omega
 exact⟨k.below h.bel.size f h.bel,k.row h.row (a _ (by omega)),fun i b=>aI (h.ws i b) k (a _ (by show C X.wb<2000;omega)),fun i b=>aI (h.ns i b) k (a _ (by show C X.nb<2000;omega)),fun i b=>(h.nds i b).kept k (fun x _ d=>a x (by omega)) f,
  ⟨j,fB l k (a _ (by omega)),n⟩,h.fly.kept k (fun c e=>a c (by have:=h.cf c e;omega)),aV h.evs k (fun c e=>a c (by have:=h.ce c e;omega)),h.cx,h.cw,h.cn,h.cm,h.cf,h.ce,fun x d=>bm (h.lt x d) k.size,h.low,h.inv⟩
theorem afd{c g:World}{C':Nat->Nat}{d:XB}{h:Nat}(k:WD w0 c C' d zs V' m)(l:key d=key X)(a:Kept (di C) w c)(n:∀x,x<w.heap.size->C' x=C x)(b:Kept (In1 h) c g)(r:w.heap.size<=h)(o:2000<=C' h)(h0:w0.heap.size<=h):WOut w0 w g C X zs V' m:=
 ⟨C',d,k.far b (fun x e=>by rw[show x=h from e];exact o) (fun x e=>by rw[show x=h from e];exact h0),l,⟨b.os.trans a.os,b.tape.trans a.tape,b.output.trans a.output,bc a.size b.size,fun f j p=>(b.block f (bm j a.size) (fun q=>by have:f=h:=q;omega)).trans (a.block f j p)⟩,n⟩
theorem yj(k:Nat)(F:F9)(h:WD w0 w C X zs V m)(r:k<V.fly.length)(hF:V.fly[k]'r=F)(hm:m<=100000000):Calls prog 114 #[.pointer (some ⟨X.xb,0,none⟩),.int .i64 (k:Int)] w fun e w'=>e=.returned (frV F.f F.t F.d F.k F.a F.y F.ph F.pr F.pa)∧WOut w0 w w' C X zs (ay V k) m:=by
 obtain⟨a,d,cap,a9,l,h2,s,h4,h5,h6,t⟩:=h.flyForm (by omega);have D:=tk s t r;rw[hF]at D;obtain⟨E,G,H,I,J,L,M,O,P⟩:=F;obtain⟨f,u⟩:=nmd (w.alloc (.cells #[iV 0,iV 0,iV 0,iV 0,iV 0,.bool false,iV 0,iV 0,iV 0] 125));have c:Hid (bW w f):=by rw[<-u.out];exact aD
 have a4:Hid (f.heap[w.heap.size]?=some (.cells #[iV 0,iV 0,iV 0,iV 0,iV 0,.bool false,iV 0,iV 0,iV 0] 125 (0,0))):=by rw[<-u.out];exact aB w _
 have b9:f.heap.size=w.heap.size+1:=by rw[<-u.out];simp
 obtain⟨b,v⟩:=nmd (f.alloc (.cells #[iV E,iV G,iV H,iV I,iV J,.bool L,iV M,iV O,iV P] 125));have n:Hid (bW w b):=by rw[<-v.out];exact c.alloc c.size _
 have a5:Hid (b.heap[w.heap.size]?=some (.cells #[iV 0,iV 0,iV 0,iV 0,iV 0,.bool false,iV 0,iV 0,iV 0] 125 (0,0))):=by rw[<-v.out];exact(Below.heap_alloc f _ _ (ah a4)).trans a4
 have c0:Hid (b.heap[w.heap.size+1]?=some (.cells #[iV E,iV G,iV H,iV I,iV J,.bool L,iV M,iV O,iV P] 125 (0,0))):=by rw[<-v.out,<-b9];exact aB f _
 have c1:=ah s;have d5:=ah h.row;have c2:=hid h;have a6:=hid (h.later n);have o:b.heap[a]?=some (.cells a9 125 (0,0)):=(n.block _ c1).trans s;obtain⟨g,Q⟩:∃g,g=if cap=1 then d else d+9:=⟨_,rfl⟩
 obtain⟨R,x,q3⟩:=OwnF.moved (w:=b.drew) h2 o r h4 h5 h6 t Q;obtain⟨j,y⟩:=nmd (b.drew.setCells a g (am (V.fly.take k)));have c3:∀S T U,(Builtin.copy_ #[55,55] S #[.slice (some ⟨a,g,none⟩) k T,.slice (some ⟨a,d,none⟩) k U]).run prog b.drew=.ok (goInt (k:Int)) j:=fun S T U=>by
  rw[<-y.out];exact hD b.drew 55 S a g k T ⟨a,d,none⟩ k U k (am (V.fly.take k)) (by simp only[Nat.min_def];split<;>omega) x
   (fun W c4 z=>by
    have a7:=(List.getElem?_eq_some_iff.1 z).1;rw[x]at a7;rw[cZ];show b.cell? ⟨a,d+W,none⟩=some c4;rw[ai o,t _ (by omega),<-z,hJ,List.getElem?_take_of_lt a7])
   (fun W z=>by rw[x]at z;show(b.cell? _).isSome=true;rw[ai o,Array.getElem?_eq_getElem (by omega)];rfl) (fun W _=>aK b _ _ _ _ o) (gK _)
 rw[y.out]at R;have Y:Hid (Kept (In1 a) b j):=by rw[<-y.out];exact(Kept.refl _ b).drew.trans (dX a _ _ _)
 have cg:C a=1005:=h.cf a (by rw[l];rfl);have d6:=h.cx;have c5:a≠X.xb:=fun e=>by rw[e]at cg;omega
 have Z:=hid (a6.taken l R Y);obtain⟨p,hn⟩:=nmd (V.fly.length);have c6:V.fly.length<=1000000000000:=by have:=h.inv.fl;omega
 have a0:=Y.row a6.row (fun e=>c5 (show X.xb=a from e).symm);have B:=(h.cells).2.2.2.1;rw[l]at B;have c7:=ag c B;have c8:=ag n B;have c9:j.cell? ⟨X.xb,3,none⟩=some (.slice (some ⟨a,d,none⟩) V.fly.length cap):=by rw[ai a0,<-l];rfl
 have d7:j.frozen? ⟨X.xb,3,none⟩=false:=dN a0;rw[hn.out]at Z B c7 c8 c9 r c6 h4;obtain⟨W4,a1⟩:=nmd (j.setCell ⟨X.xb,3,none⟩ (.slice (some ⟨a,g,none⟩) (p-1) (cap-1)));rw[a1.out]at Z;have a8:Hid (Kept (fun q=>q=X.xb∨q=a) b W4):=by rw[<-a1.out];exact(Y.mono (fun q hx=>.inr hx)).setCell (.inl rfl) _
 have a2:=hid (a8.row a5 (fun e=>by rcases e with e|e<;>omega))
 have d0:=hid (a8.row c0 (fun e=>by rcases e with e|e<;>omega))
 obtain⟨d8,HY,d1,d2⟩:=oL a2 E G H I J L M O P;obtain⟨z0,z1,z2,z3,z4,z5,z6,z7,z8⟩:=bH (f:=0) (t:=0) (d:=0) (k:=0) (a:=0) (y:=false) (ph:=0) (pr:=0) (pa:=0) a2;obtain⟨f0,f1,f2,f3,f4,f5,f6,f7,f8⟩:=rJ a2;obtain⟨e0,e1,e2,e3,e4,e5,e6,e7,e8⟩:=bH d0;have HN:Hid (2000<=C w.heap.size):=by
  rcases bU (C w.heap.size) 2000 with a3|a3
  ·have:=h.lt _ a3;omega
  ·exact a3
 obtain⟨b0,b1,b2,b3,b4,b5,b6,b7,b8⟩:=mH (o:=d+k*9) D;simp only at b0 b1 b2 b3 b4 b5 b6 b7 b8;have y0:=ag c b0;have y1:=ag c b1;have y2:=ag c b2;have y3:=ag c b3;have y4:=ag c b4;have y5:=ag c b5;have y6:=ag c b6;have y7:=ag c b7;have y8:=ag c b8;have d9:=u.out;have e9:=v.out;have d3:=y.out;have f9:=a1.out;have d4:=hid Q;clear h l h2 s h5 h6 t cg D hF o R x q3 Q a0 b0 b1 b2 b3 b4 b5 b6 b7 b8 d3;have g0:(if cap=1 then some (⟨a,d,none⟩:Addr)else some ⟨a,d+9,none⟩)=some ⟨a,g,none⟩:=by rw[d4.out];split<;>rfl
 have g5:IntKind.i64.wrap ((k:Int)+1)=(k:Int)+1:=by rw[IntKind.wrap_i64];omega
 have g6:(0:Int)<=(k:Int)+1:=by omega
 have g7:(k:Int)+1<=(cap:Int):=by omega
 have g8:(1:Int)<=max ((k:Int)+1) 0:=by omega
 have g9:((k:Int)+1).toNat-1=k:=by omega
 have h0:(k:Int)<=(cap:Int):=by omega
 have h1:(1:Int)<=(p:Int):=by omega
 have h3:1<=p:=by omega
 have h7:(1:Int)<=(k:Int)+1:=by omega
 go_enter func114,ntmps114
 go_wp2_with fail
 go_region_law (refine jg rfl _ _ 55 55 rfl _ _ (by simp[Act.eval,Act.put]) (by simp[Act.eval,Act.put]) (c3 _ _ _) ?_)
 all_goals go_wp2_with fail
 all_goals rw[HY.out]
 all_goals refine bh (results_cell_row rfl _ _ w.heap.size 125 _ (0,0) _ rfl (d1) underlying125 rfl (by kernel_rfl)) rfl ?_
 all_goals refine⟨rfl,?_⟩
 all_goals obtain⟨C',X',g1,g2,g3,g4⟩:=Z.out
 all_goals exact afd g1 g2 ((Kept.of_below n).trans g3) (fun q hx=>g4 q (bm hx n.size)) d2 aj (by rw[g4 _ (ah a5)];exact HN) c2.bel.size
theorem agy(s:Int)(h:WD w0 w C X zs V m)(a:Held9 w0 A)(b:¬(0<=s∧s<V.fly.length)):Calls prog 47 #[.pointer (some ⟨X.xb,0,none⟩),.int .i64 s] w fun e w'=>e=.returned (ev A 4)∧w'=w:=by
 have d:=hid h;have f:=hid (aS b);have c:=(h.held a).var 3 (by decide);have j:w.cell? ⟨3,0,none⟩=some (.iface 318 (.pointer (some (A 3)))):=c;clear h a b c
 go_enter func47,ntmps47
 go_wp2_with fail
 refine(ju s false d f).mono ?_;rintro e g ⟨rfl,k⟩;subst g
 go_wp2_with fail
 go_ret
 exact⟨rfl,rfl⟩
theorem agK(k:Nat)(h:WD w0 w C X zs V m)(c:k<V.fly.length)(d:m<=100000000):Calls prog 47 #[.pointer (some ⟨X.xb,0,none⟩),.int .i64 (k:Int)] w fun e w'=>e=.returned .nilIface∧WOut w0 w w' C X zs (ay V k) m:=by
 have f:=hid h;have g:Hid (decide (0<=(k:Int)∧(k:Int)<V.fly.length)=true):=bo (by omega);have j:=hid (yj k _ h c rfl d);clear h
 go_enter func47,ntmps47
 go_wp2_with fail
 refine(ju (k:Int) true f g).mono ?_;rintro e a ⟨rfl,n⟩;subst a
 go_wp2_with fail
 refine j.mono ?_;rintro e a ⟨rfl,b⟩;have l:=hid b;clear b
 go_wp2_with fail
 go_ret
 exact⟨rfl,l⟩
end
theorem aeu:(prog.info? 172).map (·.size)=some 2:=by kernel_rfl
theorem set2{w:World}{g:Nat}{a b:Value}{t:TypeId}(h:w.heap[g]?=some (.cells #[a,b] t (0,0)))(c d:Value):((w.setCell ⟨g,0,none⟩ c).setCell ⟨g,1,none⟩ d).heap[g]?=some (.cells #[c,d] t (0,0)):=by
 have e:=aE w g 0 _ _ c h;have f:=aE _ g 1 _ _ d e;rw[f];rfl
theorem lu(a b:Nat)(w:World):Calls prog 119 #[.int .i64 (a:Int),.int .i64 (b:Int)] w fun e w'=>e=.returned (gD (min a b) (max a b))∧Below w.heap.size w w':=by
 have c:((min a b:Nat):Int)=min (a:Int) b:=by omega
 have d:((max a b:Nat):Int)=max (a:Int) b:=by omega
 unfold gD;rw[c,d]
 go_enter func119,ntmps119
 go_wp2_with fail
 refine bh (results_cell_row rfl _ _ w.heap.size 172 _ (0,0) _ rfl (aB w _) underlying172 rfl aeu) rfl ?_;exact⟨rfl,aD⟩
theorem Tryz.laidP:laidOutB prog=true:=by kernel_rfl
theorem aju:(decide (172<prog.types.size))=true:=by kernel_rfl
theorem tU:Maps.Keyed prog 172:=Maps.Keyed.of_law (deep_law_laid Tryz.laidP (m:=2) (by omega) (cK aju) (by kernel_rfl) (by rw[underlying172]))
theorem aja:((List.range 7).all fun a=>(List.range 7).all fun b=>(keyOf prog 172 (gD a b)).isSome)=true:=by kernel_rfl
theorem nY(a b:Nat)(c:a<7)(d:b<7):∃l,keyOf prog 172 (gD a b)=some l:=by
 have:=List.all_eq_true.1 (List.all_eq_true.1 aja a (List.mem_range.2 c)) b (List.mem_range.2 d);exact Option.isSome_iff_exists.1 this
theorem fK(p q:Nat)(B:ByteArray)(l:Int)(b:Bool)(w:World)(h:Pl w p q B l)(a:(l != -2)=b):Calls prog 112 #[.pointer (some ⟨p,0,none⟩)] w fun e w'=>e=.returned (.bool b)∧w'=w:=by
 rw[<-a];exact fs p q B l w h
theorem Pl.drewQ{w:World}{p q:Nat}{B:ByteArray}{l:Int}(h:Pl w p q B l)(k:Nat):Pl (w.drewN k) p q B l:=⟨h.ne,h.head,h.row⟩
theorem ahD(w:World):(zeroValue 174).run prog w=.ok (.agg #[]) w:=by kernel_rfl
section
variable {w0 w w':World} {C:Nat→Nat} {K:NB} {X:XB} {i m m':Nat} {zs:List Int} {N:PN} {V V':PX} {A:Nat→Addr}
theorem WD.look(h:WD w0 w C X zs V m):∃o,w.heap[X.mb]?=some o∧∀w',w'.heap[X.mb]?=some o->∀a b,a<7->b<7->(Instr.lookup 146 (.map (some X.mb)) (gD a b) true).run prog w'=.ok (.tuple #[.agg #[],.bool (V.br a b)]) w':=by
 obtain⟨f,g,j⟩:=h.brk;obtain⟨k,l,n,p⟩:=g;refine⟨_,n,fun w' q a b c d=>?_⟩;have r:w'.ownsMap prog 172 unitElem X.mb m f:=⟨k,l,q,p⟩;obtain⟨s,e⟩:=nY a b c d;obtain⟨v,x,t,u⟩:=r.look_ok tU underlying146 (ahD w') (zd:=.agg []) (zp:=[]) unitElem_mk e;obtain⟨rfl,_⟩:=unitElem_inv u;rw[t,j a b c d s e]
theorem aaC(f d k a ph pr pa:Nat)(y:Bool)(r:Bool)(h:WD w0 w C X zs V m)(O:f<zs.length)(P:i<zs.length)(Q:gV V (frN f i d k a y ph pr pa)=r):Calls prog 115 #[.pointer (some ⟨X.xb,0,none⟩),frV (f:Int) (i:Int) (d:Int) (k:Int) (a:Int) y (ph:Int) (pr:Int) (pa:Int)] w fun e w'=>e=.returned (.bool r)∧Below w.heap.size w w':=by
 obtain⟨v,E⟩:=nmd (w.alloc (.cells #[iV (f:Int),iV (i:Int),iV (d:Int),iV (k:Int),iV (a:Int),.bool y,iV (ph:Int),iV (pr:Int),iV (pa:Int)] 125));have n:Hid (bW w v):=by rw[<-E.out];exact aD
 have o:Hid (v.heap[w.heap.size]?=some (.cells #[iV (f:Int),iV (i:Int),iV (d:Int),iV (k:Int),iV (a:Int),.bool y,iV (ph:Int),iV (pr:Int),iV (pa:Int)] 125 (0,0))):=by rw[<-E.out];exact aB w _
 obtain⟨p,q,R,S,T,U,W,Y,Z⟩:=bH o;have H0:=hid h;have F:=hid (h.later n);have x:=hid P;have HF:=hid O;have n7:=h.n7;obtain⟨-,G,s,-,-⟩:=F.cells;obtain⟨a0,j,a1⟩:=F.look;obtain⟨l,a2⟩:=nmd (V.br (min f i) (max f i));have a5:∀w',w'.heap[X.mb]?=some a0->(Instr.lookup 146 (.map (some X.mb)) (gD (min f i) (max f i)) true).run prog w'=.ok (.tuple #[.agg #[],.bool l]) w':=fun w' a6=>by rw[<-a2.out];exact a1 w' a6 _ _ (by omega) (by omega)
 have a7:=hid Q;have hW:=E.out;have a8:=ah F.row;clear h O P a1 Q
 go_enter func115,ntmps115
 go_wp2_with fail
 go_cut [5,6]from 7 (fun _ s6 wx=>s6=.bool l∧bW w wx∧wx.heap[w.heap.size]?=some (.cells #[iV (f:Int),iV (i:Int),iV (d:Int),iV (k:Int),iV (a:Int),.bool y,iV (ph:Int),iV (pr:Int),iV (pa:Int)] 125 (0,0)))
 case first =>
  go_region_held3 (fun V=>V.cell? ⟨X.xb,2,none⟩=some (.map (some X.mb))∧V.cell? ⟨w.heap.size,0,none⟩=some (iV (f:Int))∧V.cell? ⟨w.heap.size,1,none⟩=some (iV (i:Int))∧V.heap[X.mb]?=some a0) (first|exact⟨s,p,q,j⟩|exact⟨bM _ s,bM _ p,bM _ q,(Below.heap_alloc _ _ _ (ah j)).trans j⟩|exact⟨H,I,J,z⟩|exact⟨bM _ H,bM _ I,bM _ J,(Below.heap_alloc _ _ _ (ah z)).trans z⟩|go_keep) (first|(go_at_call 119;(with_reducible refine(lu f i _).mono ?_);rintro e w3 ⟨rfl,c⟩;have H:=ag c s;have I:=ag c p;have J:=ag c q;have z:=((c.block _ (ah j)).trans j);have g:=hid (n.drew.trans (c.mono n.size));have t:=hid ((c.block _ (ah o)).trans o);clear c)|(go_at_call 119;(with_reducible refine(lu f i _).mono ?_);rintro e w3 ⟨rfl,c⟩;have H:=ag c (bM _ s);have I:=ag c (bM _ p);have J:=ag c (bM _ q);have z:=((c.block _ (bm (ah j) (eI (fun _=>False) _ _).size)).trans ((Below.heap_alloc _ _ _ (ah j)).trans j));have g:=hid ((n.drew.alloc n.size _).trans (c.mono (bc n.size (eI (fun _=>False) _ _).size)));have t:=hid ((c.block _ (bm (ah o) (eI (fun _=>False) _ _).size)).trans ((Below.heap_alloc _ _ _ (ah o)).trans o));clear c))
  all_goals go_wp2_with fail
  all_goals go_meet
  all_goals first|exact⟨rfl,g,t⟩|exact⟨rfl,g.alloc g.size _,(Below.heap_alloc _ _ _ (ah t)).trans t⟩
 obtain⟨rfl,c,a3⟩:=hcut
 rename_i w3
 have g:=hid c;have t:=hid a3;clear c a3 p q R S T U W Y Z G s j a5 a8 hW;have B:=hid (H0.later g);obtain⟨p,q,R,S,T,U,W,Y,Z⟩:=bH t;obtain⟨-,G,-,-,-⟩:=B.cells;have s:=B.ns i x;obtain⟨d0,d1,d2⟩:=(B.nds i x).way;obtain⟨a4,a9⟩:=nmd (zs.length);have b0:=x.out;rw[a9.out]at G b0 n7;obtain⟨D,u⟩:=nmd (((V.nd i).l != -2));have b:=hid (B.nds i x).sp.jp.pl;have L:Hid (r=(D&&(decide (f=i) || !l))):=by
  rw[<-a7.out,<-u.out,<-a2.out];unfold gV;show(upN (V.nd i)&&((f:Int)==(i:Int) || !brX V f i))=_
  rw[show((f:Int)==(i:Int))=decide (f=i) by rw[Bool.eq_iff_iff];simp;omega];rfl
 cases D with
 | false =>
  obtain rfl:r=false:=L.out
  go_wp2_with fail
  go_quiet ((go_at_call 112;exact Calls.quiet_of_same (fK (X.K i).p (X.K i).q (V.nd i).B (V.nd i).l false _ (by first|exact b|exact b.drew|exact b.drewQ _|exact b.drew.drewQ _|exact(b.drewQ _).drew|exact(b.drewQ _).drewQ _) u)))
  go_wp2
  go_ret
  exact⟨rfl,aJ g _⟩
 | true =>
  by_cases M:f=i
  ·have e1:((f:Int)==(i:Int))=true:=beq_iff_eq.2 (by omega)
   obtain rfl:r=true:=by rw[L.out,bo M];simp
   clear M
   go_wp2_with fail
   go_quiet ((go_at_call 112;exact Calls.quiet_of_same (fK (X.K i).p (X.K i).q (V.nd i).B (V.nd i).l true _ (by first|exact b|exact b.drew|exact b.drewQ _|exact b.drew.drewQ _|exact(b.drewQ _).drew|exact(b.drewQ _).drewQ _) u)))
   go_wp2
   go_ret
   exact⟨rfl,aJ g _⟩
  ·have e1:((f:Int)==(i:Int))=false:=beq_eq_false_iff_ne.2 (by omega)
   obtain rfl:r=!l:=by rw[L.out,aS M];simp
   cases l with
   | false =>
    go_wp2_with fail
    go_quiet ((go_at_call 112;exact Calls.quiet_of_same (fK (X.K i).p (X.K i).q (V.nd i).B (V.nd i).l true _ (by first|exact b|exact b.drew|exact b.drewQ _|exact b.drew.drewQ _|exact(b.drewQ _).drew|exact(b.drewQ _).drewQ _) u)))
    go_wp2
    go_ret
    exact⟨rfl,aJ g _⟩
   | true =>
    go_wp2_with fail
    go_quiet ((go_at_call 112;exact Calls.quiet_of_same (fK (X.K i).p (X.K i).q (V.nd i).B (V.nd i).l true _ (by first|exact b|exact b.drew|exact b.drewQ _|exact b.drew.drewQ _|exact(b.drewQ _).drew|exact(b.drewQ _).drewQ _) u)))
    go_wp2
    go_ret
    exact⟨rfl,aJ g _⟩
end
theorem FI.nat{n:Nat}{F:F9}(h:FI n F):∃f i d k a ph pr pa:Nat,F=frN f i d k a F.y ph pr pa∧f<n∧i<n∧d<6:=by
 obtain⟨c,p,e,q,⟨-,-,g,r,j,l,m,o⟩⟩:=h;obtain⟨f,b,d,k,a,s,ph,pr,pa⟩:=F;simp only at *
 obtain⟨f,rfl⟩:=bD c;obtain⟨b,rfl⟩:=bD e;obtain⟨d,rfl⟩:=bD g.1;obtain⟨k,rfl⟩:=bD (show 0<=k by omega);obtain⟨a,rfl⟩:=bD j.1;obtain⟨ph,rfl⟩:=bD l.1;obtain⟨pr,rfl⟩:=bD m.1;obtain⟨pa,rfl⟩:=bD o.1;exact⟨f,b,d,k,a,ph,pr,pa,rfl,by omega,by omega,by omega⟩
section
variable {w0 w w':World} {C:Nat→Nat} {K:NB} {X:XB} {i m m':Nat} {zs:List Int} {N:PN} {V V':PX} {A:Nat→Addr}
theorem qi(s:Int)(h:WD w0 w C X zs V m)(a:Held9 w0 A)(b:¬(0<=s∧s<V.fly.length)):Calls prog 45 #[.pointer (some ⟨X.xb,0,none⟩),.int .i64 s] w fun e w'=>e=.returned (ev A 4)∧w'=w:=by
 have c:=hid h;have d:=hid (aS b);have g:w.cell? ⟨3,0,none⟩=some (.iface 318 (.pointer (some (A 3)))):=(h.held a).var 3 (by decide);clear h a b
 go_enter func45,ntmps45
 go_wp2_with fail
 refine(ju s false c d).mono ?_;rintro e f ⟨rfl,j⟩;subst f
 go_wp2_with fail
 go_ret
 exact⟨rfl,rfl⟩
theorem re(j:Nat)(F:F9)(h:WD w0 w C X zs V m)(S:Held9 w0 A)(D:j<V.fly.length)(E:V.fly[j]'D=F)(T:m<1000000):Calls prog 45 #[.pointer (some ⟨X.xb,0,none⟩),.int .i64 (j:Int)] w fun e w'=>e=.returned .nilIface∧WOut w0 w w' C X zs (aX zs V j F) (m+3):=by
 have G:=hid (h.inv.fr F (by rw[<-E];exact List.getElem_mem _));obtain⟨g,i,k,l,n,o,p,q,x,hf,hi,hd⟩:=G.nat;obtain⟨c,hy⟩:∃c,F.y=c:=⟨_,rfl⟩;rw[hy]at x;have H:=hid x;have a7:=hid h;have HE:=hid S;have HB:Hid (decide (0<=(j:Int)∧(j:Int)<V.fly.length)=true):=bo (by omega);have I:=hid (yj j F h D E (by omega));rw[x]at I;simp only[frN]at I;have a8:=hid hf;have U:=hid hi;clear h S x E D
 go_enter func45,ntmps45
 go_wp2_with fail
 refine(ju (j:Int) true a7 HB).mono ?_;rintro e a ⟨rfl,hx⟩;subst a
 go_wp2_with fail
 refine I.mono ?_;rintro e a ⟨rfl,r,W,d,f,s,t⟩;obtain⟨u,J⟩:=nmd (a.alloc (.cells #[iV (g:Int),iV (i:Int),iV (k:Int),iV (l:Int),iV (n:Int),.bool c,iV (o:Int),iV (p:Int),iV (q:Int)] 125));have Y:Hid (bW a u):=by rw[<-J.out];exact aD
 have L:Hid (u.heap[a.heap.size]?=some (.cells #[iV (g:Int),iV (i:Int),iV (k:Int),iV (l:Int),iV (n:Int),.bool c,iV (o:Int),iV (p:Int),iV (q:Int)] 125 (0,0))):=by rw[<-J.out];exact aB a _
 have c0:=J.out;have c1:Hid (2000<=r a.heap.size):=by
  rcases bU (r a.heap.size) 2000 with M|M
  ·have:=d.lt _ M;omega
  ·exact M
 have b:=hid (And.intro (d.later Y) f);have Z:Hid (Kept (di C) w u):=s.trans (Kept.of_below Y);have a0:Hid (∀O,O<w.heap.size->r O=C O):=t;clear d f s t;obtain⟨b0,b1,b2,b3,b4,b5,b6,b7,b8⟩:=bH L;obtain⟨v,P⟩:=nmd (gV (ay V j) (frN g i k l n c o p q));have a1:Hid (aX zs V j F=if v=true then aW (de zs (ay V j) F) (cX zs (ay V j) F)else ay V j):=by
  unfold aX;rw[<-P.out,<-H.out];exact rfl
 have a2:=hid (aaC g k l n o p q c v b.1 a8 U P);rw[dU b.out.2]at a2
 go_wp2_with fail
 refine a2.mono ?_;rintro e w4 ⟨rfl,y⟩;have a3:=hid y;have a9:=hid ((y.block _ (ah L)).trans L);have Q:=hid (b.1.later y);clear y b0 b1 b2 b3 b4 b5 b6 b7 b8;obtain⟨b0,b1,b2,b3,b4,b5,b6,b7,b8⟩:=bH a9
 cases v with
 | false =>
  go_wp2_with fail
  go_ret
  refine⟨rfl,?_⟩;rw[a1.out,aa (by decide)];exact⟨r,W,Q.mono (by omega),b.2,Z.trans (Kept.of_below a3),a0⟩
 | true =>
  have z:(V.nd i).l≠-2:=by
   have:=P.out;unfold gV at this;have h5:upN ((ay V j).nd i)=true:=by
    rw[Bool.and_eq_true]at this;exact this.1
   have h6:((V.nd i).l != -2)=true:=h5
   simpa using h6
  have c2:=hid z;have a4:=hid (yU g k l n o p q c F H Q HE U (show((ay V j).nd i).l≠-2 from z) G T);rw[dU b.out.2]at a4;have a5:=hid (mE (F:=F) Q.inv (by rw[H.out];exact z) G T);clear z
  go_wp2_with fail
  refine a4.mono ?_;rintro e w5 ⟨b9,rfl,C5,X5,d,f,s,t,g5⟩;have a6:=hid (mv b9 _ d g5.fr a5.1 (bc a5.2 (by decide)) (by omega));rw[dU f,dU b.out.2]at a6;have B:=hid (And.intro f (And.intro s t));clear d f s t g5
  go_wp2_with fail
  refine a6.mono ?_;rintro e w6 ⟨rfl,C6,v6,y1,y2,y3⟩;have R:=hid (And.intro y1 (And.intro y2 y3));clear y1 y2 y3
  go_wp2_with fail
  go_ret
  refine⟨rfl,?_⟩;rw[a1.out,af (by trivial)];refine WOut.step (X:=X) b.2 (Z.trans (Kept.of_below a3)) a0 ?_;refine WOut.step (X:=W) (C:=r) B.1 B.2.1 B.2.2 ?_;exact⟨C6,_,R.1,(by unfold key;exact Prod.ext (dU (B.1.trans b.2)).symm rfl),R.2.1,R.2.2⟩
end
section
variable {w0 w w':World} {C C':Nat→Nat} {Y:YB} {aw:Option Addr} {cap m m':Nat} {zs:List Int} {V V':PX}
theorem sQ(s d h1 b c:Nat)(h:RW w0 w C Y aw cap zs V m)(g:s<zs.length)(E:d<6)(q:stN (V.nd s) d=⟨h1,b,c⟩):Calls prog 35 #[.pointer (some ⟨Y.xb,0,none⟩),.int .i64 (s:Int),.int .i64 (d:Int)] w fun e w'=>e=.returned (agS h1 b c)∧Below w.heap.size w w':=by
 obtain⟨k,r⟩:=nmd (w.alloc (.cells #[iV 0,iV 0,iV 0] 80));have t:Hid (Z3 w k w.heap.size):=by rw[<-r.out];exact z3 w
 have i:=h.later t.b;obtain⟨-,z,-,-,-⟩:=i.cells;have F:=i.ns s g;obtain⟨-,G,-,-⟩:=(i.nds s g).cells;have H:=(i.nds s g).bytes;have I:=(h.inv.nd s g).sz;obtain⟨j,u⟩:∃j,(dlN (V.nd s) d).1=j:=⟨_,rfl⟩;have v:au (V.nd s).B.data.toList d=(j,⟨h1,b,c⟩):=Prod.ext u q;have A:=hid (fun w=>tr (V.nd s).B d j h1 b c w (by omega) (by omega) v);obtain⟨l,x⟩:∃l,zs.length=l:=⟨_,rfl⟩;rw[x]at z;have J:s<l:=by omega
 have K:=r.out;unfold agS;clear h i g q u v x
 go_enter func35,ntmps35
 go_wp2_with fail
 refine(A _).mono ?_;rintro e a ⟨rfl,y⟩;have B:=hid (t.later y);obtain⟨f,n⟩:=nmd (a.alloc (.cells #[iV (h1:Int),iV (b:Int),iV (c:Int)] 80));have D:Hid (bW a f):=by rw[<-n.out];exact aD
 have o:Hid (f.heap[a.heap.size]?=some (.cells #[iV (h1:Int),iV (b:Int),iV (c:Int)] 80 (0,0))):=by rw[<-n.out];exact aB a _
 have p:=hid (B.later D);obtain⟨L,M,N,O,P,Q⟩:=p.cells;have R:f.cell? ⟨a.heap.size,0,none⟩=some (iV (h1:Int)):=(aG _ _ 0 _ _ _ o);have S:f.cell? ⟨a.heap.size,1,none⟩=some (iV (b:Int)):=(aG _ _ 1 _ _ _ o);have T:f.cell? ⟨a.heap.size,2,none⟩=some (iV (c:Int)):=(aG _ _ 2 _ _ _ o);have U:=n.out;clear y
 go_wp2_with fail
 refine bh (results_cell_row rfl _ _ w.heap.size 80 _ (0,0) _ rfl (ez p.r _ _ _) underlying80 rfl bk) rfl ?_;exact⟨rfl,((p.b.setCell aj _).setCell aj _).setCell aj _⟩
end
end Go.Proofs.YtaehdgemkafinaaGreatDoor
