/-
  On the way to SPlaysProof: VH VJ VK O10 VL UA.
-/
import Derived.Test.YtaehdgemkafinaaGreatDoorBx22
import Derived.Lib.ItoaLen
set_option maxHeartbeats 8000000
set_option maxRecDepth 100000
namespace Go.Proofs.YtaehdgemkafinaaGreatDoor
open Go.RowKit
open Go.Proofs.Tryz
section
variable {w0 w w':World} {C:Nat→Nat} {K:NB} {X:XB} {i m:Nat} {zs:List Int} {N:PN} {V:PX} {A:Nat→Addr}
theorem ND.power{l:Int}(h:ND w0 w C K i zs N m)(c:Kept (In2 K.p K.q) w w')(g:Pl w' K.p K.q N.B l)(h0:-2<=l)(h1:l<=9223372036854775807):ND w0 w' C K i zs { N with l:=l } m:=by
 have p:=h.cs;have q:=h.cj;have r:=h.cm;have j:=h.cp;have k:=h.cq;have s:=h.cn;have d:∀a,C a≠100*i+5->C a≠100*i+6->¬In2 K.p K.q a:=fun a n o b=>by
  rcases b with rfl|rfl
  ·exact n j
  ·exact o k
 refine⟨c.row h.row (d _ (by omega) (by omega)),h.sp.turn (h.sp.jp.plate c g h0 h1 rfl) (c.mono (fun a b=>.inr b)),fun e f a b=>?_,h.cn,h.cs,h.cj,h.cm,h.cp,h.cq,h.cl,h.n0⟩;have t:=h.cl e f a b;exact(h.lds e f a b).kept c (d _ (by omega) (by omega)) (d _ (by omega) (by omega))
theorem ND.in2(h:ND w0 w C K i zs N m):∀x,In2 K.p K.q x->C x / 100=i:=fun x a=>by
 have b:=h.cp;have c:=h.cq;rcases a with rfl|rfl<;>omega
theorem ND.in3(h:ND w0 w C K i zs N m):∀x,In3 K.j K.p K.q x->C x / 100=i:=fun x a=>by
 have b:=h.cj;have c:=h.cp;have d:=h.cq;rcases a with rfl|rfl|rfl<;>omega
theorem ajv{w:World}{g:Nat}{a k l n o p q:Value}{t:TypeId}(h:w.heap[g]?=some (.cells #[a,k,l,n,o,p,q] t (0,0)))(b c d e f j:Value):((((((w.setCell ⟨g,1,none⟩ b).setCell ⟨g,2,none⟩ c).setCell ⟨g,3,none⟩ d).setCell ⟨g,4,none⟩ e).setCell ⟨g,5,none⟩ f).setCell ⟨g,6,none⟩ j).heap[g]?=some (.cells #[a,b,c,d,e,f,j] t (0,0)):=by
 have r:=aE w g 1 _ _ b h;have s:=aE _ g 2 _ _ c r;have u:=aE _ g 3 _ _ d s;have v:=aE _ g 4 _ _ e u;have x:=aE _ g 5 _ _ f v;have y:=aE _ g 6 _ _ j x;rw[y];rfl
theorem ND.noLeads(h:ND w0 w C K i zs N m)(e:N.l=-2):ND w0 ((((((w.setCell ⟨K.nd,1,none⟩ (.pointer none)).setCell ⟨K.nd,2,none⟩ (.pointer none)).setCell ⟨K.nd,3,none⟩ (.pointer none)).setCell ⟨K.nd,4,none⟩ (.pointer none)).setCell ⟨K.nd,5,none⟩ (.pointer none)).setCell ⟨K.nd,6,none⟩ (.pointer none)) C K i zs (gQ N) m∧Kept (fun x=>C x / 100=i) w ((((((w.setCell ⟨K.nd,1,none⟩ (.pointer none)).setCell ⟨K.nd,2,none⟩ (.pointer none)).setCell ⟨K.nd,3,none⟩ (.pointer none)).setCell ⟨K.nd,4,none⟩ (.pointer none)).setCell ⟨K.nd,5,none⟩ (.pointer none)).setCell ⟨K.nd,6,none⟩ (.pointer none)):=by
 have l:=h.cs;have n:=h.cj;have o:=h.cm;have p:=h.cp;have q:=h.cq;have f:=h.cn;have c:Kept (In1 K.nd) w ((((((w.setCell ⟨K.nd,1,none⟩ (.pointer none)).setCell ⟨K.nd,2,none⟩ (.pointer none)).setCell ⟨K.nd,3,none⟩ (.pointer none)).setCell ⟨K.nd,4,none⟩ (.pointer none)).setCell ⟨K.nd,5,none⟩ (.pointer none)).setCell ⟨K.nd,6,none⟩ (.pointer none)) :=
  ((((((Kept.refl _ w).set1 1 _).set1 2 _).set1 3 _).set1 4 _).set1 5 _).set1 6 _
 have b:∀x,C x≠100*i+1->¬In1 K.nd x:=fun x d a=>by rw[show x=K.nd from a]at d;exact d f
 have g:∀x,In1 K.nd x->w0.heap.size<=x:=fun x a=>by rw[show x=K.nd from a];exact h.n0
 refine⟨⟨ajv h.row _ _ _ _ _ _,?_,fun j k x a=>(by cases a),h.cn,h.cs,h.cj,h.cm,h.cp,h.cq,fun j k x a=>(by cases a),h.n0⟩,c.mono (fun x a=>by rw[show x=K.nd from a];show C K.nd / 100=i;omega)⟩;have:=h.sp.far c g (fun x a=>b x (by rcases a with rfl|rfl|rfl<;>omega)) (b _ (by omega)) (b _ (by omega))
 rw[e]at this;exact this
theorem vf(h:ND w0 w C K i zs N m):Calls prog 121 #[.pointer (some ⟨K.nd,0,none⟩)] w fun e w'=>e=.returned (.tuple #[])∧ND w0 w' C K i zs (gQ N) m∧Kept (fun x=>C x / 100=i) w w':=by
 obtain⟨r,s,t⟩:=h.way;have b:=hid h;clear h
 go_enter func121,ntmps121
 go_wp2_with fail
 refine(vT K.p K.q N.B N.l w b.sp.jp.pl).mono ?_;rintro e u ⟨rfl,d,c⟩;have f:=hid (c.mono b.in2);have a:=hid (b.power c d (by decide) (by decide));clear d c;have g:=a.cell 1;have j:=a.cell 2;have k:=a.cell 3;have l:=a.cell 4;have n:=a.cell 5;have o:=a.cell 6;have v:=a.fz 1;have y:=a.fz 2;have z:=a.fz 3;have B:=a.fz 4;have D:=a.fz 5;have E:=a.fz 6;simp only[ndC,List.getElem?_cons_succ,List.getElem?_cons_zero]at g j k l n o
 go_wp2_with fail
 go_end0
 obtain⟨p,q⟩:=a.noLeads rfl;exact⟨rfl,p,f.trans q⟩
end
section
variable {n m m' i:Nat} {zs:List Int} {N:PN} {V:PX}
theorem NI.mono(h:NI n N m)(a:m<=m'):NI n N m':=⟨h.gd,fun b c=>bc (h.nm b c) a,h.sz,h.up,h.l0,h.l1,h.ld⟩
theorem XI.mono(h:XI zs V m)(a:m<=m'):XI zs V m':=⟨h.he,fun i b=>(h.nd i b).mono a,h.fr,by have:=h.fl;omega,h.ev⟩
theorem XI.node(h:XI zs V m)(b:NI zs.length N m')(c:m<=m'):XI zs (aA V i N) m':=by
 refine⟨h.he,fun a d=>?_,h.fr,by have:=h.fl;show V.fly.length<=_;omega,h.ev⟩;show NI zs.length (if a=i then N else V.nd a) m'
 split
 ·exact b
 ·exact(h.nd a d).mono c
theorem NI.fall(h:NI n N m):NI n (gQ N) m:=⟨h.gd,h.nm,h.sz,fun a=>(a rfl).elim,by show(-2:Int)<=-2;omega,by show(-2:Int)<=_;omega,fun c d b=>by cases b⟩
theorem aiV{l x:Int}(h:l≠-2):cL l x≠-2:=by
 unfold cL;rw[aa h]
 split<;>omega
theorem NI.cut{x:Int}(h:NI n N m)(f:x<=9223372036854775807):NI n { N with l:=cL N.l x } m:=by
 have g:=h.l0;have j:=h.l1;refine⟨h.gd,h.nm,h.sz,fun b=>h.up (fun a=>b ?_),?_,?_,fun c d e=>?_⟩
 ·show cL N.l x=-2
  unfold cL;rw[af a];split<;>exact a
 ·show -2<=cL N.l x
  unfold cL
  split
  ·omega
  ·split<;>omega
 ·show cL N.l x<=_
  unfold cL
  split
  ·omega
  ·split<;>omega
 ·have:=h.ld c d e
  exact⟨aiV this.1,this.2⟩
theorem NI.refuse{R:Nat->Bool}(h:NI n N m):NI n { N with R:=R } m:=⟨h.gd,h.nm,h.sz,h.up,h.l0,h.l1,h.ld⟩
end
section
variable {w0 w w' w'':World} {C:Nat→Nat} {K:NB} {X:XB} {i m m':Nat} {zs:List Int} {N:PN} {V V':PX} {A:Nat→Addr}
theorem WD.mono(h:WD w0 w C X zs V m)(a:m<=m'):WD w0 w C X zs V m':=by
 obtain⟨b,c,d⟩:=h.brk;exact⟨h.bel,h.row,h.ws,h.ns,fun i e=>(h.nds i e).mono a,⟨b,c.mono a,d⟩,h.fly,h.evs,h.cx,h.cw,h.cn,h.cm,h.cf,h.ce,h.lt,h.low,h.inv.mono a⟩
def key(X:XB):Nat×(Nat->Nat):=(X.xb,fun e=>(X.K e).nd)
theorem dU{X a:XB}(h:key a=key X):a.xb=X.xb:=congrArg Prod.fst h
theorem iN{X a:XB}(h:key a=key X)(e:Nat):(a.K e).nd=(X.K e).nd:=congrFun (congrArg Prod.snd h) e
theorem lf{X:XB}{i:Nat}{K:NB}(h:K.nd=(X.K i).nd):key { X with K:=fun e=>if e=i then K else X.K e }=key X:=by
 unfold key;refine Prod.ext rfl ?_
 funext e
 show(if e=i then K else X.K e).nd=(X.K e).nd
 split
 ·rename_i a;rw[a];exact h
 ·rfl
def WOut(w0 w w':World)(C:Nat->Nat)(X:XB)(zs:List Int)(V':PX)(m':Nat):Prop:=
 ∃C' X',WD w0 w' C' X' zs V' m'∧key X'=key X∧Kept (di C) w w'∧∀x,x<w.heap.size->C' x=C x
theorem WD.out(h:WD w0 w C X zs V m)(a:Below w.heap.size w w')(b:m<=m'):WOut w0 w w' C X zs V m':=
 ⟨C,X,(h.later a).mono b,rfl,Kept.of_below a,fun _ _=>rfl⟩
theorem WD.nodeOut(h:WD w0 w C X zs V m)(c:i<zs.length)(k:Kept (fun x=>C x / 100=i) w w')(d:ND w0 w' C (X.K i) i zs N m')(b:m<=m')(e:NI zs.length N m'):WOut w0 w w' C X zs (aA V i N) m':=by
 have g:=h.n7.2;refine⟨C,_,h.node k c (fun x a=>a) (fun _ _=>rfl) (fun x a f=>by have:=h.lt x f;omega) d rfl b (h.inv.node e b),lf rfl,k.mono (fun x a=>by show C x<2000;omega),fun _ _=>rfl⟩
theorem WOut.step{w1 f:World}{C1:Nat->Nat}{X1:XB}(c:key X1=key X)(a:Kept (di C) w w1)(g:∀x,x<w.heap.size->C1 x=C x)(j:WOut w0 w1 f C1 X1 zs V' m'):WOut w0 w f C X zs V' m':=by
 obtain⟨k,l,n,o,b,p⟩:=j;refine⟨k,l,n,o.trans c,?_,fun x c=>(p x (bm c a.size)).trans (g x c)⟩;refine⟨b.os.trans a.os,b.tape.trans a.tape,b.output.trans a.output,bc a.size b.size,fun d e h=>?_⟩;refine(b.block d (bm e a.size) (fun q=>h ?_)).trans (a.block d e h);show C d<2000;rw[<-g d e];exact q
def cUp(n:Nat)(V:PX)(s:Int):Nat:=if 0<=s∧s<n then(if upN (V.nd s.toNat)=true then 0 else 6)else 2
theorem adY(s:Int)(c:Nat)(h:WD w0 w C X zs V m)(n:Held9 w0 A)(B:cUp zs.length V s=c):Calls prog 56 #[.pointer (some ⟨X.xb,0,none⟩),.int .i64 s] w fun e w'=>e=.returned (ev A c)∧WOut w0 w w' C X zs (if c=0 then oI V s.toNat else V) (m+1):=by
 have d:=hid h;have D:=hid n;have r:=hid (h.held n);clear h n;subst B
 by_cases f:0<=s∧s<zs.length
 ·obtain⟨a,rfl⟩:=bD f.1
  have o:a<zs.length:=by omega
  have g:=hid o;obtain⟨l,p⟩:=nmd (((V.nd a).l != -2));have t:Hid (upN (V.nd a)=l):=p.out
  cases l with
  | true =>
   have e:cUp zs.length V a=0:=by unfold cUp;rw[af f,aU,t.out,af rfl]
   rw[e];clear e f o
   go_enter func56,ntmps56
   go_wp2_with fail
   refine(hQ a d g).mono ?_;rintro e j ⟨rfl,u⟩;subst j
   go_wp2_with fail
   refine(fm true (d.nds a g) r p).mono ?_;rintro e j ⟨rfl,b⟩;simp only[if_true];have q:=hid (d.later b);have k:=hid b;clear b
   go_wp2_with fail
   refine(vf (q.nds a g)).mono ?_;rintro e v ⟨rfl,x,y⟩;have z:=hid (And.intro x y);clear x y
   go_wp2_with fail
   go_ret
   refine⟨rfl,?_⟩;exact WOut.step rfl (Kept.of_below k) (fun _ _=>rfl) (q.nodeOut g z.2 (z.1.mono (aP _)) (aP _) ((q.inv.nd a g).fall.mono (aP _)))
  | false =>
   have e:cUp zs.length V a=6:=by unfold cUp;rw[af f,aU,t.out,aa (by decide)]
   rw[e];clear e f o
   go_enter func56,ntmps56
   go_wp2_with fail
   refine(hQ a d g).mono ?_;rintro e j ⟨rfl,u⟩;subst j
   go_wp2_with fail
   refine(fm false (d.nds a g) r p).mono ?_;rintro e j ⟨rfl,b⟩;rw[aa (by decide),aa (by decide)];have k:=hid b;clear b
   go_wp2_with fail
   go_ret
   refine⟨rfl,?_⟩;exact d.out.out k (aP _)
 ·have e:cUp zs.length V s=2:=by unfold cUp;rw[aa f]
  rw[e];have E:=hid f;clear e f
  go_enter func56,ntmps56
  go_wp2_with fail
  refine(ki s d D E).mono ?_;rintro e j ⟨rfl,b⟩;have k:=hid b;clear b
  go_wp2_with fail
  refine(jD _ _).mono ?_;rintro e v ⟨rfl,u⟩;subst v
  go_wp2_with fail
  go_ret
  refine⟨rfl,?_⟩;exact d.out.out k (aP _)
end
section
variable {w0 w w':World} {C:Nat→Nat} {K:NB} {X:XB} {i m m':Nat} {zs:List Int} {N:PN} {V V':PX} {A:Nat→Addr}
theorem aiW(s:Int)(h:WD w0 w C X zs V m)(a:Held9 w0 A)(b:¬(0<=s∧s<zs.length)):Calls prog 134 #[.pointer (some ⟨X.xb,0,none⟩),.int .i64 s] w fun e w'=>e=.returned (.tuple #[.bool false,.iface 318 (.pointer (some (A 1)))])∧Below w.heap.size w w':=by
 have d:=hid h;have f:=hid a;have g:=hid b;clear h a b
 go_enter func134,ntmps134
 go_wp2_with fail
 refine(ki s d f g).mono ?_;rintro e k ⟨rfl,c⟩;have j:=hid c;clear c
 go_wp2_with fail
 go_ret2
 exact⟨rfl,j⟩
theorem ai8(s:Nat)(h:WD w0 w C X zs V m)(a:s<zs.length):Calls prog 134 #[.pointer (some ⟨X.xb,0,none⟩),.int .i64 (s:Int)] w fun e w'=>e=.returned (.tuple #[.bool (upN (V.nd s)),.nilIface])∧w'=w:=by
 have d:=hid h;have f:=hid a;obtain⟨k,l,n⟩:=(h.nds s a).way;obtain⟨b,g⟩:=nmd (((V.nd s).l != -2));rw[show upN (V.nd s)=b from g.out];clear h a
 go_enter func134,ntmps134
 go_wp2_with fail
 refine(hQ s d f).mono ?_;rintro e c ⟨rfl,j⟩;subst c
 go_wp2_with fail
 refine(fs _ _ _ _ w (d.nds s f).sp.jp.pl).mono ?_;rintro e c ⟨rfl,j⟩;subst c;rw[g.out]
 go_wp2_with fail
 go_ret2
 exact⟨rfl,rfl⟩
def il(N:PN)(d:Nat):ByteArray:=match N.ld d with
 | none=>⟨#[110,111,110,101]⟩
 | some x=>stP x.2.stt
theorem afW(s d:Int)(h:WD w0 w C X zs V m)(a:Held9 w0 A)(b:¬((0<=s∧s<zs.length)∧0<=d∧d<6)):Calls prog 71 #[.pointer (some ⟨X.xb,0,none⟩),.int .i64 s,.int .i64 d] w fun e w'=>e=.returned (.tuple #[.string ⟨#[]⟩,.iface 318 (.pointer (some (A 1)))])∧Below w.heap.size w w':=by
 have f:=hid h;have g:=hid a;have j:=hid b;clear h a b
 go_enter func71,ntmps71
 go_wp2_with fail
 refine(jO s d f g j).mono ?_;rintro e l ⟨rfl,c⟩;have k:=hid c;clear c
 go_wp2_with fail
 go_ret2
 exact⟨rfl,k⟩
theorem agR(s d:Nat)(h:WD w0 w C X zs V m)(f:s<zs.length)(c:d<6):Calls prog 71 #[.pointer (some ⟨X.xb,0,none⟩),.int .i64 (s:Int),.int .i64 (d:Int)] w fun e w'=>e=.returned (.tuple #[.string (il (V.nd s) d),.nilIface])∧w'=w:=by
 have g:=hid h;have j:=hid f;have k:=(h.nds s f).lead c;clear h f
 cases a:(V.nd s).ld d with
 | none =>
  have e:il (V.nd s) d=⟨#[110,111,110,101]⟩:=by unfold il;rw[a]
  rw[kJ a]at k;rw[e];clear a e
  go_enter func71,ntmps71
  go_wp2_with fail
  refine(fu s d g j c).mono ?_;rintro e b ⟨rfl,l⟩;subst b
  go_wp2_with fail
  go_ret2
  exact⟨rfl,rfl⟩
 | some n =>
  have e:il (V.nd s) d=stP n.2.stt:=by unfold il;rw[a]
  rw[mx a]at k;rw[e];have o:=hid ((g.nds s j).lds d c n a);clear a e
  go_enter func71,ntmps71
  go_wp2_with fail
  refine(fu s d g j c).mono ?_;rintro e b ⟨rfl,l⟩;subst b
  go_wp2_with fail
  refine(vX o).mono ?_;rintro e b ⟨rfl,l⟩;subst b
  go_wp2_with fail
  go_ret2
  exact⟨rfl,rfl⟩
def kP(n:Nat)(V:PX)(s x:Int):Nat:=if 0<=s∧s<n then cC (V.nd s.toNat).l x else 2
theorem agn(s x:Int)(c:Nat)(h:WD w0 w C X zs V m)(g:Held9 w0 A)(j:x<=9223372036854775807)(q:kP zs.length V s x=c):Calls prog 54 #[.pointer (some ⟨X.xb,0,none⟩),.int .i64 s,.int .i64 x] w fun e w'=>e=.returned (ev A c)∧WOut w0 w w' C X zs (if 0<=s∧s<zs.length then mP V s.toNat x else V) (m+1):=by
 have a:=hid h;have y:=hid g;have z:=hid (h.held g);have k:=hid q;clear h g q
 by_cases d:0<=s∧s<zs.length
 ·rw[af d]
  obtain⟨b,rfl⟩:=bD d.1;have l:b<zs.length:=by omega
  have f:=hid l;have B:Hid (cC (V.nd b).l x=c):=by rw[<-k.out];unfold kP;rw[af d,aU];exact rfl
  have n:=hid j;obtain⟨H,I,J⟩:=(a.nds b l).way;clear d l j k;rw[aU];obtain⟨r,t⟩:=nmd (ev A c);rw[t.out]
  go_enter func54,ntmps54
  go_wp2_with fail
  refine(hQ b a f).mono ?_;rintro e o ⟨rfl,j⟩;subst o
  go_wp2_with fail
  refine(aiz A _ _ _ _ x w (a.nds b f).sp.jp.pl z.toE).mono ?_;rintro e o ⟨rfl,u,p⟩;have D:=hid ((a.nds b f).power p u ((a.inv.nd b f).cut n).l0 ((a.inv.nd b f).cut n).l1);have E:=hid (p.mono (a.nds b f).in2);clear u p;rw[B.out,t.out]
  go_wp2_with fail
  go_ret
  exact⟨rfl,a.nodeOut f E (D.mono (aP _)) (aP _) (((a.inv.nd b f).cut n).mono (aP _))⟩
 ·rw[aa d]
  obtain rfl:c=2:=by rw[<-k.out];unfold kP;rw[aa d]
  have F:=hid d;clear d
  go_enter func54,ntmps54
  go_wp2_with fail
  refine(ki s a y F).mono ?_;rintro e o ⟨rfl,v⟩;have G:=hid v;clear v
  go_wp2_with fail
  go_ret
  exact⟨rfl,a.out.out G (aP _)⟩
theorem ND.refuse{d:Nat}(h:ND w0 w C K i zs N m)(j:SR w' K.s K.j K.mb i (my N.R d) (m+1))(e:Kept (In1 K.mb) w w'):ND w0 w' C K i zs { N with R:=my N.R d } (m+1):=by
 have n:=h.cs;have o:=h.cj;have k:=h.cm;have p:=h.cp;have q:=h.cq;have r:=h.cn;have c:∀a,C a≠100*i+4->¬In1 K.mb a:=fun a f b=>by rw[show a=K.mb from b]at f;exact f k
 have l:∀a,In1 K.mb a->w0.heap.size<=a:=fun a b=>by rw[show a=K.mb from b];exact h.sp.m0
 refine⟨e.row h.row (c _ (by omega)),⟨h.sp.jp.far e l (fun a b=>c a (by rcases b with rfl|rfl|rfl<;>omega)),j,h.sp.ns,h.sp.nm,h.sp.sm,h.sp.s0,h.sp.m0⟩,fun d g a b=>?_,h.cn,h.cs,h.cj,h.cm,h.cp,h.cq,h.cl,h.n0⟩
 have f:=h.cl d g a b;exact(h.lds d g a b).kept e (c _ (by omega)) (c _ (by omega))
def hP(n:Nat)(V:PX)(s d:Int):Nat:=if(0<=s∧s<n)∧0<=d∧d<6 then(if upN (V.nd s.toNat)=true then 0 else 6)else 2
theorem aaI(s d:Int)(c:Nat)(h:WD w0 w C X zs V m)(r:Held9 w0 A)(F:m<=1000000)(G:hP zs.length V s d=c):Calls prog 41 #[.pointer (some ⟨X.xb,0,none⟩),.int .i64 s,.int .i64 d] w fun e w'=>e=.returned (ev A c)∧WOut w0 w w' C X zs (if c=0 then lZ V s.toNat d.toNat else V) (m+1):=by
 have j:=hid h;have H:=hid r;have B:=hid (h.held r);clear h r;subst G
 by_cases f:(0<=s∧s<zs.length)∧0<=d∧d<6
 ·obtain⟨a,rfl⟩:=bD f.1.1
  obtain⟨n,rfl⟩:=bD f.2.1;have t:a<zs.length:=by omega
  have u:n<6:=by omega
  have b:=hid t;obtain⟨p,v⟩:=nmd (((V.nd a).l != -2));have D:Hid (upN (V.nd a)=p):=v.out
  cases p with
  | true =>
   have e:hP zs.length V a n=0:=by unfold hP;rw[af f,aU,D.out,af rfl]
   rw[e];clear e f t
   go_enter func41,ntmps41
   go_wp2_with fail
   refine(fu a n j b u).mono ?_;rintro e k ⟨rfl,q⟩;subst k
   go_wp2_with fail
   refine(fm true (j.nds a b) B v).mono ?_;rintro e k ⟨rfl,g⟩;simp only[if_true];have l:=hid (j.later g);have o:=hid g;have M:=(l.nds a b).site;clear g
   go_wp2_with fail
   refine(yV n (l.nds a b).sp.jp.jr (l.nds a b).sp.sr u F).mono ?_;rintro e x ⟨rfl,E,y,-⟩;have I:=hid ((l.nds a b).refuse E y);have J:Hid (Kept (fun z=>C z / 100=a) k x):=y.mono (fun z q=>by rw[show z=_ from q];have:=(l.nds a b).cm;show _ / 100=a;omega);clear E y
   go_wp2_with fail
   go_ret
   refine⟨rfl,?_⟩;exact WOut.step rfl (Kept.of_below o) (fun _ _=>rfl) (l.nodeOut b J I (aP _) ((l.inv.nd a b).refuse.mono (aP _)))
  | false =>
   have e:hP zs.length V a n=6:=by unfold hP;rw[af f,aU,D.out,aa (by decide)]
   rw[e];clear e f t
   go_enter func41,ntmps41
   go_wp2_with fail
   refine(fu a n j b u).mono ?_;rintro e k ⟨rfl,q⟩;subst k
   go_wp2_with fail
   refine(fm false (j.nds a b) B v).mono ?_;rintro e k ⟨rfl,g⟩;rw[aa (by decide),aa (by decide)];have o:=hid g;clear g
   go_wp2_with fail
   go_ret
   exact⟨rfl,j.out.out o (aP _)⟩
 ·have e:hP zs.length V s d=2:=by unfold hP;rw[aa f]
  rw[e];have L:=hid f;clear e f
  go_enter func41,ntmps41
  go_wp2_with fail
  refine(jO s d j H L).mono ?_;rintro e k ⟨rfl,g⟩;have o:=hid g;clear g
  go_wp2_with fail
  refine(jD _ _).mono ?_;rintro e x ⟨rfl,q⟩;subst x
  go_wp2_with fail
  go_ret
  exact⟨rfl,j.out.out o (aP _)⟩
end
def cI(p:Int):Bs:=if p=1 then[118,111,116,101,100]else if p=2 then[99,111,109,109,105,116,116,101,100]else if p=3 then[97,98,111,114,116,101,100]else if p=4 then[112,114,101,99,111,109,109,105,116]else if p=5 then[112,114,101,97,98,111,114,116]else[110,111,116,104,105,110,103]
theorem uV(p:Int)(w:World):Calls prog 132 #[.int .i64 p] w fun e w'=>e=.returned (.string (bB (cI p)))∧w'=w:=by
 have a:p=1∨p=2∨p=3∨p=4∨p=5∨(¬p=1∧¬p=2∧¬p=3∧¬p=4∧¬p=5):=by omega
 rcases a with rfl|rfl|rfl|rfl|rfl|⟨b,c,d,f,g⟩
 iterate 5
  ·go_enter func132,ntmps132
   go_wp2_with fail
   go_ret
   exact⟨rfl,rfl⟩
 ·have h:cI p=[110,111,116,104,105,110,103]:=by unfold cI;rw[aa b,aa c,aa d,aa f,aa g]
  rw[h]
  go_enter func132,ntmps132
  go_wp2_with fail
  go_ret
  exact⟨rfl,rfl⟩
def iR(p r t:Nat):Bs:=cI p++32::(Lib.decDigits r++32::Lib.decDigits t)
theorem afx(x y a:Bs):Lib.join [x,y,a] [32]=x++[32]++y++[32]++a:=by
 simp[Lib.join,List.intercalate]
theorem ib(p:Int):(cI p).length<=20:=by
 unfold cI
 repeat' split
 all_goals decide
theorem qY(b:Nat)(x y c:Bs)(w:World)(d:w.heap[b]?=some (.cells #[.string (bB x),.string (bB y),.string (bB c)] 9 (0,0)))(i:x.length<=1000)(j:y.length<=1000)(k:c.length<=1000):Calls prog 131 #[.slice (some ⟨b,0,none⟩) 3 3,.string ⟨#[32]⟩] w fun e w'=>e=.returned (.string (bB (x++[32]++y++[32]++c)))∧Below w.heap.size w w':=by
 have:=tP b 0 3 [bB x,bB y,bB c] ⟨#[32]⟩ w (fun f l a=>by
  match f,a with
  | 0,a=>obtain rfl:=bF a;exact aG _ _ 0 _ _ _ d
  | 1,a=>obtain rfl:=bF a;exact aG _ _ 1 _ _ _ d
  | 2,a=>obtain rfl:=bF a;exact aG _ _ 2 _ _ _ d
  | f+3,a=>simp at a) (ah d) (by simp) (by simp) (by
   show(Lib.join [x,y,c] [32]).length<=_;rw[afx];simp;omega)
 refine this.mono fun e w' ⟨g,h⟩=>⟨?_,h⟩
 rw[g];show Ending.returned (.string ⟨(Lib.join [x,y,c] [32]).toArray⟩)=_;rw[afx]
theorem oz{n:Nat}(h:n<=9223372036854775807):(Lib.decDigits n).length<=1000:=by
 rw[Lib.decDigits_length];have:=Lib.nDigits_le20 n (by omega);omega
section
variable {w0 w:World} {C:Nat→Nat} {X:XB} {m pb:Nat} {zs:List Int} {V:PX} {A:Nat→Addr}
theorem ue(s d h1 a b:Nat)(h:WD w0 w C X zs V m)(x:Held9 w0 A)(y:TabO w)(hp:bR w pb (az X.xb))(z:s<zs.length)(B:d<6)(D:stN (V.nd s) d=⟨h1,a,b⟩)(E:a<=9223372036854775807)(ht:b<=9223372036854775807):Calls prog 69 #[az pb,.int .i64 (s:Int),.int .i64 (d:Int)] w fun e w'=>e=.returned (.tuple #[.string (bB (iR h1 a b)),.nilIface])∧Below w.heap.size w w':=by
 have O:=hid (adf s d h1 a b h x z B D);have P:=hid y;have k:=hid (And.intro E ht);clear h x z B D y E ht
 go_enter func69,ntmps69
 go_wp2_with fail
 refine O.out.mono ?_;rintro e c ⟨rfl,q⟩;have r:=hid q;have Q:=hid (P.out.later q);clear q;unfold agS
 go_wp2_with fail
 obtain⟨f,F⟩:=nmd (c.alloc (.cells #[.int .i64 (h1:Int),.int .i64 (a:Int),.int .i64 (b:Int)] 80));have g:=aB c (.cells #[.int .i64 (h1:Int),.int .i64 (a:Int),.int .i64 (b:Int)] 80);have l:Below c.heap.size c (c.alloc (.cells #[.int .i64 (h1:Int),.int .i64 (a:Int),.int .i64 (b:Int)] 80)):=aD;rw[F.out]at g l;have d0:=aG _ _ 0 _ _ _ g;have d1:=aG _ _ 1 _ _ _ g;have d2:=aG _ _ 2 _ _ _ g;have G:=hid l;have H:=Q.out.later l;have I:Hid (TabO f.drew):=H;have J:=hid g;have R:=hid (jk a f.drew I.out k.out.1);rw[F.out];clear g l H
 go_region_held3 (fun t=>t.cell? ⟨c.heap.size,0,none⟩=some (.int .i64 (h1:Int))∧t.cell? ⟨c.heap.size,1,none⟩=some (.int .i64 (a:Int))∧t.cell? ⟨c.heap.size,2,none⟩=some (.int .i64 (b:Int))) (first|exact S|exact T|exact U|go_keep) (first
  | (go_at_call 132;(with_reducible refine(uV (h1:Int) _).mono ?_);rintro e wx ⟨rfl,rfl⟩)
  | (go_at_call 64;(with_reducible refine R.out.mono ?_);rintro e K ⟨rfl,n⟩;have W:=hid n;have i:=(n.block _ (ah J.out)).trans J.out;have L:=hid i;have S:=And.intro (aG _ _ 0 _ _ _ i) (And.intro (aG _ _ 1 _ _ _ i) (aG _ _ 2 _ _ _ i));have Y:=hid (jk b K (I.out.later n) k.out.2);clear n i)
  | (go_at_call 64;(with_reducible refine Y.out.mono ?_);rintro e o ⟨rfl,u⟩;have Z:=hid u;have j:=(u.block _ (ah L.out)).trans L.out;have M:=hid j;have T:=And.intro (aG _ _ 0 _ _ _ j) (And.intro (aG _ _ 1 _ _ _ j) (aG _ _ 2 _ _ _ j));clear u j)
  | (go_at_call 131;(with_reducible refine(qY o.heap.size (cI (h1:Int)) (Lib.decDigits a) (Lib.decDigits b) _ (aB o _) (by have:=ib (h1:Int);omega) (oz k.out.1) (oz k.out.2)).mono ?_);rintro e w4 ⟨rfl,N⟩;have v:=ao ((Below.refl o.heap.size o).alloc aj _) N;have a0:=hid v;have p:=(v.block _ (ah M.out)).trans M.out;have U:=And.intro (aG _ _ 0 _ _ _ p) (And.intro (aG _ _ 1 _ _ _ p) (aG _ _ 2 _ _ _ p));clear N v p))
 go_wp2_with fail
 go_ret2
 exact⟨rfl,(r.out.trans (G.out.mono r.out.size)).trans (((ao (show Below f.heap.size f K from((Below.refl _ f).drew).trans W.out) (ao Z.out a0.out))).mono (bc r.out.size G.out.size))⟩
theorem vH(s d:Int)(h:WD w0 w C X zs V m)(b:Held9 w0 A)(j:bR w pb (az X.xb))(c:¬((0<=s∧s<zs.length)∧0<=d∧d<6)):Calls prog 69 #[az pb,.int .i64 s,.int .i64 d] w fun e w'=>e=.returned (.tuple #[.string ⟨#[]⟩,ev A 2])∧Below w.heap.size w w':=by
 have g:=hid (acL s d h b c);clear h b c
 go_enter func69,ntmps69
 go_wp2_with fail
 refine g.mono ?_;rintro e f ⟨rfl,a⟩;have i:=hid (a.trans (((Below.refl f.heap.size f).alloc aj (.cells #[iV 0,iV 0,iV 0] 80)).mono a.size));clear a;unfold ev
 go_wp2_with fail
 go_ret2
 exact⟨rfl,i⟩
theorem tQ(s:Nat)(h:WD w0 w C X zs V m)(g:bR w pb (az X.xb))(c:s<zs.length):Calls prog 73 #[az pb,.int .i64 (s:Int)] w fun e w'=>e=.returned (.tuple #[.string (if upN (V.nd s)=true then⟨#[117,112]⟩else⟨#[100,111,119,110]⟩),.nilIface])∧Below w.heap.size w w':=by
 have a:=hid (ai8 s h c);clear h c
 cases d:upN (V.nd s)with
 | true =>
  rw[d]at a;rw[af rfl]
  go_enter func73,ntmps73
  go_wp2_with fail
  refine a.mono ?_;rintro e b ⟨rfl,f⟩;subst b
  go_wp2_with fail
  go_ret2
  exact⟨rfl,aF⟩
 | false =>
  rw[d]at a;rw[aa (by decide)]
  go_enter func73,ntmps73
  go_wp2_with fail
  refine a.mono ?_;rintro e b ⟨rfl,f⟩;subst b
  go_wp2_with fail
  go_ret2
  exact⟨rfl,aF⟩
theorem uA(s:Int)(h:WD w0 w C X zs V m)(a:Held9 w0 A)(g:bR w pb (az X.xb))(b:¬(0<=s∧s<zs.length)):Calls prog 73 #[az pb,.int .i64 s] w fun e w'=>e=.returned (.tuple #[.string ⟨#[]⟩,.iface 318 (.pointer (some (A 1)))])∧Below w.heap.size w w':=by
 have d:=hid (aiW s h a b);clear h a b
 go_enter func73,ntmps73
 go_wp2_with fail
 refine d.mono ?_;rintro e i ⟨rfl,c⟩;have f:=hid c;clear c
 go_wp2_with fail
 go_ret2
 exact⟨rfl,f⟩
end
theorem Tryz.infoEv:(prog.info? 180).map (fun i=>(i.zero,i.size,i.bytes))=some (some (.agg #[.int .i64 0,.int .i64 0,.int .i64 0]),3,24):=by kernel_rfl
theorem rP(L:List E3):(bu L).length=L.length*3:=by
 unfold bu
 induction L with
 | nil=>rfl
 | cons b c a=>rw[List.flatMap_cons,aR,a];simp[e3L];omega
theorem vD(x:E3):∀a∈e3L x,a.oneCell'=true:=by
 intro a b;simp[e3L]at b;rcases b with rfl|rfl|rfl<;>rfl
theorem kM{w:World}{s j c p n:Nat}{id:Int}{R:Nat->Bool}{E:Nat->Nat×St}{over:Bool}(d h1 a b:Nat)(f:JR w j p E over)(h:SR w s j c id R n)(g:d<6)(i:(E d).2=⟨h1,a,b⟩):Calls prog 108 #[.pointer (some ⟨s,0,none⟩),.int .i64 (d:Int)] w fun e w'=>e=.returned (.agg #[.int .i64 (h1:Int),.int .i64 (a:Int),.int .i64 (b:Int)])∧Below w.heap.size w w':=ub d h1 a b f h g i
theorem mw(a b c:Value)(w:World):(Instr.field 80 (.agg #[a,b,c]) 0).run prog w=.ok a w:=by
 first|rfl|go_simp|kernel_rfl
theorem pG{w:World}{ops:Array Oper}{rest:List Oper}{o:Oper}{a:Act}{Q:Exit->Act->World->Prop}(k:o.guard=none)(s x:Operand)(l:o.op=.call { callee:=.builtin .append,args:=#[s,x],argTypes:=#[91,91] })(base n:Nat)(v:Value)(f:Addr)(c:Nat)(xs:List Value)(e:E3)(m:a.eval s=v)(p:a.eval x=.slice (some f) 1 c)(q:w.ownsRow base 180 3 v n xs)(r:∀j g,(e3L e)[j]?=some g->w.cell? (f.add j)=some g)(G:n<=1000000000000)(t:base<=w.heap.size)(h:∀b d w',w'.ownsRow base 180 3 (.slice b (n+1) d) (n+1) (xs++e3L e)->w.grownBy w' v.ownBlock->((Value.slice b (n+1) d).ownBlock=v.ownBlock∨(Value.slice b (n+1) d).ownBlock=some w.heap.size)->wpList prog ops Q rest (a.put o.dst (.slice b (n+1) d)) w'):wpList prog ops Q (o::rest) a w:=by
 obtain⟨u,y,z,A,B⟩:=info_parts Tryz.infoEv;refine wpList_append_own_at w k s x 91 l base 180 u _ 3 24 underlying91 y z A B rfl (by decide) v n xs m q f 1 c (e3L e) p rfl r (vD e) (by unfold maxLen;omega) (by omega) t ?_;intro C w' i D _ E;obtain⟨b,d,rfl⟩:∃b d,C=.slice b (n+1) d:=by
  rcases i.2 with⟨e,F⟩|⟨H,cap,I,e,-⟩
  ·exact⟨none,0,by rw[e,F]⟩
  ·exact⟨_,_,e⟩
 exact h b d w' i D E
section
variable {w0 w w':World} {C:Nat→Nat} {X:XB} {m:Nat} {zs:List Int} {V:PX} {A:Nat→Addr}
theorem XI.noted{e:E3}(h:XI zs V m)(a:V.evs.length<500):XI zs { V with evs:=V.evs++[e] } (m+1):=
 ⟨h.he,fun b c=>(h.nd b c).mono (aP _),h.fr,by have:=h.fl;show V.fly.length<=_;omega,by show(V.evs++[e]).length<=500;rw[aR];exact a⟩
theorem WD.noted{e:E3}{v':Value}(h:WD w0 w C X zs V m)(n:w'.ownsRow w0.heap.size 180 3 v' (V.evs.length+1) (bu V.evs++e3L e))(i:w.grownBy w' X.ev.ownBlock)(o:v'.ownBlock=X.ev.ownBlock∨v'.ownBlock=some w.heap.size)(p:V.evs.length<500):WOut w0 w (w'.setCell ⟨X.xb,4,none⟩ v') C X zs { V with evs:=V.evs++[e] } (m+1):=by
 have j:=bZ i;have c:=ah h.row;have y:=h.cx;have v:w'.heap[X.xb]?=some (.cells (wdC X zs.length).toArray 148 (0,0)):=j.row h.row (fun e=>by have:=h.ce _ e;omega);have q:Kept (di C) w (w'.setCell ⟨X.xb,4,none⟩ v'):=(j.mono (fun a c=>by show C a<2000;have:=h.ce a c;omega)).setCell (show C X.xb<2000 by omega) v';have r:(w'.setCell ⟨X.xb,4,none⟩ v').heap[X.xb]?=some (.cells (wdC { X with fv:=X.fv,ev:=v' } zs.length).toArray 148 (0,0)):=by
  rw[aE w' X.xb 4 _ _ _ v];rfl
 have s:(w'.setCell ⟨X.xb,4,none⟩ v').ownsRow w0.heap.size 180 3 v' (V.evs++[e]).length (bu (V.evs++[e])):=by
  rw[aR,show bu (V.evs++[e])=bu V.evs++e3L e by simp[bu]];refine aV n ((Kept.refl (In1 X.xb) w').set1 4 v') (fun b d e=>?_);rcases o with f|f
  ·rw[d]at f
   have:=h.ce b f.symm;rw[show b=X.xb from e]at this;omega
  ·rw[d]at f
   have:=bF f;rw[show b=X.xb from e]at this;omega
 have k:Kept (fun a=>a=X.xb∨X.ev.ownBlock=some a) w (w'.setCell ⟨X.xb,4,none⟩ v'):=(j.mono (fun a c=>.inr c)).setCell (.inl rfl) v';have t:OwnF (w'.setCell ⟨X.xb,4,none⟩ v') w0.heap.size X.fv V.fly :=
  h.fly.kept k (fun b i e=>by
   have z:=h.cf b i;rcases e with rfl|e
   ·omega
   ·have:=h.ce b e;omega)
 have u:∀a,(a=X.xb∨X.ev.ownBlock=some a)->C a=1001∨C a=1005∨C a=1006:=fun a c=>by
  rcases c with rfl|c
  ·exact .inl h.cx
  ·exact .inr (.inr (h.ce a c))
 rcases o with f|f
 ·refine⟨C,{ X with ev:=v' },?_,rfl,q,fun _ _=>rfl⟩
  exact h.own (fv:=X.fv) (ev:=v') (F:=V.fly) (E:=V.evs++[e]) k u (fun _ _=>rfl) (fun a c g=>by have:=h.lt a g;omega) r t s h.cf (fun b d=>h.ce b (by rw[<-f];exact d)) (aP _) (h.inv.noted p)
 ·have x:w.heap.size<w'.heap.size:=kt n f
  have l:∀a,a<w.heap.size->bV C w.heap.size 1006 a=C a:=fun a c=>aq (by omega)
  refine⟨bV C w.heap.size 1006,{ X with ev:=v' },?_,rfl,q,l⟩;refine h.own (fv:=X.fv) (ev:=v') (F:=V.fly) (E:=V.evs++[e]) k u l (fun a c g=>?_) r t s (fun b d=>?_) (fun b d=>?_) (aP _) (h.inv.noted p)
  ·by_cases e:a=w.heap.size
   ·rw[e];simpa using x
   ·rw[aq e]at g
    have:=h.lt a g;omega
  ·have:=(h.fly.lt _ d).2
   rw[l b this];exact h.cf b d
  ·rw[f]at d
   obtain rfl:=bF d;exact bw _ _ _
theorem pL(s d b a i j:Nat)(h:WD w0 w C X zs V m)(f:s<zs.length)(D:d<6)(r:stN (V.nd s) d=⟨a,i,j⟩)(g:¬(a≠b∧aT a=true∧V.evs.length<500)):Calls prog 125 #[.pointer (some ⟨X.xb,0,none⟩),.int .i64 (s:Int),.int .i64 (d:Int),.int .i64 (b:Int)] w fun e w'=>e=.returned (.tuple #[])∧Below w.heap.size w w':=by
 obtain⟨-,E,-,-,t⟩:=h.cells;have O:=h.ns s f;have P:=(h.nds s f).site;have u:=hid h;have v:=hid f;have F:=hid r;obtain⟨x,G⟩:=nmd (zs.length);have H:=h.n7;rw[G.out]at E f H;obtain⟨c,k⟩:=nmd (V.evs.length);obtain⟨y,cap,I⟩:∃y cap,Hid (X.ev=.slice y c cap):=by
  rw[<-k.out];rcases h.evs.2 with⟨e,J⟩|⟨z,cap,Q,e,-⟩
  ·exact⟨none,0,by rw[e,J];exact rfl⟩
  ·exact⟨_,_,e⟩
 rw[I.out]at t;rw[k.out]at g;have K:=h.inv.ev;rw[k.out]at K;obtain⟨l,n⟩:=nmd (aT a);rw[n.out]at g;have L:=hid g;clear h r g;have R:∀w,(Instr.field 80 (.agg #[iV (a:Int),iV (i:Int),iV (j:Int)]) 0).run prog w=.ok (iV (a:Int)) w:=fun w=>mw _ _ _ w
 go_enter func125,ntmps125
 go_wp2_with fail
 refine(kM d a i j (u.nds s v).sp.jp.jr (u.nds s v).sp.sr D F).mono ?_;rintro e S ⟨rfl,o⟩;have p:=hid o;have T:=ag o t;clear o
 by_cases B:a=b
 ·subst B
  go_wp2_with fail
  go_end0
  exact⟨rfl,p⟩
 ·have M:¬(a:Int)=b:=by omega
  have U:((a:Int)!=b)=true:=bne_iff_ne.2 M
  cases l with
  | false =>
   go_wp2_with (go_at_call 109;refine(jU a false _ n).mono ?_;rintro e q ⟨rfl,N⟩;subst q)
   go_end0
   exact⟨rfl,p⟩
  | true =>
   have W:¬c<500:=fun z=>L ⟨B,rfl,z⟩
   obtain rfl:c=500:=by omega
   go_wp2_with (go_at_call 109;refine(jU a true _ n).mono ?_;rintro e q ⟨rfl,N⟩;subst q)
   go_end0
   exact⟨rfl,p⟩
theorem adP(s d p a q t:Nat)(h:WD w0 w C X zs V m)(r:s<zs.length)(M:d<6)(y:stN (V.nd s) d=⟨a,q,t⟩)(z:a≠p∧aT a=true∧V.evs.length<500):Calls prog 125 #[.pointer (some ⟨X.xb,0,none⟩),.int .i64 (s:Int),.int .i64 (d:Int),.int .i64 (p:Int)] w fun e w'=>e=.returned (.tuple #[])∧WOut w0 w w' C X zs { V with evs:=V.evs++[⟨s,d,a⟩] } (m+1):=by
 obtain⟨-,N,-,-,B⟩:=h.cells;have c2:=h.ns s r;have c3:=(h.nds s r).site;have u:=hid h;have D:=hid r;have O:=hid y;obtain⟨E,P⟩:=nmd (zs.length);have Q:=h.n7;rw[P.out]at N r Q;obtain⟨b,i⟩:=nmd (V.evs.length);obtain⟨c,cap,j⟩:∃c cap,Hid (X.ev=.slice c b cap):=by
  rw[<-i.out];rcases h.evs.2 with⟨e,R⟩|⟨a0,cap,a1,e,-⟩
  ·exact⟨none,0,by rw[e,R];exact rfl⟩
  ·exact⟨_,_,e⟩
 rw[j.out]at B;rw[i.out]at z;obtain⟨g1,F,S⟩:=z;have T:=hid F;have U:¬(a:Int)=p:=by omega
 have g3:((a:Int)!=p)=true:=bne_iff_ne.2 U;have a2:=h.bel.size;clear h y F;have a3:∀w,(Instr.field 80 (.agg #[iV (a:Int),iV (q:Int),iV (t:Int)]) 0).run prog w=.ok (iV (a:Int)) w:=fun w=>mw _ _ _ w
 go_enter func125,ntmps125
 go_wp2_with fail
 refine(kM d a q t (u.nds s D).sp.jp.jr (u.nds s D).sp.sr M O).mono ?_;rintro e f ⟨rfl,k⟩;have G:=hid k;have d4:=ag k B;have W:=hid (u.later k);have a4:=k.size;clear k;obtain⟨g,v⟩:=nmd (f.alloc (.cells #[iV (s:Int),iV (d:Int),iV (a:Int)] 180));have a5:=v.out;have x:Hid (bW f g):=by rw[<-v.out];exact aD
 have Y:Hid (∀H I,(e3L ⟨s,d,a⟩)[H]?=some I->g.cell? ((⟨f.heap.size,0,none⟩:Addr).add H)=some I):=by rw[<-v.out];exact gE f 180 (e3L ⟨s,d,a⟩)
 have l:=hid (W.later x);have a6:=x.size;have Z:Hid (g.ownsRow w0.heap.size 180 3 (.slice c b cap) b (bu V.evs)):=by have:=l.evs;rw[j.out,i.out]at this;exact this
 have HX:Hid (∀w',g.grownBy w' (Value.slice c b cap).ownBlock->w'.cell? ⟨X.xb,4,none⟩=some (.slice c b cap)∧w'.frozen? ⟨X.xb,4,none⟩=false):=by
  intro w' n;have J:=(bZ n).row l.row (fun e=>by rw[<-j.out]at e;have h1:=l.ce _ e;have q:=l.cx;omega);exact⟨by rw[ai J,<-j.out];rfl,dN J⟩
 go_wp2_with (first|(go_at_call 109;refine(jU a true _ T).mono ?_;rintro e w2 ⟨rfl,hx⟩;subst w2)|(at_builtin;refine pG rfl _ _ rfl w0.heap.size b (.slice c b cap) ⟨f.heap.size,0,none⟩ 1 (bu V.evs) ⟨s,d,a⟩ rfl rfl Z Y (by omega) (by omega) ?_;intro a7 a8 w' K n L;obtain⟨a9,b0⟩:=HX.out w' n;have o:=hid (And.intro K (And.intro n L));clear K n L))
 go_end0
 refine⟨rfl,?_⟩;rw[<-j.out]at o;rw[<-i.out]at o ⊢;exact WOut.step rfl (Kept.of_below (G.trans (x.mono G.size))) (fun _ _=>rfl) (l.noted o.1 o.2.1 o.2.2 (by rw[i.out];exact S))
end
theorem aeS(w:World):(binOp .eql 91 (.slice none 0 0) (.slice none 0 0)).run prog w=.ok (.bool true) w:=by
 rfl
theorem agj(b a n cap:Nat)(w:World):(binOp .eql 91 (.slice (some ⟨b,a,none⟩) n cap) (.slice none 0 0)).run prog w=.ok (.bool false) w:=by
 rfl
theorem oT{w:World}{ops:Array Oper}{rest:List Oper}{o:Oper}{a:Act}{Q:Exit->Act->World->Prop}(l:o.guard=none)(s x:Operand)(m:o.op=.call { callee:=.builtin .append,args:=#[s,x],argTypes:=#[91,91] })(base n:Nat)(v:Value)(g:Addr)(c:Nat)(xs:List Value)(L:List E3)(p:a.eval s=v)(q:a.eval x=.slice (some g) L.length c)(r:w.ownsRow base 180 3 v n xs)(e:∀j f,(bu L)[j]?=some f->w.cell? (g.add j)=some f)(H:n+L.length<=1000000000000)(t:base<=w.heap.size)(h:∀b d w',w'.ownsRow base 180 3 (.slice b (n+L.length) d) (n+L.length) (xs++bu L)->w.grownBy w' v.ownBlock->wpList prog ops Q rest (a.put o.dst (.slice b (n+L.length) d)) w'):wpList prog ops Q (o::rest) a w:=by
 obtain⟨u,y,z,A,B⟩:=info_parts Tryz.infoEv;refine wpList_append_own_at w l s x 91 m base 180 u _ 3 24 underlying91 y z A B rfl (by decide) v n xs p r g L.length c (bu L) q (rP L) e (fun f e=>?_) (by unfold maxLen;omega) (by omega) t ?_
 ·unfold bu at e
  obtain⟨C,-,D⟩:=List.mem_flatMap.1 e;exact vD C f D
 ·intro E w' k F _ I
  obtain⟨b,d,rfl⟩:∃b d,E=.slice b (n+L.length) d:=by
   rcases k.2 with⟨i,G⟩|⟨J,cap,K,i,-⟩
   ·exact⟨none,0,by rw[i,G]⟩
   ·exact⟨_,_,i⟩
  exact h b d w' k F
theorem uI(base:Nat)(v:Value)(L:List E3)(w:World)(b:w.ownsRow base 180 3 v L.length (bu L))(o:L.length<=1000000000000):Calls prog 127 #[v] w fun e w'=>∃v',e=.returned v'∧w'.ownsRow w.heap.size 180 3 v' L.length (bu L)∧Below w.heap.size w w':=by
 rcases b.2 with⟨e,f⟩|⟨d,cap,p,e,-⟩
 ·subst e
  obtain rfl:L=[]:=List.length_eq_zero_iff.1 f;clear b f;have k:=aeS
  go_enter func127,ntmps127
  go_wp2_with fail
  go_ret
  exact⟨_,rfl,World.ownsRow_nil _ _ _ _,aF⟩
 ·subst e
  have k:=agj d 0 L.length cap;have l:Hid (∀a c,(bu L)[a]?=some c->(w.alloc (.cells #[] 180)).cell? ((⟨d,0,none⟩:Addr).add a)=some c):=fun a c m=>bM _ (b.cells rfl a c m)
  have g:Hid ((w.alloc (.cells #[] 180)).ownsRow w.heap.size 180 3 (.slice (some ⟨w.heap.size,0,none⟩) 0 0) 0 []):=World.ownsRow_lit w #[] 0 aj (by unfold maxLen;omega) rfl;clear b
  go_enter func127,ntmps127
  go_wp2_with (at_builtin;refine oT rfl _ _ rfl w.heap.size 0 (.slice (some ⟨w.heap.size,0,none⟩) 0 0) ⟨d,0,none⟩ cap [] L rfl rfl g l (by omega) (by simp) ?_;intro q r s h i;have j:=hid (And.intro h i);clear h i)
  go_ret
  refine⟨_,rfl,?_,((Below.refl w.heap.size w).alloc aj (.cells #[] 180)).grown j.2 (by simp) (fun a n=>(g.lt a n).1)⟩;have:=j.1
  simpa using this
section
variable {w0 w w':World} {C C':Nat→Nat} {K:NB} {X:XB} {i m m':Nat} {zs:List Int} {N:PN} {V V':PX} {A:Nat→Addr}
theorem qN(h:WD w0 w C X zs V m):Calls prog 61 #[.pointer (some ⟨X.xb,0,none⟩)] w fun e w'=>∃v',e=.returned v'∧w'.ownsRow w.heap.size 180 3 v' V.evs.length (bu V.evs)∧Below w.heap.size w w':=by
 obtain⟨-,-,-,-,d⟩:=h.cells;have a:=hid (uI w0.heap.size X.ev V.evs w h.evs (by have:=h.inv.ev;omega));generalize X.ev=g at d a;clear h
 go_enter func61,ntmps61
 go_wp2_with fail
 refine a.mono ?_;rintro e j ⟨v',rfl,b,c⟩;have f:=hid (And.intro b c);clear b c
 go_wp2_with fail
 go_ret
 exact⟨_,rfl,f⟩
end
end Go.Proofs.YtaehdgemkafinaaGreatDoor
