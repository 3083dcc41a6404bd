/-
  On the way to SPlaysProof: JI O4 JK JL JN O5 RD.
-/
import Derived.Test.YtaehdgemkafinaaGreatDoorBx3
import Derived.Test.YtaehdgemkafinaaGreatDoorBx6
import Derived.Test.YtaehdgemkafinaaGreatDoorBx4
import Derived.Maps.Own
import Derived.Maps.Views
set_option maxHeartbeats 8000000
set_option maxRecDepth 100000
namespace Go.Proofs.YtaehdgemkafinaaGreatDoor
open Go.RowKit
open Go.Proofs.Tryz
theorem aa4(B s:ByteArray)(l:Int)(a:Nat)(h:a+s.size<=B.size)(h0:0<s.size):Wr B.data.toList a s.data.toList (wB B s l a).data.toList (wC B s l a):=by
 have b:¬ji B s a:=by unfold ji;omega
 by_cases c:l=-2
 ·simp only[wC,wB,aa b,af c]
  exact .inr ⟨rfl,0,by rw[<-bj];exact h0,by rw[List.take_zero,pQ]⟩
 ·by_cases d:0<=l∧l<s.size
  ·simp only[wC,wB,aa b,aa c,af d,aU]
   refine .inr ⟨rfl,l.toNat,by rw[<-bj];omega,?_⟩;rw[ti (by omega)]
  ·simp only[wC,wB,aa b,aa c,aa d,aU]
   refine .inl ⟨rfl,?_⟩;rw[ti aj,bj,List.take_length]
theorem uZ(B s:ByteArray)(l:Int)(a:Nat)(h:wC B s l a=6):wL B s l a=-2:=by
 unfold wC at h;unfold wL
 split at h
 ·cases h
 ·rename_i c
  rw[aa c]
  split at h
  ·rename_i b;rw[af b]
  ·rename_i b
   rw[aa b]
   split at h
   ·rename_i d;rw[af d]
   ·cases h
theorem qX(L:List UInt8)(k:Nat)(a:k<12):aN (L.take 216) k=aN L k:=by
 apply List.ext_getElem?;intro b;rw[fT,fT]
 split
 ·rw[List.getElem?_take,af (by omega)]
 ·rfl
theorem aaQ(L:List UInt8)(d:Nat)(a:d<6):au (L.take 216) d=au L d:=by
 unfold au;rw[qX L _ (by omega),qX L _ (by omega)]
theorem ade(B:ByteArray)(d n ph pr a:Nat)(w:World)(b:B.size=216)(c:d<6)(h:au B.data.toList d=(n,⟨ph,pr,a⟩)):Calls prog 199 #[.string B,.int .i64 (d:Int)] w fun e w'=>e=.returned (.agg #[.int .i64 (ph:Int),.int .i64 (pr:Int),.int .i64 (a:Int),.int .u32 (n:Int)])∧Below w.heap.size w w':=by
 have:=yB B d w b c;rw[h]at this;exact this
def jM(L:List UInt8)(k:Nat):Nat->Nat×St:=fun d=>if d<k then au L d else(0,St.zero)
theorem zD(L:List UInt8)(k:Nat):jM L (k+1)=iM (jM L k) k (au L k):=by
 funext d
 unfold jM iM
 by_cases a:d=k
 ·subst a;rw[af (by omega),af rfl]
 ·rw[aa a]
  show _=if d<k then au L d else(0,St.zero)
  by_cases b:d<k
  ·rw[af (by omega),af b]
  ·rw[aa (by omega),aa b]
theorem abZ(w:World):Calls prog 198 #[.int .i64 6,.int .u32 0] w fun e w'=>e=.returned (.int .i64 216)∧w'=w:=sX 6 0 w (by omega) (by omega)
theorem aiM(A:Nat->Addr)(p q:Nat)(B X:ByteArray)(l:Int)(w:World)(h:Pl w p q B l)(a:HeldE w A)(b:B.size<=1000)(c:¬l=-2)(f:216<=B.size)(d:B.extract 0 (0+216)=X):Calls prog 197 #[.pointer (some ⟨p,0,none⟩),.int .i64 0,.int .i64 216] w fun e w'=>e=.returned (.tuple #[.string X,.nilIface])∧w'=w:=by
 rw[<-d];exact um A p q B l 0 216 w h a b c (by omega)
theorem aa7(L:List UInt8)(d:Nat)(a:d<6):jM L 6 d=au L d:=af a
theorem xH(A:Nat->Addr)(p q:Nat)(B:ByteArray)(l:Int)(w:World)(h:Pl w p q B l)(n:HeldE w A)(E:B.size<=1000)(F:216<=B.size)(o:¬l=-2):Calls prog 169 #[.pointer (some ⟨p,0,none⟩)] w fun e w'=>∃j,e=.returned (.tuple #[.pointer (some ⟨j,0,none⟩),.nilIface])∧JR w' j p (au B.data.toList) false∧Below w.heap.size w w'∧w.heap.size<=j:=by
 have G:=hid h;have H:=hid n;have I:=hid o;obtain⟨b,r⟩:=nmd (B.extract 0 (0+216));have s:Hid (b.data.toList=B.data.toList.take 216):=by rw[<-r.out,];unfold Hid;rw[dE];rfl
 have J:b.size=216:=by rw[bj,s.out,bI,<-bj];omega
 have K:Hid (∀w' j,JR w' j p (jM b.data.toList 6) false->JR w' j p (au B.data.toList) false):=fun w' j L=>L.ext (fun M t=>by rw[aa7 _ _ t,s.out,aaQ _ _ t])
 have N:Hid (∀a,jM b.data.toList (a+1)=iM (jM b.data.toList a) a (au b.data.toList a)):=zD _;have O:Hid (jM b.data.toList 0=fun _=>(0,St.zero)):=by unfold Hid jM;funext M;rw[aa (by omega)]
 clear h n o
 go_enter func169,ntmps169
 go_wp2_with (first|(go_at_call 198;refine(abZ _).mono ?_;rintro e d ⟨rfl,P⟩;subst d)|(go_at_call 197;refine(aiM A p q B b l _ G.out H.out E I.out F r.out).mono ?_;rintro e d ⟨rfl,P⟩;subst d))
 go_loopw [23] (fun f wr=>∃a:Nat,a<=6∧f=iV (a:Int)∧JR wr w.heap.size p (jM b.data.toList a) false∧bW w wr) (fun f _=>6-(intOf f).toNat)
 case atStart=>exact⟨0,by omega,rfl,by rw[O.out];exact aB w _,aD⟩
 case round =>
  obtain⟨a,S,rfl,u,v⟩:=hrel;have g:=hid u;have i:=hid v;clear u v
  by_cases k:a<6
  ·obtain⟨⟨x,y,z,C⟩,D⟩:∃Q,Hid (au b.data.toList a=Q):=⟨_,rfl⟩
   go_wp2_with fail
   go_region_held3 (fun _=>True) (trivial) (first|(go_at_call 199;(with_reducible refine(ade b a x y z C _ J k D.out).mono ?_);rintro e T ⟨rfl,m⟩;have c:=hid (g.drew.later m g.lt);have R:=hid (i.drew.trans (m.mono i.size));obtain⟨U,V,W,X⟩:=c.ent k;have Y:=c.fz (1+a*4);have Z:=c.fz (1+a*4+1);have f2:=c.fz (1+a*4+2);have f3:=c.fz (1+a*4+3);clear m))
   all_goals go_wp2_with fail
   all_goals go_roundw
   case rel=>exact⟨a+1,by omega,by go_num,by rw[N.out,D.out];exact c.set k (x,⟨y,z,C⟩),(((R.setCell aj _).setCell aj _).setCell aj _).setCell aj _⟩
   case measure=>simp[intOf];omega
  ·obtain rfl:a=6:=by omega
   go_wp2_with fail
   go_ret2
   exact⟨w.heap.size,rfl,K.out _ _ g.out,i.out,aj⟩
theorem bk:(prog.info? 80).map (·.size)=some 3:=by kernel_rfl
theorem ez{w:World}{g:Nat}{a b c:Value}{t:TypeId}(h:w.heap[g]?=some (.cells #[a,b,c] t (0,0)))(d e f:Value):(((w.setCell ⟨g,0,none⟩ d).setCell ⟨g,1,none⟩ e).setCell ⟨g,2,none⟩ f).heap[g]?=some (.cells #[d,e,f] t (0,0)):=by
 have i:=aE w g 0 _ _ d h;have j:=aE _ g 1 _ _ e i;exact aE _ g 2 _ _ f j
def stV(s:St):Value:=.agg #[.int .i64 s.ph,.int .i64 s.pr,.int .i64 s.at_]
theorem aiB(j p d:Nat)(E:Nat->Nat×St)(over:Bool)(w:World)(h:JR w j p E over)(a:d<6):Calls prog 160 #[.pointer (some ⟨j,0,none⟩),.int .i64 (d:Int)] w fun e w'=>e=.returned (.tuple #[stV (E d).2,.nilIface])∧Below w.heap.size w w':=by
 have b:Hid (decide (0<=(d:Int)∧(d:Int)<6)=true):=bo ⟨by omega,by omega⟩;obtain⟨c,f,g,n⟩:=h.ent a;have o:=h.lt;unfold stV;generalize (E d).2.ph=i at c ⊢;generalize (E d).2.pr=k at f ⊢;generalize (E d).2.at_=l at g ⊢;clear h
 go_enter func160,ntmps160
 go_wp2_with (go_at_call 188;refine(ln d _).mono ?_;rw[b.out];rintro e m ⟨rfl,q⟩;subst m)
 refine bh (cH rfl _ _ w.heap.size 80 #[iV (i:Int),iV (k:Int),iV (l:Int)] (0,0) _ rfl (aB w _) underlying80 rfl bk) rfl ?_;exact⟨rfl,aD⟩
theorem aey(A:Nat->Addr)(p q:Nat)(B:ByteArray)(l:Int)(c:Nat)(w:World)(h:Pl w p q B l)(b:HeldE w A)(f:B.size<=1000)(d:rC B l 0 216=c+1):Calls prog 169 #[.pointer (some ⟨p,0,none⟩)] w fun e w'=>e=.returned (.tuple #[.pointer none,.iface 318 (.pointer (some (A c)))])∧w'=w:=by
 have g:=hid h;have i:=hid b;have j:=hid d;clear h b d
 go_enter func169,ntmps169
 go_wp2_with (first|(go_at_call 198;refine(abZ _).mono ?_;rintro e a ⟨rfl,k⟩;subst a)|(go_at_call 197;refine(adR A p q B l 0 216 c _ g i f (by omega) j).mono ?_;rintro e a ⟨rfl,k⟩;subst a))
 go_ret2
 exact⟨rfl,rfl⟩
abbrev az(b:Nat):Value:=.pointer (some ⟨b,0,none⟩)
abbrev fj(f b:Nat):Value:=.func (.func f) #[] #[az b]
abbrev bR(w:World)(b:Nat)(v:Value):Prop:=w.cell? ⟨b,0,none⟩=some v
structure TellO (w w':World) (pb:Nat) (form:ByteArray) (t:Value) (v:Value) (x y:Nat):Prop where
 val:v=.agg #[.string form,.bool false,.func (.func 128) #[] #[az x,az y]]
 bx:bR w' x (az pb)
 by_:bR w' y t
 lx:w.heap.size<=x
 ly:w.heap.size<=y
theorem xj:(prog.info? 84).map (·.size)=some 3:=by kernel_rfl
theorem oH(w:World)(t:TypeId)(v:Value):bR (w.alloc (.cells #[v] t)) w.heap.size v:=by
 exact aG _ _ 0 _ _ _ (aB w _)
theorem sK(pb:Nat)(a:ByteArray)(f b:Nat)(w:World):Calls prog 62 #[az pb,.string a,fj f b] w fun e w'=>∃v x y,e=.returned v∧TellO w w' pb a (fj f b) v x y∧Below w.heap.size w w':=by
 have g:=oH w 44 (az pb);have c:=oH (w.alloc (.cells #[az pb] 44)) 82 (fj f b);have h:bW w (w.alloc (.cells #[az pb] 44)):=aD;have i:(w.alloc (.cells #[az pb] 44)).heap.size=w.heap.size+1:=by simp
 rw[i]at c;have d:=hid (And.intro (bM (.cells #[fj f b] 82) g) (And.intro c h));clear g c h i
 go_enter func62,ntmps62
 go_wp2_with fail
 refine bh (results_cell_row rfl _ _ (w.heap.size+1+1) 84 #[.string a,.bool false,.func (.func 128) #[] #[az w.heap.size,az (w.heap.size+1)]] (0,0) _ rfl (by
  have:=aB ((w.alloc (.cells #[az pb] 44)).alloc (.cells #[fj f b] 82)) (.cells #[.string a,.bool false,.func (.func 128) #[] #[az w.heap.size,az (w.heap.size+1)]] 84)
  simpa using this) underlying84 rfl xj) rfl ?_
 refine⟨_,w.heap.size,w.heap.size+1,rfl,⟨rfl,bM _ d.1,bM _ d.2.1,aj,by omega⟩,?_⟩;exact((d.2.2.alloc (by simp) _).alloc (by simp;omega) _)
structure DoesO (w w':World) (pb:Nat) (form:ByteArray) (t:Value) (v:Value) (x y z:Nat):Prop where
 val:v=.agg #[.string form,.bool false,.func (.func 128) #[] #[az x,az y]]
 bx:bR w' x (az pb)
 by_:bR w' y (fj 99 z)
 bz:bR w' z t
 lx:w.heap.size<=x
 ly:w.heap.size<=y
 lz:w.heap.size<=z
theorem aea(pb:Nat)(k:ByteArray)(f b:Nat)(w:World):Calls prog 37 #[az pb,.string k,fj f b] w fun e w'=>∃v x y E,e=.returned v∧DoesO w w' pb k (fj f b) v x y E∧Below w.heap.size w w':=by
 have q:=oH w 87 (fj f b);have l:bW w (w.alloc (.cells #[fj f b] 87)):=aD;have r:(w.alloc (.cells #[fj f b] 87)).heap.size=w.heap.size+1:=by simp
 have h:=aB (w.alloc (.cells #[fj f b] 87)) (.cells #[.string ⟨#[]⟩,.bool false,.nilFunc] 84);have m:=bM (.cells #[.string ⟨#[]⟩,.bool false,.nilFunc] 84) q;have n:=l.alloc l.size (.cells #[.string ⟨#[]⟩,.bool false,.nilFunc] 84);rw[r]at h;obtain⟨i,s⟩:=nmd ((w.alloc (.cells #[fj f b] 87)).alloc (.cells #[.string ⟨#[]⟩,.bool false,.nilFunc] 84));rw[s.out]at h m n;have L:w.heap.size+1<i.heap.size:=ah h;have F:=hid (sK pb k 99 w.heap.size i);have j:=hid (And.intro h (And.intro m n));have M:=s.out;clear q l r h m n
 go_enter func37,ntmps37
 go_wp2_with fail
 refine F.mono ?_;rintro e t ⟨v,x,y,rfl,G,o⟩;obtain⟨rfl,u,z,A,B⟩:=G;have g:=hid (And.intro u (And.intro z (And.intro A B)));have a:=(o.block _ (ah j.1)).trans j.1;have H:=hid a;have C:=hid o;have N:=aG _ _ 0 _ _ _ a;have O:=aG _ _ 1 _ _ _ a;have P:=aG _ _ 2 _ _ _ a;have Q:=aK _ _ 0 _ _ a;have R:=aK _ _ 1 _ _ a;have S:=aK _ _ 2 _ _ a;clear u z A B a o
 go_wp2_with fail
 refine bh (results_cell_row rfl _ _ (w.heap.size+1) 84 _ (0,0) _ rfl (ez H _ _ _) underlying84 rfl xj) rfl ?_;have D:∀c,i.heap.size<=c->c≠w.heap.size+1:=fun c d=>by omega
 have d:∀c p,c≠w.heap.size+1->t.cell? ⟨c,0,none⟩=some p->(((t.setCell ⟨w.heap.size+1,0,none⟩ (.string k)).setCell ⟨w.heap.size+1,1,none⟩ (.bool false)).setCell ⟨w.heap.size+1,2,none⟩ (.func (.func 128) #[] #[az x,az y])).cell? ⟨c,0,none⟩=some p:=fun c p d I=>by
  rw[World.cell?_setCell_other _ _ _ _ (fun e=>d (congrArg Addr.block e).symm),World.cell?_setCell_other _ _ _ _ (fun e=>d (congrArg Addr.block e).symm),World.cell?_setCell_other _ _ _ _ (fun e=>d (congrArg Addr.block e).symm)];exact I
 have J:=j.2.2.size;refine⟨_,x,y,w.heap.size,rfl,⟨rfl,d x _ (D x g.2.2.1) g.1,d y _ (D y g.2.2.2) g.2.1,d _ _ (by omega) (ag C j.2.1),by have:=g.2.2.1;omega,by have:=g.2.2.2;omega,aj⟩,?_⟩;have K:=j.2.2.trans (C.mono J);exact((K.setCell (aP _) _).setCell (aP _) _).setCell (aP _) _
structure JP (w0 w:World) (j p q:Nat) (E:Nat->Nat×St) (over:Bool) (B:ByteArray) (l:Int):Prop where
 bel:Below w0.heap.size w0 w
 jr:JR w j p E over
 pl:Pl w p q B l
 jp:j≠p
 jq:j≠q
 j0:w0.heap.size<=j
 p0:w0.heap.size<=p
 q0:w0.heap.size<=q
 l0:-2<=l
 l1:l<=9223372036854775807
 sz:B.size<=1000
 s6:216<=B.size
section
variable {w0 w w':World} {j p q:Nat} {E:Nat→Nat×St} {over:Bool} {B B':ByteArray} {l l':Int} {A:Nat→Addr}
theorem JP.later(h:JP w0 w j p q E over B l)(a:Below w.heap.size w w'):JP w0 w' j p q E over B l:=
 ⟨h.bel.trans (a.mono h.bel.size),h.jr.later a h.jr.lt,h.pl.kept (S:=fun _=>False) (Kept.of_below a) (fun b=>b) (fun b=>b),h.jp,h.jq,h.j0,h.p0,h.q0,h.l0,h.l1,h.sz,h.s6⟩
theorem JP.drew(h:JP w0 w j p q E over B l):JP w0 w.drew j p q E over B l:=h.later aF.drew
theorem JP.plate(h:JP w0 w j p q E over B l)(b:Kept (In2 p q) w w')(d:Pl w' p q B' l')(h0:-2<=l')(h1:l'<=9223372036854775807)(c:B'.size=B.size):JP w0 w' j p q E over B' l':=
 ⟨b.below h.bel.size (fun e a=>by have:=h.p0;have:=h.q0;unfold In2 at a;omega) h.bel,b.row h.jr (fun a=>a.elim h.jp h.jq),d,h.jp,h.jq,h.j0,h.p0,h.q0,h0,h1,by rw[c];exact h.sz,by rw[c];exact h.s6⟩
theorem JP.held(h:JP w0 w j p q E over B l)(a:HeldE w0 A):HeldE w A:=a.later h.bel
theorem JP.gp(h:JP w0 w j p q E over B l)(b:HeldE w0 A):5≠p∧5≠q:=by
 have:=bY b.g5;have:=h.p0;have:=h.q0;exact⟨fun a=>by subst a;simp at *;omega,fun a=>by subst a;simp at *;omega⟩
theorem JP.own{b:Nat->Nat×St}{c:Bool}(h:JP w0 w j p q E over B l)(d:Kept (In1 j) w w')(e:JR w' j p b c):JP w0 w' j p q b c B l:=
 ⟨d.below h.bel.size (fun f a=>by have:=h.j0;unfold In1 at a;omega) h.bel,e,h.pl.kept d (fun a=>h.jp a.symm) (fun a=>h.jq a.symm),h.jp,h.jq,h.j0,h.p0,h.q0,h.l0,h.l1,h.sz,h.s6⟩
end
theorem afA(B s:ByteArray)(l a:Int)(h:-2<=l):-2<=wL B s l a:=by
 unfold wL
 repeat' split
 all_goals omega
theorem afw(B s:ByteArray)(l a:Int)(h:l<=9223372036854775807):wL B s l a<=9223372036854775807:=by
 unfold wL
 repeat' split
 all_goals omega
theorem pP(A:Nat->Addr)(w0 w:World)(j p q:Nat)(E:Nat->Nat×St)(over:Bool)(B s:ByteArray)(l a:Int)(h:JP w0 w j p q E over B l)(b:HeldE w0 A)(f:s.size<=1000)(c:Nat)(g:wC B s l a=c):Calls prog 258 #[.pointer (some ⟨p,0,none⟩),.int .i64 a,.string s] w fun e w'=>e=.returned (ev A c)∧JP w0 w' j p q E over (wB B s l a) (wL B s l a)∧Kept (In2 p q) w w':=by
 rw[<-g];refine(afh A p q B s l a w h.pl (h.held b) h.sz f h.l0 h.l1 (h.gp b).1 (h.gp b).2).mono ?_;rintro e w' ⟨rfl,i,d⟩;exact⟨rfl,h.plate d i (afA B s l a h.l0) (afw B s l a h.l1) (km B s l a),d⟩
structure Out where
 c:Nat
 b:ByteArray
 l:Int
def iW(B s:ByteArray)(l:Int)(a:Nat):Out:=⟨wC B s l a,wB B s l a,wL B s l a⟩
def cF(B:ByteArray)(l:Int)(k:Nat):Out:=if l=-2 then⟨6,B,l⟩else if B.data.toList[18*k+17]?=some 0 then⟨0,B,l⟩else iW B (bA [0]) l (18*k+17)
def da(B:ByteArray)(l:Int)(k n:Nat)(s:St):Out:=if(cF B l k).c=0 then iW (cF B l k).b (bA (aY n s)) (cF B l k).l (18*k)else cF B l k
def bf(B:ByteArray)(l:Int)(k n:Nat)(s:St):Out:=if(da B l k n s).c=0 then iW (da B l k n s).b (bA [165]) (da B l k n s).l (18*k+17)else da B l k n s
theorem aiI(A:Nat->Addr)(w0 w:World)(j p q:Nat)(E:Nat->Nat×St)(over:Bool)(B:ByteArray)(l:Int)(k:Nat)(a:Int)(x:UInt8)(h:JP w0 w j p q E over B l)(b:HeldE w0 A)(m:k<12)(c:¬l=-2)(d:a=((18*k+17:Nat):Int))(f:B.data.toList[18*k+17]?=some x):Calls prog 197 #[.pointer (some ⟨p,0,none⟩),.int .i64 a,.int .i64 1] w fun e w'=>e=.returned (.tuple #[.string (bA [x]),.nilIface])∧w'=w:=by
 subst d;have e:B.extract (18*k+17) (18*k+17+1)=bA [x]:=by
  apply kG;rw[dE,ep];obtain⟨g,i⟩:=List.getElem?_eq_some_iff.1 f;rw[List.drop_eq_getElem_cons g,i];simp
 have:=um A p q B l (18*k+17) 1 w h.pl (h.held b) h.sz c (by have:=h.s6;omega);rw[e]at this;exact this
theorem yZ(A:Nat->Addr)(w0 w:World)(j p q:Nat)(E:Nat->Nat×St)(over:Bool)(B:ByteArray)(k:Nat)(a:Int)(h:JP w0 w j p q E over B (-2))(b:HeldE w0 A)(d:k<12)(c:a=((18*k+17:Nat):Int)):Calls prog 197 #[.pointer (some ⟨p,0,none⟩),.int .i64 a,.int .i64 1] w fun e w'=>e=.returned (.tuple #[.string ⟨#[]⟩,.iface 318 (.pointer (some (A 5)))])∧w'=w:=by
 subst c;exact sv A p q B _ 1 w h.pl (h.held b) h.sz (by have:=h.s6;omega)
theorem ut(A:Nat->Addr)(w0 w:World)(j p q:Nat)(E:Nat->Nat×St)(over:Bool)(B s:ByteArray)(l a:Int)(h:JP w0 w j p q E over B l)(b:HeldE w0 A)(c:s.size<=1000)(d:wC B s l a=0):Calls prog 258 #[.pointer (some ⟨p,0,none⟩),.int .i64 a,.string s] w fun e w'=>e=.returned .nilIface∧JP w0 w' j p q E over (wB B s l a) (wL B s l a)∧Kept (In2 p q) w w':=pP A w0 w j p q E over B s l a h b c 0 d
theorem tW(A:Nat->Addr)(w0 w:World)(j p q:Nat)(E:Nat->Nat×St)(over:Bool)(B s:ByteArray)(l a:Int)(h:JP w0 w j p q E over B l)(b:HeldE w0 A)(d:s.size<=1000)(c:Nat)(f:wC B s l a=c+1):Calls prog 258 #[.pointer (some ⟨p,0,none⟩),.int .i64 a,.string s] w fun e w'=>e=.returned (.iface 318 (.pointer (some (A c))))∧JP w0 w' j p q E over (wB B s l a) (wL B s l a)∧Kept (In2 p q) w w':=pP A w0 w j p q E over B s l a h b d (c+1) f
theorem aiO(n:Nat)(s:St):(bA (aY n s++[165])).extract 0 17=bA (aY n s):=by
 apply kG;rw[dE,ep,ep,List.drop_zero,Nat.sub_zero];exact jj (cJ n s)
theorem ai2(n:Nat)(s:St):(bA (aY n s++[165])).extract 17 (bA (aY n s++[165])).size=bA [165]:=by
 apply kG;rw[dE,ep,ep,mK (cJ n s),bX,aR,cJ];rfl
theorem vd(A:Nat->Addr)(w0 w:World)(j p q:Nat)(E:Nat->Nat×St)(over:Bool)(B:ByteArray)(l:Int)(k n:Nat)(s:St)(h:JP w0 w j p q E over B l)(M:HeldE w0 A)(X:k<12):Calls prog 244 #[.pointer (some ⟨j,0,none⟩),.int .i64 ((18*k:Nat):Int),.string (bA (aY n s++[165]))] w fun e w'=>e=.returned (ev A (bf B l k n s).c)∧JP w0 w' j p q E over (bf B l k n s).b (bf B l k n s).l∧Kept (In2 p q) w w':=by
 have r:=hid h;have t:=hid M;have cj:=h.jr.plate;obtain⟨a,y⟩:=nmd (18*k);have ha:a<=216:=by rw[<-y.out];omega
 have a8:IntKind.i64.wrap ((a:Int)+17)=(a:Int)+17:=by rw[IntKind.wrap_i64];omega
 have Y:Hid ((a:Int)+17=((18*k+17:Nat):Int)):=by unfold Hid;rw[<-y.out];omega
 have a5:=aao (bA (aY n s++[165])) 17 17 rfl (by rw[bX,aR,cJ];decide);have a6:=og (bA (aY n s++[165])) 17 17 rfl (by rw[bX,aR,cJ];decide);rw[aiO]at a5;rw[ai2]at a6;have Z:Hid ((bA (aY n s)).size<=1000):=by unfold Hid;rw[bX,cJ];decide
 rw[y.out]
 by_cases N:l=-2
 ·subst N
  have m:Hid (bf B (-2) k n s=⟨6,B,-2⟩):=by unfold Hid bf da cF;simp
  rw[m.out];clear h M
  go_enter func244,ntmps244
  go_wp2_with (go_at_call 197;refine(yZ A w0 _ j p q E over B k _ r.out t.out X Y.out).mono ?_;rintro e z ⟨rfl,I⟩;subst z)
  go_ret
  exact⟨rfl,r.out,Kept.refl _ _⟩
 ·have a0:18*k+17<B.data.toList.length:=by rw[<-bj];have:=h.s6;omega
  obtain⟨o,I⟩:∃o,B.data.toList[18*k+17]?=some o:=⟨_,cG a0⟩;have O:=hid N;have P:=hid I;have ix:=eV (bA [o]) 0 0 (by rw[bX];exact Nat.one_pos) rfl;have a1:((bA [o])[0]'(by rw[bX];exact Nat.one_pos)).toNat=o.toNat:=rfl;rw[a1]at ix;clear a1 h M N I a0;obtain⟨⟨C,c,d⟩,D⟩:∃Q,Hid (cF B l k=Q):=⟨_,rfl⟩;obtain⟨J,F⟩:=nmd (wC c (bA (aY n s)) d a);obtain⟨c3,R⟩:=nmd (wC (wB c (bA (aY n s)) d a) (bA [165]) (wL c (bA (aY n s)) d a) ((a:Int)+17));have K:∀b,C=b+1->Hid (bf B l k n s=⟨C,c,d⟩):=fun b e=>by
   unfold Hid bf da;rw[D.out];simp[e]
  have G:∀b,C=0->J=b+1->Hid (bf B l k n s=⟨J,wB c (bA (aY n s)) d a,wL c (bA (aY n s)) d a⟩):=fun b e u=>by
   unfold Hid bf da;rw[D.out,af e];unfold iW;rw[y.out,F.out,aa (by simp[u])]
  have H:C=0->J=0->Hid (bf B l k n s=⟨c3,wB (wB c (bA (aY n s)) d a) (bA [165]) (wL c (bA (aY n s)) d a) ((a:Int)+17),wL (wB c (bA (aY n s)) d a) (bA [165]) (wL c (bA (aY n s)) d a) ((a:Int)+17)⟩):=fun e u=>by
   unfold Hid bf da;rw[D.out,af e];unfold iW;rw[y.out,F.out,af u,show((a+17:Nat):Int)=(a:Int)+17 by omega,R.out]
  obtain⟨a9,HO⟩:=nmd (bf B l k n s);rw[HO.out];rw[HO.out]at K G H;have Z2:Hid ((bA [165]).size<=1000):=by unfold Hid;rw[bX];decide
  have Z0:Hid ((bA [0]).size<=1000):=by unfold Hid;rw[bX];decide
  go_enter func244,ntmps244
  go_upto_if 26 with(go_at_call 197;refine(aiI A w0 _ j p q E over B l k _ o r.out t.out X O.out Y.out P.out).mono ?_;rintro e z ⟨rfl,I⟩;subst z)
  go_cut []from 7 (fun z=>C=0∧JP w0 z j p q E over c d∧Kept (In2 p q) w z)
  case first =>
   by_cases S:o=0
   ·subst S
    have g:cF B l k=⟨0,B,l⟩:=by unfold cF;rw[aa O.out,af P.out]
    rw[D.out]at g;injection g with g u T
    subst g u T
    go_wp2_with fail
    go_meet
    exact⟨by first|trivial|rfl,r.out,Kept.refl _ _⟩
   ·have b0:¬o.toNat=0:=fun L=>S (UInt8.toNat_inj.1 L)
    have g:cF B l k=iW B (bA [0]) l (18*k+17):=by unfold cF;rw[aa O.out,aa (fun L=>S (by rw[P.out]at L;exact bF L))]
    rw[D.out]at g;unfold iW at g;rw[y.out]at g;injection g with g u T
    have E1:=hid g.symm;subst u T;clear g G H F R D;rcases C with _|b
    ·go_wp2_with (go_at_call 258;refine(ut A w0 _ j p q E over B (bA [0]) l _ r.out t.out Z0.out E1.out).mono ?_;rintro e U ⟨rfl,f,i⟩;have v:=hid i;clear i;have x:=hid f;clear f)
     go_meet
     exact⟨by first|trivial|rfl,x.out,v.out⟩
    ·have m:=K b rfl
     go_wp2_with (go_at_call 258;refine(tW A w0 _ j p q E over B (bA [0]) l _ r.out t.out Z0.out b E1.out).mono ?_;rintro e U ⟨rfl,f,i⟩;have v:=hid i;clear i;have x:=hid f;clear f)
     go_ret
     exact⟨by rw[m.out];rfl,by rw[m.out];exact x.out,v.out⟩
  case rest =>
   obtain⟨a2,V,a3⟩:=hcut;have HK:=hid a3;have HJ:=hid V;have a4:=hid a2;have b1:=V.jr.plate;clear a2 V a3 cj r;rcases J with _|b
   ·have m:=H a4.out rfl
    clear K G H
    go_wp2_with fail
    go_region_held3 (fun w'=>w'.cell? ⟨j,0,none⟩=some (.pointer (some ⟨p,0,none⟩))) (go_keep) (first|(go_at_call 258;(with_reducible refine(ut A w0 _ j p q E over c (bA (aY n s)) d a HJ.out.drew t.out Z.out F.out).mono ?_);rintro e U ⟨rfl,f,i⟩;have v:=hid i;clear i;have a7:=f.jr.plate;have x:=hid f;clear f))
    all_goals go_wp2_with fail
    go_region_held3 (fun w'=>w'.cell? ⟨j,0,none⟩=some (.pointer (some ⟨p,0,none⟩))) (go_keep) (first|(go_at_call 258;(with_reducible refine(pP A w0 _ j p q E over _ (bA [165]) _ _ x.out.drew t.out Z2.out c3 R.out).mono ?_);rintro e w3 ⟨rfl,W,k3⟩;have K3:=hid k3;clear k3;have b2:=W.jr.plate;have H3:=hid W;clear W))
    all_goals go_wp2_with fail
    go_ret
    exact⟨by rw[m.out];rfl,by rw[m.out];exact H3.out,(HK.out.drew.trans v.out).drew.trans K3.out⟩
   ·have m:=G b a4.out rfl
    clear K G H
    go_wp2_with fail
    go_region_held3 (fun w'=>w'.cell? ⟨j,0,none⟩=some (.pointer (some ⟨p,0,none⟩))) (go_keep) (first|(go_at_call 258;(with_reducible refine(tW A w0 _ j p q E over c (bA (aY n s)) d a HJ.out.drew t.out Z.out b F.out).mono ?_);rintro e U ⟨rfl,f,i⟩;have v:=hid i;clear i;have a7:=f.jr.plate;have x:=hid f;clear f))
    all_goals go_wp2_with fail
    go_ret
    exact⟨by rw[m.out];rfl,by rw[m.out];exact x.out,HK.out.drew.trans v.out⟩
end Go.Proofs.YtaehdgemkafinaaGreatDoor
namespace Go.Proofs.YtaehdgemkafinaaGreatDoor
open Go.Proofs.Tryz
theorem zU(B s:ByteArray)(l a:Int)(h:wC B s l a=0):wL B s l a≠-2:=by
 unfold wC at h;unfold wL
 split at h
 ·cases h
 ·rename_i b
  rw[aa b]
  split at h
  ·cases h
  ·rename_i c
   rw[aa c]
   split at h
   ·cases h
   ·rename_i d
    rw[aa d]
    split<;>omega
theorem zV(B s:ByteArray)(a:Nat)(h:a+s.size<=B.size):wC B s (-1) a=0∧wL B s (-1) a=-1:=by
 have b:¬ji B s a:=by unfold ji;omega
 unfold wC wL;have c:¬((-1:Int)=-2):=by decide
 have d:¬(0<=(-1:Int)∧(-1:Int)<s.size):=by omega
 rw[aa b,aa b,aa c,aa c,aa d,aa d,af (by decide)];exact⟨rfl,rfl⟩
section
variable {B:ByteArray} {l:Int} {k n:Nat} {s:St}
theorem acA(e:18*(k+1)<=B.size):((cF B l k).c=0∧qQ B.data.toList k (cF B l k).b.data.toList∧(cF B l k).l≠-2)∨((cF B l k).c=6∧ot B.data.toList k (cF B l k).b.data.toList∧(cF B l k).l=-2):=by
 unfold cF
 by_cases b:l=-2
 ·rw[af b]
  exact .inr ⟨rfl,⟨Only.refl _ _,.inl rfl⟩,b⟩
 ·rw[aa b]
  by_cases c:B.data.toList[18*k+17]?=some 0
  ·rw[af c]
   exact .inl ⟨rfl,acb c,b⟩
  ·rw[aa c]
   have d:=aa4 B (bA [0]) l (18*k+17) (by rw[bX];simp;omega) (by rw[bX];exact Nat.one_pos);rw[ep]at d;rcases af7 (by rw[<-bj];exact e) d with⟨a,f⟩|⟨a,g⟩
   ·exact .inl ⟨a,f,zU _ _ _ _ a⟩
   ·exact .inr ⟨a,g,uZ _ _ _ _ a⟩
theorem kh:(cF B l k).b.size=B.size:=by
 unfold cF
 repeat' split
 ·rfl
 ·rfl
 ·exact km _ _ _ _
theorem ke:(da B l k n s).b.size=B.size:=by
 unfold da
 split
 ·exact(km _ _ _ _).trans kh
 ·exact kh
theorem qI:(bf B l k n s).b.size=B.size:=by
 unfold bf
 split
 ·exact(km _ _ _ _).trans ke
 ·exact ke
theorem acO(c:18*(k+1)<=B.size):((da B l k n s).c=0∧Bodied B.data.toList k n s (da B l k n s).b.data.toList∧(da B l k n s).l≠-2)∨((da B l k n s).c=6∧ot B.data.toList k (da B l k n s).b.data.toList∧(da B l k n s).l=-2):=by
 have f:=kh (B:=B) (l:=l) (k:=k);unfold da;rcases acA (l:=l) c with⟨b,g,d⟩|⟨b,h,d⟩
 ·rw[af b]
  have e:=aa4 (cF B l k).b (bA (aY n s)) (cF B l k).l (18*k) (by rw[bX,cJ,f];omega) (by rw[bX,cJ];decide);rw[ep]at e;rcases afE (by rw[<-bj];exact c) g e with⟨a,i⟩|⟨a,j⟩
  ·exact .inl ⟨a,i,zU _ _ _ _ a⟩
  ·exact .inr ⟨a,j,uZ _ _ _ _ a⟩
 ·rw[aa (by omega)]
  exact .inr ⟨b,h,d⟩
theorem acS(c:18*(k+1)<=B.size):((bf B l k n s).c=0∧adz B.data.toList k n s (bf B l k n s).b.data.toList∧(bf B l k n s).l≠-2)∨((bf B l k n s).c=6∧ot B.data.toList k (bf B l k n s).b.data.toList∧(bf B l k n s).l=-2):=by
 have f:=ke (B:=B) (l:=l) (k:=k) (n:=n) (s:=s);unfold bf;rcases acO (l:=l) (n:=n) (s:=s) c with⟨b,g,d⟩|⟨b,h,d⟩
 ·rw[af b]
  have e:=aa4 (da B l k n s).b (bA [165]) (da B l k n s).l (18*k+17) (by rw[bX,f];simp;omega) (by rw[bX];exact Nat.one_pos);rw[ep]at e;rcases af6 (by rw[<-bj];exact c) g e with⟨a,i⟩|⟨a,j⟩
  ·exact .inl ⟨a,i,zU _ _ _ _ a⟩
  ·exact .inr ⟨a,j,uZ _ _ _ _ a⟩
 ·rw[aa (by omega)]
  exact .inr ⟨b,h,d⟩
theorem aah(e:18*(k+1)<=B.size):(bf B (-1) k n s).c=0∧(bf B (-1) k n s).l=-1:=by
 have a:(cF B (-1) k).c=0∧(cF B (-1) k).l=-1:=by
  unfold cF;rw[aa (by decide)]
  split
  ·exact⟨rfl,rfl⟩
  ·exact zV _ _ (18*k+17) (by rw[bX];simp;omega)
 have c:=kh (B:=B) (l:=-1) (k:=k);have b:(da B (-1) k n s).c=0∧(da B (-1) k n s).l=-1:=by
  unfold da;rw[af a.1,a.2];exact zV _ _ (18*k) (by rw[bX,cJ,c];omega)
 have d:=ke (B:=B) (l:=-1) (k:=k) (n:=n) (s:=s);unfold bf;rw[af b.1,b.2];exact zV _ _ (18*k+17) (by rw[bX,d];simp;omega)
end
end Go.Proofs.YtaehdgemkafinaaGreatDoor
namespace Go.Proofs.YtaehdgemkafinaaGreatDoor
open Go.RowKit
open Go.Proofs.Tryz
def dh:List Bs:=[[115,105,116,101,115],[98,101,103,105,110],[114,101,102,117,115,101],[116,105,99,107],[103,111],[108,111,115,101],[116,119,105,99,101],[108,105,110,107],[98,114,101,97,107],[99,117,116],[100,111,119,110],[117,112],[99,104,101,99,107],[97,108,108],[102,108,121],[115,116,97,116,101],[108,101,97,100],[105,115],[101,118,101,110,116,115]]
def dj:List Bs:=[[78],[83,68],[83,68],[83],[78],[78],[78],[83,83],[83,83],[83,78],[83],[83],[],[],[],[83,68],[83,68],[83],[]]
def dB(x:Bs):Option Nat:=dh.findIdx? (fun y=>y==x)
def ef(i:Nat):ByteArray:=⟨(dj.getD i []).toArray⟩
def fnO(i:Nat):Nat:=[36,38,40,42,44,46,48,50,52,53,55,57,59,63,66,68,70,72,74].getD i 0
def aiA(w:World)(pb bb i:Nat)(f:Value):Prop:=
 (i=0∧f=.func (.func 36) #[az pb] #[]) ∨
 (1<=i∧i<=12∧∃x y z,f=.func (.func 128) #[] #[az x,az y]∧bR w x (az pb)∧bR w y (fj 99 z)∧bR w z (fj (fnO i) bb)∧pb<x∧pb<y∧pb<z) ∨
 (13<=i∧∃x y,f=.func (.func 128) #[] #[az x,az y]∧bR w x (az pb)∧bR w y (fj (fnO i) bb)∧pb<x∧pb<y)
def EntO(w:World)(pb bb i:Nat)(v:Value):Prop:=∃f,v=.agg #[.string (ef i),.bool (i==0),f]∧aiA w pb bb i f
def aab(pb:Nat)(w w':World):Prop:=∀b v,pb<b->bR w b v->bR w' b v
theorem EntO.stay{w w':World}{pb bb i:Nat}{v:Value}(h:EntO w pb bb i v)(a:aab pb w w'):EntO w' pb bb i v:=by
 obtain⟨m,n,o⟩:=h;refine⟨m,n,?_⟩;rcases o with h|⟨d,p,e,f,q,g,j,k,r,b,c,l⟩|⟨d,e,f,g,j,k,b,c⟩
 ·exact .inl h
 ·exact .inr (.inl ⟨d,p,e,f,q,g,a _ _ b j,a _ _ c k,a _ _ l r,b,c,l⟩)
 ·exact .inr (.inr ⟨d,e,f,g,a _ _ b j,a _ _ c k,b,c⟩)
def elO(v:Value):Option (DataW Value×List MemPlace):=some (.held v,[])
theorem qE:Maps.Keyed prog 9:=Maps.string_keyed underlying9
theorem aga{w:World}{b:Nat}{v:Value}{d:Array MapEntry}{c:Nat}{a:Nat}(h:bR w b v)(e:w.heap[a]?=some (.map d c)):b≠a:=fun f=>by
 subst f;simp[bR,World.cell?,e]at h
theorem iO{P:Program}{c:Func}{p e:Tmp}{ty:TypeId}(h:c.results=#[.tmp e,.cell p ty])(a:Array Value)(w:World)(g:Nat)(t:TypeId)(b:Array Value)(fr:Nat×Nat)(d:TypeDesc)(f:a.getD p undef=.pointer (some ⟨g,0,none⟩))(i:w.heap[g]?=some (.cells b t fr))(j:P.underlying ty=some d)(k:(match d with|.struct _|.array _ _=>true|_=>false)=true)(l:(P.info? ty).map (·.size)=some b.size):(results c a).run P w=.ok (.tuple #[a.getD e undef,.agg b]) w:=by
 have m:a[p]?.getD undef=pV g:=by simpa using f
 simp[results,h,m,asAddr,run_loadVar_row w g t ty b fr d i j k l]
theorem oR:(prog.info? 80).map (·.size)=some 3:=by kernel_rfl
theorem tH{w:World}{g:Nat}{a b c:Value}{t:TypeId}(h:w.heap[g]?=some (.cells #[a,b,c] t (0,0)))(d e f:Value):(((w.setCell ⟨g,0,none⟩ d).setCell ⟨g,1,none⟩ e).setCell ⟨g,2,none⟩ f).heap[g]?=some (.cells #[d,e,f] t (0,0)):=by
 have i:=aE w g 0 _ _ d h;have j:=aE _ g 1 _ _ e i;exact aE _ g 2 _ _ f j
theorem xP(n h1 a b:Nat)(s:ByteArray)(w:World)(c:n<4294967296)(d:h1<256)(f:a<4294967296)(g:b<4294967296)(h:bA (aY n ⟨h1,a,b⟩)=s):Calls prog 185 #[.int .i64 (n:Int),.agg #[.int .i64 (h1:Int),.int .i64 (a:Int),.int .i64 (b:Int)]] w fun e w'=>e=.returned (.string s)∧Below w.heap.size w w':=by
 rw[<-h];exact adL n h1 a b w c d f g
theorem xu(w:World):Calls prog 143 #[.int .i64 165] w fun e w'=>e=.returned (.string (bA [165]))∧Below w.heap.size w w':=kT 165 w (by omega)
theorem abF(B:ByteArray)(k:Nat)(w:World)(hB:B.size<=1000)(hk:18*(k+1)<=B.size):Calls prog 152 #[.string B,.int .i64 (k:Int)] w fun e w'=>e=.returned (.tuple #[.int .i64 ((cy k (aN B.data.toList k)).1:Nat),.agg #[.int .i64 ((cy k (aN B.data.toList k)).2.ph:Nat),.int .i64 ((cy k (aN B.data.toList k)).2.pr:Nat),.int .i64 ((cy k (aN B.data.toList k)).2.at_:Nat)]])∧Below w.heap.size w w':=by
 obtain⟨i0,hi,b5,b6,b7⟩:=info_parts Tryz.infoI;have b8:=sj B (k*18) ((k+1)*18) ((k:Int)*18) (((k:Int)+1)*18) (by omega) (by omega) (by omega) (by omega);obtain⟨s,a5⟩:=nmd (B.extract (k*18) ((k+1)*18));rw[a5.out]at b8;obtain⟨b,W⟩:=nmd (aN B.data.toList k);have X:Hid (s.data.toList=b):=by
  unfold Hid;rw[<-a5.out,<-W.out,dE];unfold aN;rw[Nat.mul_comm k 18,show(k+1)*18-18*k=18 by omega]
 have c0:b.length=18:=by rw[<-W.out];exact eR (by rw[<-bj];exact hk)
 have f0:s.size=18:=by rw[bj,X.out];exact c0
 rw[W.out];obtain⟨⟨Y,Z,p2,p3⟩,HOut⟩:∃P,Hid (cy k b=P):=⟨_,rfl⟩;rw[HOut.out];obtain⟨a,HN⟩:=nmd (cT b);obtain⟨⟨h,i,j⟩,E⟩:∃P,Hid (eG b=P):=⟨_,rfl⟩;have c1:Hid ((if 1<=a∧a%2=k%2∧aY a ⟨h,i,j⟩++[165]=b then(a,(⟨h,i,j⟩:St))else(0,St.zero))=(Y,⟨Z,p2,p3⟩)):=by
  unfold Hid;rw[<-HOut.out];unfold cy;rw[HN.out,E.out]
 have F:a<4294967296:=by rw[<-HN.out];exact mC b
 have c2:Hid ((⟨h,i,j⟩:St).fits):=by rw[<-E.out];exact zK b
 obtain⟨X0,Q⟩:=nmd (w.alloc (.cells #[iV 0,iV 0,iV 0] 80));have f1:=Q.out;obtain⟨o,G⟩:=nmd (X0.alloc (.cells #[iV 4,iV 5,iV 9,iV 13] 3));have hX:=G.out;obtain⟨eb,R⟩:=nmd (X0.heap.size);have f2:=R.out;have c3:eb=w.heap.size+1:=by rw[<-R.out,<-Q.out];simp
 have RE:Hid (o.heap[eb]?=some (.cells #[iV 4,iV 5,iV 9,iV 13] 3 (0,0))):=by rw[<-G.out,<-R.out];exact aB X0 _
 have RR:Hid (o.heap[w.heap.size]?=some (.cells #[iV 0,iV 0,iV 0] 80 (0,0))):=by rw[<-G.out,Below.heap_alloc _ _ _ (by omega),<-Q.out];exact aB w _
 have c4:Hid (bW w o):=by rw[<-G.out,<-Q.out];exact(aD).alloc (by simp) _
 have f3:o.heap.size=eb+1:=by rw[<-G.out];simp[R.out]
 subst c3
 go_enter func152,ntmps152
 go_wp2_with fail
 go_loopw [7,9,10] (fun c5 H m wr=>∃c:Nat,c<=4∧m=iV (c:Int)∧H=iV (gB c:Nat)∧wr.ownsRow (w.heap.size+1+1) 3 1 c5 c (lU b c)∧Below (w.heap.size+1+1) o wr) (fun _ _ m _=>4-(intOf m).toNat)
 case atStart=>exact⟨0,by omega,rfl,rfl,World.ownsRow_nil _ _ _ _,aF⟩
 case round =>
  obtain⟨c,hm,rfl,rfl,t,S⟩:=hrel;have T:=hid t;have HB:=hid S;have c6:=hid ((S.block (w.heap.size+1) (by omega)).trans RE.out);have c7:w.heap.size+1+1<=wr.heap.size:=by have:=S.size;omega
  clear t S
  by_cases a6:c<4
  ·have c8:=adW c6.out a6
   obtain⟨a0,c9⟩:=aek c;have h4:=ahi c a6;have HV:Hid (jZ b c=eg ((b.drop (gB c)).take (gB (c+1)-gB c))):=rfl;obtain⟨y,Hz⟩:=nmd (gB (c+1));rw[Hz.out]at c8 a0 c9 h4 HV;obtain⟨f,Hy⟩:=nmd (gB c);rw[Hy.out]at a0 h4 HV ⊢
   go_wp2_with fail
   go_loop [9,11] (fun H a=>∃d:Nat,f<=d∧d<=y∧H=iV (d:Int)∧a=iV (eg ((b.drop f).take (d-f)):Nat)) (fun H _=>y-(intOf H).toNat)
   case atStart=>exact⟨f,aj,a0,rfl,by rw[Nat.sub_self];rfl⟩
   case round =>
    obtain⟨d,f4,f5,rfl,rfl⟩:=hrel;have F:=aif b f (d-f) (by omega)
    by_cases f6:d<y
    ·have I:d<s.size:=by omega
     have ix:=eV s d (d:Int) I rfl;have d0:=UInt8.toNat_lt (s[d]'I);have a1:Hid (eg ((b.drop f).take (d+1-f))=256*eg ((b.drop f).take (d-f))+(s[d]'I).toNat):=by
      unfold Hid;have e:=adn b f (d-f) (by omega);rw[show d-f+1=d+1-f by omega]at e;rw[e,jC I]
      congr 2
      simp only[X.out,show f+(d-f)=d by omega]
     generalize (s[d]'I).toNat=P at ix d0 a1;generalize eg ((b.drop f).take (d-f))=a at F a1 ⊢
     go_wp2_with fail
     go_round
     case rel=>exact⟨d+1,by omega,by omega,by go_num,eF (by rw[a1.out];omega)⟩
     case measure=>simp[intOf];omega
    ·obtain rfl:d=y:=by omega
     rw[<-HV.out]at F ⊢;have a7:=hid (wa b c);generalize jZ b c=va at F a7 ⊢
     go_wp2_with (at_builtin;refine wpList_append_own _ rfl (.tmp 40) (.tmp 42) 34 rfl (w.heap.size+1+1) 3 i0 (iV 0) 1 8 underlying34 hi b5 b6 b7 rfl (by decide) _ c (lU b c) rfl (by exact World.ownsRow.alloc T.out _) ⟨wr.heap.size,0,none⟩ 1 1 [iV (va:Int)] rfl rfl (fM _ _ _) ?c2 ?c3 ?c4 ?c5 ?_)
     case c2=>first|rfl|(intro f7 hu;simp at hu;subst hu;rfl)
     case c3=>unfold maxLen;omega
     case c4=>omega
     case c5=>first|omega|(simp;omega)
     intro v' w1 t hg _;have d1:Hid (w1.ownsRow (w.heap.size+1+1) 3 1 v' (c+1) (lU b (c+1))):=by unfold Hid;rw[a7.out];exact t
     have d2:=hid (oq HB.out c7 (aD) T.out hg);clear t hg
     go_wp2_with fail
     go_roundw
     case rel=>exact⟨c+1,by omega,by go_num,eF (by rw[Hz.out]),d1.out,d2.out⟩
     case measure=>simp[intOf];omega
  ·obtain rfl:c=4:=by omega
   have t:=T.out;rcases t.2 with⟨_,h0⟩|⟨p,cap,f8,rfl,hg,hh,f9,g0,g2,d3⟩
   ·omega
   have U:Hid (∀m (v:m<4),wr.cell? ⟨p,m,none⟩=some (iV (jZ b m:Nat))):=fun m v=>by
    have:=T.cellAt m (by omega);rw[this];rcases uX v with rfl|rfl|rfl|rfl<;>rfl
   have q0:=U.out 0 (by omega);have q1:=U.out 1 (by omega);have q2:=U.out 2 (by omega);have q3:=U.out 3 (by omega);obtain⟨e0,e1,e2,e3⟩:=ad5 b;rw[e0,HN.out]at q0;rw[e1,E.out]at q1;rw[e2,E.out]at q2;rw[e3,E.out]at q3;clear e0 e1 e2 e3;have d4:=hid ((HB.block w.heap.size (by omega)).trans RR.out);have a8:=hid (c4.trans (HB.mono (by omega)));have d5:=ah hh;have RG:=hid hh;clear t hh d3
   go_wp2_with fail
   go_region
   all_goals go_wp2_with fail
   obtain⟨g,a2⟩:=nmd (wr.heap.size);obtain⟨l,J⟩:=nmd ((wr.alloc (.cells #[iV (h:Int),iV (i:Int),iV (j:Int)] 80)).drew);have z:Hid (l.heap[g]?=some (.cells #[iV (h:Int),iV (i:Int),iV (j:Int)] 80 (0,0))):=by rw[<-J.out,<-a2.out];exact aB wr _
   have RZ:Hid (l.heap[w.heap.size]?=some (.cells #[iV 0,iV 0,iV 0] 80 (0,0))):=by rw[<-J.out];exact(Below.heap_alloc wr _ _ (by omega)).trans d4.out
   have K:=fun m=>(show l.cell? ⟨p,m,none⟩=wr.cell? ⟨p,m,none⟩ by rw[<-J.out];exact World.cell?_of_block (w:=wr) (Below.heap_alloc wr _ p d5))
   have z0:=(K 0).trans q0;have z1:=(K 1).trans q1;have z2:=(K 2).trans q2;have z3:=(K 3).trans q3;have a9:Hid (bW w l):=by rw[<-J.out];exact(a8.alloc a8.size _).drew
   have g3:wr.heap.size<l.heap.size:=by rw[a2.out];exact ah z.out
   rw[a2.out,J.out];clear q0 q1 q2 q3 K;obtain⟨L,M⟩:∃d6:Bool,Hid (decide (1<=a∧a%2=k%2∧aY a ⟨h,i,j⟩++[165]=b)=d6):=⟨_,hid (Eq.refl _)⟩;have d7:l.cell? ⟨g,0,none⟩=some (iV (h:Int)):=by rw[ai z.out];rfl
   have d8:l.cell? ⟨g,1,none⟩=some (iV (i:Int)):=by rw[ai z.out];rfl
   have d9:l.cell? ⟨g,2,none⟩=some (iV (j:Int)):=by rw[ai z.out];rfl
   have N:Hid (∀n,bW l n->n.heap[w.heap.size]?=some (.cells #[iV 0,iV 0,iV 0] 80 (0,0))∧n.heap[g]?=some (.cells #[iV (h:Int),iV (i:Int),iV (j:Int)] 80 (0,0))∧n.cell? ⟨p,0,none⟩=some (iV (a:Int))∧bW w n):=fun n q =>
    ⟨(q.block _ (ah RZ.out)).trans RZ.out,(q.block _ (ah z.out)).trans z.out,(q.cell (p:=⟨p,0,none⟩) (by show p<_;omega)).trans z0,a9.trans (q.mono a9.size)⟩
   have A:(a:Int).tmod 2=((a%2:Nat):Int):=by rw[Int.tmod_eq_emod_of_nonneg (by omega)];omega
   have C:(k:Int).tmod 2=((k%2:Nat):Int):=by rw[Int.tmod_eq_emod_of_nonneg (by omega)];omega
   go_cut [77]from 13 (fun e4 n=>e4=.bool (!L)∧n.heap[w.heap.size]?=some (.cells #[iV 0,iV 0,iV 0] 80 (0,0))∧n.heap[g]?=some (.cells #[iV (h:Int),iV (i:Int),iV (j:Int)] 80 (0,0))∧n.cell? ⟨p,0,none⟩=some (iV (a:Int))∧bW w n)
   case first =>
    by_cases g4:a<1
    ·obtain rfl:a=0:=by omega
     have HF:Hid (L=false):=by rw[<-M.out];exact aS (fun v=>by omega)
     have KZ:=hid (fun nq=>N.out (l.drewN nq) (aJ aF nq));clear A C
     go_quiet (fail)
     all_goals go_step
     all_goals go_step
     all_goals go_meet
     all_goals exact⟨by rw[HF.out];rfl,KZ.out _⟩
    ·have y0:decide ((a:Int)<1)=false:=aS (by omega)
     by_cases g1:a%2=k%2
     ·have y1:((a:Int).tmod 2 != (k:Int).tmod 2)=false:=by rw[A,C,g1];simp
      have y2:((a:Int)%2 != (k:Int)%2)=false:=by simp;omega
      obtain⟨bs,a3⟩:=nmd (bA (aY a ⟨h,i,j⟩));have g5:bs.size=17:=by rw[<-a3.out,bX,cJ]
      have g6:(bA [165]).size=1:=bX _;obtain⟨b1,b2,b3⟩:=c2.out;have B1:=hid b1;have B2:=hid b2;have B3:=hid b3;have e6:(!((bs++bA [165]).toList==s.toList))=!L:=by
       rw[<-M.out,<-a3.out,fX,ByteArray.toList_eq,ByteArray.toList_eq,ep,X.out]
       by_cases q:aY a ⟨h,i,j⟩++[165]=b
       ·rw[bo ⟨by omega,g1,q⟩,q];simp
       ·rw[aS (fun v=>q v.2.2),beq_eq_false_iff_ne.2 q]
      have g7:Hid (bW l l.drew):=aF.drew;clear b1 b2 b3 A C
      go_region_held3 (fun w'=>w'.cell? ⟨p,0,none⟩=some (iV (a:Int))∧w'.cell? ⟨g,0,none⟩=some (iV (h:Int))∧w'.cell? ⟨g,1,none⟩=some (iV (i:Int))∧w'.cell? ⟨g,2,none⟩=some (iV (j:Int))) (go_keep) (first|(go_at_call 185;(with_reducible refine(xP a h i j bs _ F B1.out B2.out B3.out a3.out).mono ?_);rintro e x ⟨rfl,O⟩;have a4:=gC (by assumption) O;obtain⟨x0,r,x2,-⟩:=N.out _ a4.out;have e7:x.cell? ⟨g,0,none⟩=some (iV (h:Int)):=(ai r).trans rfl;have e8:x.cell? ⟨g,1,none⟩=some (iV (i:Int)):=(ai r).trans rfl;have e9:x.cell? ⟨g,2,none⟩=some (iV (j:Int)):=(ai r).trans rfl;clear O x0 r)|(go_at_call 143;(with_reducible refine(xu _).mono ?_);rintro e x ⟨rfl,O⟩;have a4:=gC (by assumption) O;obtain⟨x0,r,x2,-⟩:=N.out _ a4.out;have e7:x.cell? ⟨g,0,none⟩=some (iV (h:Int)):=(ai r).trans rfl;have e8:x.cell? ⟨g,1,none⟩=some (iV (i:Int)):=(ai r).trans rfl;have e9:x.cell? ⟨g,2,none⟩=some (iV (j:Int)):=(ai r).trans rfl;clear O x0 r))
      all_goals go_step
      all_goals go_step
      all_goals go_meet
      all_goals exact⟨by first|rfl|exact congrArg Value.bool e6,N.out _ (Hid.out (by assumption))⟩
     ·have y1:((a:Int).tmod 2 != (k:Int).tmod 2)=true:=by rw[A,C];simp;omega
      have y2:((a:Int)%2 != (k:Int)%2)=true:=by simp;omega
      have HF:Hid (L=false):=by rw[<-M.out];exact aS (fun v=>g1 v.2.1)
      have KZ:=hid (fun nq=>N.out (l.drewN nq) (aJ aF nq));clear A C
      go_quiet (fail)
      all_goals go_step
      all_goals go_step
      all_goals go_meet
      all_goals exact⟨by rw[HF.out];rfl,KZ.out _⟩
   case rest =>
    obtain⟨rfl,u,V,rg,rb⟩:=hcut;have b0:=hid u;have b4:=hid rb;have v0:wc.cell? ⟨w.heap.size,0,none⟩=some (iV 0):=by rw[ai u];rfl
    have v1:wc.cell? ⟨w.heap.size,1,none⟩=some (iV 0):=by rw[ai u];rfl
    have v2:wc.cell? ⟨w.heap.size,2,none⟩=some (iV 0):=by rw[ai u];rfl
    have g8:=aK wc w.heap.size 0 _ _ u;have g9:=aK wc w.heap.size 1 _ _ u;have h1:=aK wc w.heap.size 2 _ _ u;have s0:wc.cell? ⟨g,0,none⟩=some (iV (h:Int)):=by rw[ai V];rfl
    have s1:wc.cell? ⟨g,1,none⟩=some (iV (i:Int)):=by rw[ai V];rfl
    have s2:wc.cell? ⟨g,2,none⟩=some (iV (j:Int)):=by rw[ai V];rfl
    have D:=c1.out;clear u V rb A C z0 z1 z2 z3 d7 d8 d9
    cases L with
    | true =>
     rw[af (cK M.out)]at D;obtain⟨rfl,rfl,rfl,rfl⟩:a=Y∧h=Z∧i=p2∧j=p3:=by simpa using D
     clear D
     go_wp2_with fail
     go_region
     all_goals go_wp2_with fail
     refine bh (iO rfl _ _ w.heap.size 80 _ (0,0) _ rfl (tH b0.out _ _ _) underlying80 rfl oR) rfl ?_;exact⟨rfl,(((b4.out.setCell aj _).setCell aj _).setCell aj _).drew⟩
    | false =>
     rw[aa (of_decide_eq_false M.out)]at D;obtain⟨rfl,rfl,rfl,rfl⟩:0=Y∧0=Z∧0=p2∧0=p3:=by simpa [St.zero]using D
     clear D
     go_wp2_with fail
     refine bh (iO rfl _ _ w.heap.size 80 _ (0,0) _ rfl (tH b0.out _ _ _) underlying80 rfl oR) rfl ?_;exact⟨rfl,((b4.out.setCell aj _).setCell aj _).setCell aj _⟩
end Go.Proofs.YtaehdgemkafinaaGreatDoor
