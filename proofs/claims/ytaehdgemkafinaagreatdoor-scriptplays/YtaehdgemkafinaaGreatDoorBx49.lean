/-
  On the way to SPlaysProof: O36.
-/
import Derived.Test.YtaehdgemkafinaaGreatDoorBx48
import Derived.Test.YtaehdgemkafinaaGreatDoorBx39
set_option maxHeartbeats 8000000
set_option maxRecDepth 100000
namespace Go.Proofs.YtaehdgemkafinaaGreatDoor
open Go.RowKit
open Go.Proofs.Tryz
def RaI(w0 w wr:World)(C:Nat->Nat)(Y:YB)(aw:Option Addr)(cap:Nat)(zs:List Int)(V:PX)(m j:Nat):Prop:=
 ∃C1 Y1 U,RW w0 wr C1 Y1 aw cap zs U (m+3*j)∧eY Y1=eY Y∧Kept (di C) w wr∧(∀x,x<w.heap.size->C1 x=C x)∧dc zs (3000-j) U=dc zs 3000 V∧ej zs (3000-j) U+j=ej zs 3000 V
theorem aiT{n:Nat}(h:n<4):stP n=stB n:=by
 have:n=0∨n=1∨n=2∨n=3:=by omega
 rcases this with rfl|rfl|rfl|rfl<;>rfl
theorem mZ{w:World}{b c j:Nat}{d x y:Value}(h:w.cell? ⟨b,j,none⟩=some d)(e:b≠c):((w.setCell ⟨c,0,none⟩ x).setCell ⟨c,1,none⟩ y).cell? ⟨b,j,none⟩=some d:=by
 rw[World.cell?_setCell_far _ _ _ _ (fun a=>e a.symm),World.cell?_setCell_far _ _ _ _ (fun a=>e a.symm)];exact h
theorem nI{w:World}{b c j:Nat}{a x y e:Value}(h:w.cell? ⟨b,j,none⟩=some a)(d:b≠c):(((w.setCell ⟨c,0,none⟩ x).setCell ⟨c,1,none⟩ y).setCell ⟨c,2,none⟩ e).cell? ⟨b,j,none⟩=some a:=by
 rw[World.cell?_setCell_far _ _ _ _ (fun f=>d f.symm)];exact mZ h d
theorem abv{w:World}{b:Nat}{x y c:Value}{t:TypeId}(h:w.heap[b]?=some (.cells #[x,y,c] t (0,0)))(a v r:Value):(((w.setCell ⟨b,0,none⟩ a).setCell ⟨b,1,none⟩ v).setCell ⟨b,2,none⟩ r).heap[b]?=some (.cells #[a,v,r] t (0,0)):=by
 have d:=aE w b 0 _ _ a h;have e:=aE _ b 1 _ _ v d;rw[aE _ b 2 _ _ r e];rfl
section
variable {w0 w:World} {wd:ByteArray} {v:Value} {C:Nat→Nat} {Y:YB} {aw:Option Addr} {cap m g o cap1:Nat} {zs:List Int} {V:PX}
theorem ads(h:fD wd 13)(F:RW w0 w C Y aw cap zs V m)(hm:m+9000<1000000):Calls prog 16 #[.pointer (some ⟨Y.xb,0,none⟩),.agg #[.string wd,v]] w fun e w'=>e=.returned (.string (bB (Lib.decDigits (ej zs 3000 V))))∧ROut w0 w w' C Y aw cap zs (dc zs 3000 V) (m+9000):=by
 obtain⟨k0,k1,k2,k3,k4,k5,k6,k7,k8,k9,a2,a3,a4,a5,a6,a7,a8,a9,b0⟩:=gm h;obtain⟨M,hW,⟨d0,d1⟩,G⟩:=bxO w wd v;have x:=F.later G;have b1:=hid x;have H:=G.out;have N:Hid (RaI w0 w M C Y aw cap zs V m 0):=⟨C,Y,V,x,rfl,Kept.of_below H,fun _ _=>rfl,rfl,rfl⟩;clear F h H x
 go_enter func16,ntmps16
 go_wp2_with fail
 go_loopw [5] (fun y wr=>∃a:Nat,a<=3000∧y=iV (a:Int)∧Hid (RaI w0 w wr C Y aw cap zs V m a)) (fun y _=>3000-(intOf y).toNat)
 case atStart=>exact⟨0,Nat.zero_le _,rfl,N⟩
 case round =>
  obtain⟨a,hj,rfl,O⟩:=hrel;obtain⟨z,A,b,j,f,p,q,c,i⟩:=O.out
  by_cases b2:a<3000
  ·have b3:(a:Int)<3000:=by omega
   obtain⟨k,I⟩:∃k,3000-a=k+1:=⟨3000-a-1,by omega⟩;rw[I]at c i
   cases d:b.fly with
   | nil =>
    have s:=hid (oX (0:Int) j (by rw[d];simp) (by omega));rw[fH f]at s;rw[py d,Nat.zero_add]at i;rw[xG d]at c;have l:Hid (ej zs 3000 V=a∧ROut w0 w wr C Y aw cap zs (dc zs 3000 V) (m+9000)):=by
     rw[<-c,<-i];exact⟨rfl,z,A,j.mono (by omega),f,p,q⟩
    clear j f p q c i d
    go_wp2_with fail
    refine s.mono ?_;rintro e n ⟨rfl,J⟩;have P:=hid (l.2.later J);have B:=hid (gl a n (by omega));clear J
    go_wp2_with fail
    refine B.mono ?_;rintro e Q ⟨rfl,t⟩;have D:=hid (P.later t);clear t
    go_wp2_with fail
    go_ret
    exact⟨by rw[l.out.1];rfl,D⟩
   | cons r rest =>
    have E:0<b.fly.length:=by rw[d];simp
    have K:b.fly[0]'E=r:=by simp[d]
    have s:=hid (pn 0 r j E K (by omega));rw[fH f,show((0:Nat):Int)=0 from rfl]at s;rw[nV d]at i;have L:dc zs (k+1) b=dc zs k (aX zs b 0 r):=by
     show(match b.fly with|[]=>b|r::_=>dc zs k (aX zs b 0 r))=_
     rw[d]
    rw[L]at c;have R:Hid (∀n,ROut w0 wr n z A aw cap zs (aX zs b 0 r) (m+3*a+3)->RaI w0 w n C Y aw cap zs V m (a+1)):=by
     intro n u;obtain⟨S,T,U,W,X,Z⟩:=ROut.step f p q u;exact⟨S,T,_,by rw[show m+3*(a+1)=m+3*a+3 by omega];exact U,W,X,Z,by rw[show 3000-(a+1)=k by omega];exact c,by rw[show 3000-(a+1)=k by omega];omega⟩
    clear j f p q c i d K E L I
    go_wp2_with fail
    refine s.mono ?_;rintro e n ⟨rfl,u⟩;have l:=hid (R n u);clear u
    go_wp2_with fail
    go_roundw
    case rel=>exact⟨a+1,by omega,by go_num,l⟩
    case measure=>simp[intOf];omega
  ·obtain rfl:a=3000:=by omega
   have l:Hid (ej zs 3000 V=3000∧ROut w0 w wr C Y aw cap zs (dc zs 3000 V) (m+9000)):=by
    have a0:b=dc zs 3000 V:=c;have a1:0+3000=ej zs 3000 V:=i;rw[<-a0,<-a1];exact⟨rfl,z,A,j,f,p,q⟩
   have B:=hid (gl 3000 wr (by omega));clear j f p q c i
   go_wp2_with fail
   refine B.mono ?_;rintro e Q ⟨rfl,t⟩;have D:=hid (l.2.later t);clear t
   go_wp2_with fail
   go_ret
   exact⟨by rw[l.out.1];rfl,D⟩
theorem ad1(h:fD wd 14)(f:RW w0 w C Y aw cap zs V m)(s:m<=100000000):Calls prog 16 #[.pointer (some ⟨Y.xb,0,none⟩),.agg #[.string wd,v]] w fun e w'=>e=.returned (.string (bB (Lib.decDigits V.fly.length)))∧Below w.heap.size w w':=by
 obtain⟨t,u,x,y,z,A,B,D,E,F,G,H,I,J,K,L,M,N,O⟩:=gm h;obtain⟨j,P,⟨Q,R⟩,b⟩:=bxO w wd v;have a:=f.later b;have S:=hid a;have k:=b.out;obtain⟨-,-,-,l,-⟩:=a.cells;obtain⟨T,U,c⟩:=a.flyForm;have n:=a.inv.fl;obtain⟨d,p⟩:=nmd (V.fly.length);rw[p.out]at c n ⊢;rw[c]at l;have q:=hid (gl d j (by omega));clear f h k a c
 go_enter func16,ntmps16
 go_wp2_with fail
 refine q.mono ?_;rintro e W ⟨rfl,i⟩;have r:=hid (ao b i);clear i
 go_wp2_with fail
 go_ret
 exact⟨rfl,r⟩
theorem ae0(h:fD wd 12)(J:RW w0 w C Y aw cap zs V m)(K:AX zs V):Calls prog 16 #[.pointer (some ⟨Y.xb,0,none⟩),.agg #[.string wd,v]] w fun e w'=>e=.returned (.string (bB [111,107]))∧Below w.heap.size w w':=by
 obtain⟨k0,k1,k2,k3,k4,k5,k6,k7,k8,k9,a1,a2,a3,a4,a5,a6,a7,a8,a9⟩:=gm h;obtain⟨a,hW,⟨d0,d1⟩,s⟩:=bxO w wd v;have k:=J.later s.out;have b0:=hid k;have O:=s.out;obtain⟨-,x,-,-,t⟩:=k.cells;obtain⟨y,z,A,-,-,L⟩:=ra k.evs;have P:=k.inv.ev;have Q:=k.n7;have n:Hid (∀f,Below a.heap.size a f->Calls prog 32 #[.slice y V.evs.length z,.int .i64 (zs.length:Int)] f fun e w'=>e=.returned (mL 0 (-1))∧Below f.heap.size f w'):=fun f R=>agp y z V.evs zs.length 0 V.evs.length 0 (-1) f (by omega) (by omega) (L.later R) (by omega) (sy K) rfl rfl
 obtain⟨B,S⟩:=nmd (V.evs.length);obtain⟨D,T⟩:=nmd (zs.length);rw[S.out]at A n;rw[T.out]at x n;rw[A]at t;unfold mL at n;obtain⟨i,E⟩:=nmd (a.alloc (.cells #[.int .i64 0,.int .i64 0] 74));have b1:=E.out;have p:Hid (Below a.heap.size a i):=by rw[<-E.out];exact aD
 have M:Hid (i.heap[a.heap.size]?=some (.cells #[.int .i64 0,.int .i64 0] 74 (0,0))):=by rw[<-E.out];exact aB a _
 have U:=ag p.out t;have W:=ag p.out x;have X:=hid (n.out i.drew p.out.drew);have N:Y.xb≠a.heap.size:=fun e=>by have h1:Y.xb<a.heap.size:=bY t;omega
 have Z:=hid (n.out a.drew aF.drew);clear J h O k A L K P Q
 go_enter func16,ntmps16
 go_wp2_with fail
 go_region_held3 (fun f=>f.cell? ⟨Y.xb,4,none⟩=some (.slice y B z)∧f.cell? ⟨Y.xb,1,none⟩=some (.slice (some ⟨Y.nb,0,none⟩) D Y.nc)) (first|exact u|exact⟨mZ u.1 N,mZ u.2 N⟩|go_keep) (first
  | (go_at_call 32;(with_reducible refine X.out.mono ?_);rintro e c ⟨rfl,d⟩;have F:=hid d;have u:=And.intro (ag d U) (ag d W);have l:=(d.block _ (ah M.out)).trans M.out;have f0:=aG _ _ 0 _ _ _ l;have f1:=aG _ _ 1 _ _ _ l;have q0:=aK _ _ 0 _ _ l;have q1:=aK _ _ 1 _ _ l;have a0:=hid l;clear d l)
  | (go_at_call 32;(with_reducible refine Z.out.mono ?_);rintro e c ⟨rfl,d⟩;have F:=hid d;have u:=And.intro (ag d t) (ag d x);clear d))
 ·obtain⟨b,j⟩:=nmd (c.alloc (.cells #[.int .i64 0,.int .i64 (-1)] 74))
  have q:b.heap[c.heap.size]?=some (.cells #[.int .i64 0,.int .i64 (-1)] 74 (0,0)):=by rw[<-j.out];exact aB c _
  have G:Hid (Below c.heap.size c b):=by rw[<-j.out];exact aD
  have g0:b.cell? ⟨c.heap.size,0,none⟩=some (.int .i64 0):=by rw[ai q];rfl
  have H:=hid (kC 0 (by decide) b);rw[j.out];clear q
  go_wp2_with fail
  refine H.out.mono ?_;rintro e w4 ⟨rfl,r⟩;have I:=hid (ao s.out (ao (show Below a.heap.size a c from((Below.refl _ a).drew).trans F.out) (ao G.out r)));clear r
  go_wp2_with fail
  go_ret
  exact⟨rfl,I.out⟩
 ·obtain⟨b,j⟩:=nmd ((c.setCell ⟨a.heap.size,0,none⟩ (.int .i64 0)).setCell ⟨a.heap.size,1,none⟩ (.int .i64 (-1)))
  have q:b.heap[a.heap.size]?=some (.cells #[.int .i64 0,.int .i64 (-1)] 74 (0,0)):=by rw[<-j.out];exact mu a0.out _ _
  have G:Hid (Below a.heap.size a b):=by
   rw[<-j.out];exact Below.setCell (Below.setCell (p.out.trans ((show Below i.heap.size i c from((Below.refl _ i).drew).trans F.out).mono p.out.size)) aj _) aj _
  have g0:b.cell? ⟨a.heap.size,0,none⟩=some (.int .i64 0):=by rw[ai q];rfl
  have H:=hid (kC 0 (by decide) b);rw[j.out];clear q
  go_wp2_with fail
  refine H.out.mono ?_;rintro e w4 ⟨rfl,r⟩;have I:=hid (ao s.out (ao G.out r));clear r
  go_wp2_with fail
  go_ret
  exact⟨rfl,I.out⟩
theorem adj{a:Int}{i b:Nat}(q:(i=17∧b=1)∨(i=16∧b=2)∨(i=15∧b=2))(h:fD wd i)(k:RW w0 w C Y aw cap zs V m)(h0:w.cell? ⟨g,o,none⟩=some (.int .i64 a))(l:¬a<zs.length):Calls prog 16 #[.pointer (some ⟨Y.xb,0,none⟩),.agg #[.string wd,.slice (some ⟨g,o,none⟩) b cap1]] w fun e w'=>e=.returned (.string (bB (fC 2)))∧Below w.heap.size w w':=by
 obtain⟨x,y,⟨z,A⟩,d⟩:=bxO w wd (.slice (some ⟨g,o,none⟩) b cap1);have f:=k.later d;have B:=hid f;have n:=d.out;have D:=ag n h0;obtain⟨-,r,-,-,-⟩:=f.cells;obtain⟨j,s⟩:=nmd (zs.length);rw[s.out]at r l;have E:(j:Int)<=a:=by omega
 have t:Hid (∀c,Calls prog 10 #[iV 2] c fun e w'=>e=.returned (.string (bB (fC 2)))∧bW c w'):=fun c=>lh 1 (by decide) c
 clear k h0 n f l;rcases q with⟨rfl,rfl⟩|⟨rfl,rfl⟩|⟨rfl,rfl⟩<;>as_aux_lemma =>
  obtain⟨F,G,H,I,J,K,L,M,N,O,P,Q,R,S,T,U,W,X,Z⟩:=gm h;clear h
  go_enter func16,ntmps16
  go_wp2_with fail
  go_quiet (fail)
  go_wp2_with fail
  refine(t _).mono ?_;rintro e w2 ⟨rfl,p⟩;have u:=hid (ao d (ao (aJ aF _) p));clear p
  go_wp2_with fail
  go_ret
  exact⟨rfl,u⟩
theorem afs{s i:Nat}{b:Int}(p:i=16∨i=15)(h:fD wd i)(k:RW w0 w C Y aw cap zs V m)(h0:w.cell? ⟨g,o,none⟩=some (.int .i64 (s:Int)))(h1:w.cell? ⟨g,o+1,none⟩=some (.int .i64 b))(l:s<zs.length)(q:¬b<6):Calls prog 16 #[.pointer (some ⟨Y.xb,0,none⟩),.agg #[.string wd,.slice (some ⟨g,o,none⟩) 2 cap1]] w fun e w'=>e=.returned (.string (bB (fC 2)))∧Below w.heap.size w w':=by
 obtain⟨y,z,⟨A,B⟩,c⟩:=bxO w wd (.slice (some ⟨g,o,none⟩) 2 cap1);have d:=k.later c;have D:=hid d;have f:=c.out;have E:=ag f h0;have F:=ag f h1;obtain⟨-,r,-,-,-⟩:=d.cells;obtain⟨j,t⟩:=nmd (zs.length);rw[t.out]at r l;have G:¬(j:Int)<=(s:Int):=by omega
 have H:(6:Int)<=b:=by omega
 have u:Hid (∀a,Calls prog 10 #[iV 2] a fun e w'=>e=.returned (.string (bB (fC 2)))∧bW a w'):=fun a=>lh 1 (by decide) a
 clear k h0 h1 f d l q;rcases p with rfl|rfl<;>as_aux_lemma =>
  obtain⟨I,J,K,L,M,N,O,P,Q,R,S,T,U,W,X,Z,a0,a1,a2⟩:=gm h;clear h
  go_enter func16,ntmps16
  go_wp2_with fail
  go_quiet (fail)
  go_wp2_with fail
  refine(u _).mono ?_;rintro e w2 ⟨rfl,n⟩;have x:=hid (ao c (ao (aJ aF _) n));clear n
  go_wp2_with fail
  go_ret
  exact⟨rfl,x⟩
theorem agL{s:Nat}(h:fD wd 17)(i:RW w0 w C Y aw cap zs V m)(h0:w.cell? ⟨g,o,none⟩=some (.int .i64 (s:Int)))(b:s<zs.length):Calls prog 16 #[.pointer (some ⟨Y.xb,0,none⟩),.agg #[.string wd,.slice (some ⟨g,o,none⟩) 1 cap1]] w fun e w'=>e=.returned (.string (bB (if upN (V.nd s)=true then[117,112]else[100,111,119,110])))∧Below w.heap.size w w':=by
 obtain⟨q,r,t,u,x,y,z,A,B,D,E,F,G,H,I,J,K,L,M⟩:=gm h;obtain⟨l,N,⟨O,P⟩,c⟩:=bxO w wd (.slice (some ⟨g,o,none⟩) 1 cap1);have a:=i.later c;have Q:=hid a;have j:=c.out;have R:=ag j h0;obtain⟨-,n,-,-,-⟩:=a.cells;have S:=a.ns s b;have f:l.cell? ⟨(Y.K s).nd,0,none⟩=some (rsV (Y.K s) (V.nd s)):=by rw[ai (a.nds s b).row];rfl
 obtain⟨d,p⟩:=nmd (zs.length);rw[p.out]at n b;have T:¬(d:Int)<=(s:Int):=by omega
 have U:(s:Int)<(d:Int):=by omega
 unfold rsV at f;clear i h h0 j a b
 cases k:upN (V.nd s)with
 | true =>
  rw[k,af rfl]at f;rw[af rfl]
  go_enter func16,ntmps16
  go_wp2_with fail
  go_quiet (fail)
  go_wp2_with fail
  go_quiet (fail)
  go_wp2_with fail
  go_ret
  exact⟨rfl,aJ (aJ c _) _⟩
 | false =>
  rw[k,aa (by decide)]at f;rw[aa (by decide)]
  go_enter func16,ntmps16
  go_wp2_with fail
  go_quiet (fail)
  go_wp2_with fail
  go_quiet (fail)
  go_wp2_with fail
  go_ret
  exact⟨rfl,aJ (aJ c _) _⟩
theorem af9{s d:Nat}(h:fD wd 16)(k:RW w0 w C Y aw cap zs V m)(h0:w.cell? ⟨g,o,none⟩=some (.int .i64 (s:Int)))(h1:w.cell? ⟨g,o+1,none⟩=some (.int .i64 (d:Int)))(b:s<zs.length)(l:d<6):Calls prog 16 #[.pointer (some ⟨Y.xb,0,none⟩),.agg #[.string wd,.slice (some ⟨g,o,none⟩) 2 cap1]] w fun e w'=>e=.returned (.string (il (V.nd s) d))∧Below w.heap.size w w':=by
 obtain⟨B,D,E,F,G,H,I,J,K,L,M,N,O,P,Q,R,S,T,U⟩:=gm h;obtain⟨n,W,⟨X,Z⟩,f⟩:=bxO w wd (.slice (some ⟨g,o,none⟩) 2 cap1);have a:=k.later f;have a0:=hid a;have i:=f.out;have e0:=ag i h0;have e1:=ag i h1;obtain⟨-,r,-,-,-⟩:=a.cells;have p:Hid (∀c,bW n c->Calls prog 34 #[pV Y.xb,iV (s:Int),iV (d:Int)] c fun e w'=>e=.returned (.string (il (V.nd s) d))∧w'=c):=fun c t=>by
  refine(aap s d (a.later t) b l).mono ?_;rintro e w' ⟨⟨a1,rfl,u⟩,rfl⟩;refine⟨?_,rfl⟩;have x:=(a.inv.nd s b).ld d;rw[u];unfold il
  cases y:(V.nd s).ld d with
  | none=>rfl
  | some z=>simp only[aiT (x z y).2.2.1]
 obtain⟨j,A⟩:=nmd (zs.length);rw[A.out]at r b;have a2:¬(j:Int)<=(s:Int):=by omega
 have a3:¬(6:Int)<=(d:Int):=by omega
 generalize il (V.nd s) d=tx at p ⊢;clear k h h0 h1 i a b l
 go_enter func16,ntmps16
 go_wp2_with fail
 go_quiet (fail)
 go_wp2_with fail
 go_quiet ((go_at_call 34;exact(p _ (aJ aF _)).mono fun _ _ q=>⟨q.1,_,q.2⟩))
 go_wp2_with fail
 go_ret
 exact⟨rfl,aJ (aJ f _) _⟩
theorem ahv{s d h1 f i:Nat}(h:fD wd 15)(hR:RW w0 w C Y aw cap zs V m)(h0:w.cell? ⟨g,o,none⟩=some (.int .i64 (s:Int)))(b6:w.cell? ⟨g,o+1,none⟩=some (.int .i64 (d:Int)))(M:s<zs.length)(U:d<6)(W:stN (V.nd s) d=⟨h1,f,i⟩):Calls prog 16 #[.pointer (some ⟨Y.xb,0,none⟩),.agg #[.string wd,.slice (some ⟨g,o,none⟩) 2 cap1]] w fun e w'=>e=.returned (.string (bB (iR h1 f i)))∧Below w.heap.size w w':=by
 obtain⟨k0,k1,k2,k3,k4,k5,k6,k7,k8,k9,d3,d4,d5,d6,d7,d8,d9,e0,e1⟩:=gm h;obtain⟨r,hW,⟨d0,B⟩,N⟩:=bxO w wd (.slice (some ⟨g,o,none⟩) 2 cap1);have K:=hR.later N.out;have e2:=hid K;have X:=N.out;have D:=ag X h0;have I:=ag X b6;obtain⟨-,c1,-,-,-⟩:=K.cells;have b7:=(K.inv.nd s M).gd d U;have c2:(⟨h1,f,i⟩:St).good:=by rw[<-W];exact b7
 obtain⟨c3,c4,c5⟩:h1<=5∧f<=1048576∧i<=f:=c2;have b8:Hid (∀a,Below r.heap.size r a->Calls prog 35 #[.pointer (some ⟨Y.xb,0,none⟩),.int .i64 (s:Int),.int .i64 (d:Int)] a fun e w'=>e=.returned (.agg #[.int .i64 (h1:Int),.int .i64 (f:Int),.int .i64 (i:Int)])∧Below a.heap.size a w'):=fun a c6=>sQ s d h1 f i (K.later c6) M U W
 have Z:Hid (∀a:World,Calls prog 33 #[.int .i64 (h1:Int)] a fun e w'=>e=.returned (.string (bB (cI (h1:Int))))∧Below a.heap.size a w'):=fun a=>nx h1 (by omega) a
 have a0:Hid (∀a:World,Calls prog 20 #[.int .i64 (f:Int)] a fun e w'=>e=.returned (.string (bB (Lib.decDigits f)))∧Below a.heap.size a w'):=fun a=>gl f a (by omega)
 have a1:Hid (∀a:World,Calls prog 20 #[.int .i64 (i:Int)] a fun e w'=>e=.returned (.string (bB (Lib.decDigits i)))∧Below a.heap.size a w'):=fun a=>gl i a (by omega)
 have HOut:Hid ((((bB (cI (h1:Int))++(⟨#[32]⟩:ByteArray))++bB (Lib.decDigits f))++(⟨#[32]⟩:ByteArray))++bB (Lib.decDigits i)=bB (iR h1 f i)):=by
  change _=_;rw[show(⟨#[32]⟩:ByteArray)=bB [32]from rfl,eQ,eQ,eQ,eQ];unfold iR;simp
 have z1:(bB (cI (h1:Int))).size<=20:=ib (h1:Int);have z2:=gF f (by omega);have z3:=gF i (by omega);generalize bB (cI (h1:Int))=O at Z z1 HOut;generalize bB (Lib.decDigits f)=x2 at a0 z2 HOut;generalize bB (Lib.decDigits i)=x3 at a1 z3 HOut;have z4:(⟨#[32]⟩:ByteArray).size=1:=rfl;have P:(9223372036854775807<O.size+1)=False:=eq_false (by omega);have Q:(9223372036854775807<O.size+1+x2.size)=False:=eq_false (by omega);have R:(9223372036854775807<O.size+1+x2.size+1)=False:=eq_false (by omega);have S:(9223372036854775807<O.size+1+x2.size+1+x3.size)=False:=eq_false (by omega);have HU:=hid (And.intro P (And.intro Q (And.intro R S)));clear P Q R S;clear z1 z2 z3 z4;obtain⟨a2,Hn⟩:=nmd (zs.length);rw[Hn.out]at c1 M;have e3:¬(a2:Int)<=(s:Int):=by omega
 have k:¬(6:Int)<=(d:Int):=by omega
 clear hR h h0 b6 X K M U W b7 c3 c4 c5
 go_enter func16,ntmps16
 go_wp2_with fail
 go_quiet (fail)
 obtain⟨b,b9⟩:=nmd (r.drewN nq);have t:Hid (Below r.heap.size r b):=by rw[<-b9.out];exact aJ aF _
 rw[b9.out];replace d0:=ag t.out d0;replace B:=ag t.out B;replace D:=ag t.out D;replace I:=ag t.out I;obtain⟨n,a3⟩:=nmd (b.alloc (.cells #[.int .i64 0,.int .i64 0,.int .i64 0] 80));have e4:=a3.out;have J:Hid (Below b.heap.size b n):=by rw[<-a3.out];exact aD
 have c0:Hid (n.heap[b.heap.size]?=some (.cells #[.int .i64 0,.int .i64 0,.int .i64 0] 80 (0,0))):=by rw[<-a3.out];exact aB b _
 have a4:=ag J.out B;have a5:=ag J.out D;have a6:=ag J.out I;have c7:=hid (b8.out n.drew (t.out.trans (J.out.mono t.out.size)).drew);have c8:=hid (b8.out b.drew t.out.drew);have c9:Hid (b.drew.cell? ⟨w.heap.size,1,none⟩=some (.slice (some ⟨g,o,none⟩) 2 cap1)∧b.drew.cell? ⟨g,o,none⟩=some (.int .i64 (s:Int))∧b.drew.cell? ⟨g,o+1,none⟩=some (.int .i64 (d:Int))):=⟨B,D,I⟩;have d1:Hid (n.drew.cell? ⟨w.heap.size,1,none⟩=some (.slice (some ⟨g,o,none⟩) 2 cap1)∧n.drew.cell? ⟨g,o,none⟩=some (.int .i64 (s:Int))∧n.drew.cell? ⟨g,o+1,none⟩=some (.int .i64 (d:Int))):=⟨a4,a5,a6⟩;have a7:w.heap.size≠b.heap.size:=fun e=>by have q1:w.heap.size<b.heap.size:=bY B;omega
 have T:g≠b.heap.size:=fun e=>by have q1:g<b.heap.size:=bY D;omega
 go_wp2_with fail
 go_region_held3 (fun a=>a.cell? ⟨w.heap.size,1,none⟩=some (.slice (some ⟨g,o,none⟩) 2 cap1)∧a.cell? ⟨g,o,none⟩=some (.int .i64 (s:Int))∧a.cell? ⟨g,o+1,none⟩=some (.int .i64 (d:Int))) (first|with_reducible exact z|with_reducible exact⟨nI z.1 a7,nI z.2.1 T,nI z.2.2 T⟩|with_reducible exact⟨ag ((Below.refl j.heap.size j).alloc aj _) z.1,ag ((Below.refl j.heap.size j).alloc aj _) z.2.1,ag ((Below.refl j.heap.size j).alloc aj _) z.2.2⟩|with_reducible exact c9.out|with_reducible exact d1.out|with_reducible exact⟨B,D,I⟩|with_reducible exact⟨a4,a5,a6⟩) (first
  | (go_at_call 35;(with_reducible refine c7.out.mono ?_);rintro e j ⟨rfl,l⟩;have a8:=hid l;have z:=And.intro (ag l a4) (And.intro (ag l a5) (ag l a6));have A:=(l.block _ (ah c0.out)).trans c0.out;have f0:=aG _ _ 0 _ _ _ A;have f1:=aG _ _ 1 _ _ _ A;have f2:=aG _ _ 2 _ _ _ A;have q0:=aK _ _ 0 _ _ A;have q1:=aK _ _ 1 _ _ A;have q2:=aK _ _ 2 _ _ A;have d2:=hid A;clear l A)
  | (go_at_call 35;(with_reducible refine c8.out.mono ?_);rintro e j ⟨rfl,l⟩;have a8:=hid l;have z:=And.intro (ag l B) (And.intro (ag l D) (ag l I));clear l))
 ·obtain⟨c,E⟩:=nmd (j.alloc (.cells #[.int .i64 (h1:Int),.int .i64 (f:Int),.int .i64 (i:Int)] 80))
  have u:c.heap[j.heap.size]?=some (.cells #[.int .i64 (h1:Int),.int .i64 (f:Int),.int .i64 (i:Int)] 80 (0,0)):=by rw[<-E.out];exact aB j _
  have a9:Hid (Below r.heap.size r c):=by
   rw[<-E.out];exact ao t.out (ao (show Below b.heap.size b j from((Below.refl _ b).drew).trans a8.out) (aD))
  have F:c.cell? ⟨j.heap.size,0,none⟩=some (.int .i64 (h1:Int)):=by rw[ai u];rfl
  have G:c.cell? ⟨j.heap.size,1,none⟩=some (.int .i64 (f:Int)):=by rw[ai u];rfl
  have H:c.cell? ⟨j.heap.size,2,none⟩=some (.int .i64 (i:Int)):=by rw[ai u];rfl
  have b0:=hid (Z.out c.drew);have b1:Hid (c.drew.cell? ⟨j.heap.size,0,none⟩=some (.int .i64 (h1:Int))∧c.drew.cell? ⟨j.heap.size,1,none⟩=some (.int .i64 (f:Int))∧c.drew.cell? ⟨j.heap.size,2,none⟩=some (.int .i64 (i:Int))):=⟨F,G,H⟩;rw[E.out];clear u;obtain⟨P,Q,R,S⟩:=HU.out;clear a7 T
  go_wp2_with fail
  go_region_held3 (fun a=>a.cell? ⟨j.heap.size,0,none⟩=some (.int .i64 (h1:Int))∧a.cell? ⟨j.heap.size,1,none⟩=some (.int .i64 (f:Int))∧a.cell? ⟨j.heap.size,2,none⟩=some (.int .i64 (i:Int))) (first|with_reducible exact b2|with_reducible exact x|with_reducible exact y|with_reducible exact b1.out|with_reducible exact⟨F,G,H⟩) (first
   | (go_at_call 33;(with_reducible refine b0.out.mono ?_);rintro e L ⟨rfl,p⟩;have b3:=hid p;have y:=And.intro (ag p F) (And.intro (ag p G) (ag p H));clear p)
   | (go_at_call 20;(with_reducible refine(a0.out L).mono ?_);rintro e w6 ⟨rfl,k⟩;have b4:=hid k;have x:=And.intro (ag k y.1) (And.intro (ag k y.2.1) (ag k y.2.2));clear k)
   | (go_at_call 20;(with_reducible refine(a1.out w6).mono ?_);rintro e w7 ⟨rfl,q⟩;have b5:=hid q;have b2:=And.intro (ag q x.1) (And.intro (ag q x.2.1) (ag q x.2.2));clear q))
  go_wp2_with fail
  go_ret
  exact⟨by rw[<-HOut.out];rfl,ao N.out (ao a9.out (ao (show Below c.heap.size c L from((Below.refl _ c).drew).trans b3.out) (ao b4.out b5.out)))⟩
 ·obtain⟨c,E⟩:=nmd (((j.setCell ⟨b.heap.size,0,none⟩ (.int .i64 (h1:Int))).setCell ⟨b.heap.size,1,none⟩ (.int .i64 (f:Int))).setCell ⟨b.heap.size,2,none⟩ (.int .i64 (i:Int)))
  have u:c.heap[b.heap.size]?=some (.cells #[.int .i64 (h1:Int),.int .i64 (f:Int),.int .i64 (i:Int)] 80 (0,0)):=by rw[<-E.out];exact abv d2.out _ _ _
  have a9:Hid (Below r.heap.size r c):=by
   rw[<-E.out];have hq:Below b.heap.size b j:=J.out.trans ((show Below n.heap.size n j from((Below.refl _ n).drew).trans a8.out).mono J.out.size);exact ao t.out (Below.setCell (Below.setCell (Below.setCell hq aj _) aj _) aj _)
  have F:c.cell? ⟨b.heap.size,0,none⟩=some (.int .i64 (h1:Int)):=by rw[ai u];rfl
  have G:c.cell? ⟨b.heap.size,1,none⟩=some (.int .i64 (f:Int)):=by rw[ai u];rfl
  have H:c.cell? ⟨b.heap.size,2,none⟩=some (.int .i64 (i:Int)):=by rw[ai u];rfl
  have b0:=hid (Z.out c.drew);have b1:Hid (c.drew.cell? ⟨b.heap.size,0,none⟩=some (.int .i64 (h1:Int))∧c.drew.cell? ⟨b.heap.size,1,none⟩=some (.int .i64 (f:Int))∧c.drew.cell? ⟨b.heap.size,2,none⟩=some (.int .i64 (i:Int))):=⟨F,G,H⟩;rw[E.out];clear u;obtain⟨P,Q,R,S⟩:=HU.out;clear a7 T
  go_wp2_with fail
  go_region_held3 (fun a=>a.cell? ⟨b.heap.size,0,none⟩=some (.int .i64 (h1:Int))∧a.cell? ⟨b.heap.size,1,none⟩=some (.int .i64 (f:Int))∧a.cell? ⟨b.heap.size,2,none⟩=some (.int .i64 (i:Int))) (first|with_reducible exact b2|with_reducible exact x|with_reducible exact y|with_reducible exact b1.out|with_reducible exact⟨F,G,H⟩) (first
   | (go_at_call 33;(with_reducible refine b0.out.mono ?_);rintro e L ⟨rfl,p⟩;have b3:=hid p;have y:=And.intro (ag p F) (And.intro (ag p G) (ag p H));clear p)
   | (go_at_call 20;(with_reducible refine(a0.out L).mono ?_);rintro e w6 ⟨rfl,k⟩;have b4:=hid k;have x:=And.intro (ag k y.1) (And.intro (ag k y.2.1) (ag k y.2.2));clear k)
   | (go_at_call 20;(with_reducible refine(a1.out w6).mono ?_);rintro e w7 ⟨rfl,q⟩;have b5:=hid q;have b2:=And.intro (ag q x.1) (And.intro (ag q x.2.1) (ag q x.2.2));clear q))
  go_wp2_with fail
  go_ret
  exact⟨by rw[<-HOut.out];rfl,ao N.out (ao a9.out (ao (show Below c.heap.size c L from((Below.refl _ c).drew).trans b3.out) (ao b4.out b5.out)))⟩
end
end Go.Proofs.YtaehdgemkafinaaGreatDoor
