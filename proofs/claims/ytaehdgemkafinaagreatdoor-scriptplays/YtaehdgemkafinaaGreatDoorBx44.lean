/-
  On the way to SPlaysProof: O33.
-/
import Derived.Test.YtaehdgemkafinaaGreatDoorBx42
set_option maxHeartbeats 8000000
set_option maxRecDepth 100000
namespace Go.Proofs.YtaehdgemkafinaaGreatDoor
open Go.RowKit
open Go.Proofs.Tryz
def yF:Option Bs->Value
 | none=>.tuple #[.string ⟨#[]⟩,.bool false]
 | some l=>.tuple #[.string (bB l),.bool true]
theorem tL(f:Bs):∀(l:List Int) (j:Nat) (a:Int),eE f j (l++[a]) ↔ eE f j l∧0<=a∧a<=ih f (j+l.length)
 | [],j,a=>by simp[eE,ze]
 | n::l,j,a=>by
  rw[List.cons_append,bL,bL,tL f l (j+1) a,bq,show j+1+l.length=j+(l.length+1) by omega];exact and_assoc.symm
theorem xv(f:Bs):∀(l r:List Int) (j:Nat),eE f j (l++r)->eE f j l
 | [],_,_,_=>rfl
 | _::l,r,j,h=>bL.2 ⟨(bL.1 h).1,xv f l r (j+1) (bL.1 h).2⟩
theorem tS{f:Bs}{l:List Int}(k:Nat)(h:eE f 0 l):eE f 0 (l.take k):=xv f (l.take k) (l.drop k) 0 (by rw[List.take_append_drop];exact h)
theorem rN{l:List Int}{k:Nat}(h:k<l.length):l.take (k+1)=l.take k++[l[k]'h]:=List.take_succ_eq_append_getElem h
theorem abc{f:Bs}{l:List Int}{k:Nat}(h:k<l.length):eE f 0 (l.take (k+1)) ↔ eE f 0 (l.take k)∧0<=l[k]'h∧l[k]'h<=ih f k:=by
 rw[rN h,tL,bI,Nat.min_eq_left (by omega),Nat.zero_add]
theorem eQ(a b:Bs):bB a++bB b=bB (a++b):=fX a b
structure LoI (w wr:World) (f wd:Bs) (ns:List Int) (k:Nat) (o:Value):Prop where
 bel:Below w.heap.size w wr
 out:o=.string (bB (wd++db (ns.take k)))
 fit:eE f 0 (ns.take k)
theorem zL:∀i,i<19->0<i->((bP.getD i [])==[43])=false∧(bP.getD i []).length<=2∧∀k (a:k<(bP.getD i []).length),((bP.getD i [])[k]'a=100∧ih (bP.getD i []) k=9)∨((bP.getD i [])[k]'a=110∧ih (bP.getD i []) k=99999):=by decide
theorem liO(w:World)(wd:ByteArray)(v:Value):∃W,w.alloc (.cells #[.string wd,v] 36)=W∧W.cell? ⟨w.heap.size,0,none⟩=some (.string wd)∧W.cell? ⟨w.heap.size,1,none⟩=some v∧Hid (Below w.heap.size w W):=by
 have a:=aB w (.cells #[.string wd,v] 36);exact⟨_,rfl,by rw[ai a];rfl,by rw[ai a];rfl,aD⟩
theorem xK{wd:ByteArray}{a:List Int}{f:Bs}{k b:Nat}(ht:a.take (k+1)=a.take k++[(b:Int)])(c:eE f 0 (a.take k))(e:a.length<=12)(g:wd.size<=60):(bB (wd.data.toList++db (a.take k))++(⟨#[32]⟩:ByteArray))++bB (Lib.decDigits b)=bB (wd.data.toList++db (a.take (k+1)))∧(bB (wd.data.toList++db (a.take k))).size<=132:=by
 constructor
 ·rw[ht,qW,show(⟨#[32]⟩:ByteArray)=bB [32]from rfl,eQ,eQ,aU]
  simp
 ·have d:=rZ _ _ _ c
  rw[bI]at d;have h:(bB (wd.data.toList++db (a.take k))).size=wd.size+(db (a.take k)).length:=by
   show(wd.data.toList++db (a.take k)).length=_;rw[aR];rfl
  omega
section
variable {w:World} {wd:ByteArray} {v:Value} {ns:List Int} {i:Nat}
theorem adZ(a:dB wd.data.toList=none):Calls prog 11 #[.agg #[.string wd,v]] w fun e w'=>e=.returned (yF none)∧Below w.heap.size w w':=by
 obtain⟨c,h,j,d,f⟩:=liO w wd v;have b:=hid (rB wd c);rw[show nF wd.data.toList=.tuple #[.string ⟨#[]⟩,.bool false] by unfold nF;rw[a]]at b;clear a d
 go_enter func11,ntmps11
 go_wp2_with fail
 refine b.mono ?_;rintro e g ⟨rfl,k⟩;subst g
 go_wp2_with fail
 go_ret2
 exact⟨rfl,f⟩
theorem ad9(A:dB wd.data.toList=some 0)(B:IsSl w v ns)(C:ns.length<=12)(S:wd.size<=60):Calls prog 11 #[.agg #[.string wd,v]] w fun e w'=>e=.returned (yF (if gf 0 ns∧eE [43] 0 ns then some (wd.data.toList++db ns)else none))∧Below w.heap.size w w':=by
 obtain⟨D,hW,c0,T,k⟩:=liO w wd v;have o:=hid (rB wd D);rw[show nF wd.data.toList=.tuple #[.string ⟨#[43]⟩,.bool true] by unfold nF;rw[A];rfl]at o;have U:=hid T;obtain⟨b,f⟩:=nmd (ns.length);obtain⟨l,p⟩:=nmd ((if gf 0 ns∧eE [43] 0 ns then some (wd.data.toList++db ns)else none));rw[p.out];have V:=hid C;obtain⟨a6,cap,E,-,-,q⟩:=B.later k;rw[f.out]at E q C;subst E;have W:=hid q;have F:Hid (¬(gf 0 ns∧eE [43] 0 ns)->none=l):=fun h=>by rw[<-p.out,aa h]
 have j:(b:Int)=0∨¬(b:Int)=0:=by omega
 clear A B q;rcases j with j|j
 ·have G:b=0:=by omega
  have g:=hid (F fun h=>h.1 (List.length_eq_zero_iff.1 (by rw[f.out];exact G)));subst G
  go_enter func11,ntmps11
  go_wp2_with fail
  refine o.mono ?_;rintro e r ⟨rfl,X⟩;subst r
  go_wp2_with fail
  go_ret2
  exact⟨by rw[<-g.out];rfl,k⟩
 ·have a7:((b:Int)==0)=false:=by simpa using j
  have Y:Hid (gf 0 ns):=by
   intro e;rw[e]at f;exact j (by rw[<-f.out];rfl)
  have Z:Hid (Value.string wd=.string (bB (wd.data.toList++db (ns.take 0)))):=by
   show Value.string wd=.string ⟨(wd.data.toList++[]).toArray⟩;rw[List.append_nil]
  go_enter func11,ntmps11
  go_wp2_with fail
  refine o.mono ?_;rintro e r ⟨rfl,X⟩;subst r
  go_wp2_with fail
  go_loopw [6,7] (fun a0 s wr=>∃a:Nat,a<=b∧s=iV (a:Int)∧Hid (LoI D wr [43] wd.data.toList ns a a0)) (fun _ s _=>b-(intOf s).toNat)
  case atStart=>exact⟨0,Nat.zero_le _,rfl,⟨aF,Z,rfl⟩⟩
  case round =>
   obtain⟨a,hk,rfl,c⟩:=hrel;have d1:=ag c.bel U;have ho:=c.out.out;subst ho
   by_cases H:a<b
   ·have a1:(a:Int)<(b:Int):=by omega
    have m:a<ns.length:=by rw[f.out];exact H
    obtain⟨a8,a9,a2,I⟩:=W.out (by omega);subst a2;have J:=ag c.bel (I a H);rw[fw ns a m]at J;have n:=abc (f:=[43]) m;obtain⟨d,Hz⟩:=nmd (ns[a]'m);have t:=rN m;rw[Hz.out]at J n t;have K:ih [43] a=99999:=rfl;rw[K]at n;have L:=hid n;have a3:=hid t;clear I n t K
    by_cases M:d<0∨99999<d
    ·have g:=hid (F fun h=>by have:=L.1 (tS (a+1) h.2);omega)
     have u:d<0∨(¬d<0∧99999<d):=by omega
     clear M;rcases u with N|⟨N,u⟩
     all_goals go_wp2_with fail
     all_goals go_ret2
     all_goals exact⟨by rw[<-g.out];rfl,ao k c.bel⟩
    ·have N:¬d<0:=by omega
     have u:¬99999<d:=by omega
     obtain⟨x,rfl⟩:=bD (show 0<=d by omega);have O:=hid (gl x wr (by omega));obtain⟨P,q2⟩:=xK a3 c.fit V S;have HOut:=hid P;have a4:=hid (L.2 ⟨c.fit,by omega,by omega⟩);clear P M;have q1:=gF x (by omega);generalize bB (wd.data.toList++db (ns.take a))=Q at HOut q2;generalize bB (Lib.decDigits x)=o2 at HOut q1 O;have q3:(⟨#[32]⟩:ByteArray).size=1:=rfl;have q4:(Q++(⟨#[32]⟩:ByteArray)).size<=133:=by rw[ByteArray.size_append,q3];omega
     all_goals
      go_wp2_with fail
      refine O.mono ?_;rintro e w2 ⟨rfl,R⟩;have a5:=hid (c.bel.trans (R.mono c.bel.size));clear R
      go_wp2_with fail
      go_roundw
      case rel=>exact⟨a+1,by omega,by go_num,⟨a5,by rw[HOut.out],a4⟩⟩
      case measure=>simp[intOf];omega
   ·obtain rfl:a=b:=by omega
    have a1:¬(a:Int)<(a:Int):=by omega
    have y:ns.take a=ns:=List.take_of_length_le (Nat.le_of_eq f);have z:=c.fit;rw[y]at z;have g:Hid (some (wd.data.toList++db (ns.take a))=l):=by rw[<-p.out,af ⟨Y,z⟩,y];exact hid rfl
    generalize wd.data.toList++db (ns.take a)=Q at g;clear y z
    go_wp2_with fail
    go_ret2
    exact⟨by rw[<-g.out];rfl,ao k c.bel⟩
theorem abj(t:dB wd.data.toList=some i)(hi:i≠0)(J:IsSl w v ns)(K:ns.length<=12)(hs:wd.size<=60):Calls prog 11 #[.agg #[.string wd,v]] w fun e w'=>e=.returned (yF (if gf i ns∧eE (bP.getD i []) 0 ns then some (wd.data.toList++db ns)else none))∧Below w.heap.size w w':=by
 obtain⟨L,hW,c0,c1,m⟩:=liO w wd v;have n:=hid (rB wd L);rw[show nF wd.data.toList=.tuple #[.string (bB (bP.getD i [])),.bool true] by unfold nF;rw[t]]at n;obtain⟨t1,t2,t3⟩:=zL i (fL t).1 (by omega);obtain⟨b,o⟩:=nmd (bB (bP.getD i []));have u:Hid (b.size=(bP.getD i []).length):=by rw[<-o.out];exact hid rfl
 have p1:(b.toList==[43])=false:=by rw[<-o.out,Lib.toList_data];exact t1
 have p2:(b.toList != [43])=true:=by rw[bne,p1];rfl
 rw[o.out]at n;have a1:=hid c1;obtain⟨c,p⟩:=nmd (ns.length);obtain⟨q,x⟩:=nmd ((if gf i ns∧eE (bP.getD i []) 0 ns then some (wd.data.toList++db ns)else none));rw[x.out];have HL:=hid K;obtain⟨b1,cap,M,-,-,y⟩:=J.later m;rw[p.out]at M y K;subst M;have a2:=hid y;have N:Hid (¬(gf i ns∧eE (bP.getD i []) 0 ns)->none=q):=fun l=>by rw[<-x.out,aa l]
 have z:gf i ns ↔ c=b.size:=by
  unfold gf;rw[aa hi,p.out,<-u.out]
 have g:¬c=b.size∨c=b.size:=by omega
 clear t J y;rcases g with g|g
 ·have j:=hid (N fun l=>g (z.1 l.1))
  have b2:((c:Int)!=(b.size:Int))=true:=by simp;omega
  go_enter func11,ntmps11
  go_wp2_with fail
  refine n.mono ?_;rintro e A ⟨rfl,hx⟩;subst A
  go_wp2_with fail
  go_ret2
  exact⟨by rw[<-j.out];rfl,m⟩
 ·have b3:((c:Int)!=(b.size:Int))=false:=by simp;omega
  have a3:=hid (z.2 g);have HZ:=hid g;clear g z;have a4:Hid (Value.string wd=.string (bB (wd.data.toList++db (ns.take 0)))):=by
   show Value.string wd=.string ⟨(wd.data.toList++[]).toArray⟩;rw[List.append_nil]
  go_enter func11,ntmps11
  go_wp2_with fail
  refine n.mono ?_;rintro e A ⟨rfl,hx⟩;subst A
  go_wp2_with fail
  go_loopw [6,7] (fun a5 B wr=>∃a:Nat,a<=c∧B=iV (a:Int)∧Hid (LoI L wr (bP.getD i []) wd.data.toList ns a a5)) (fun _ B _=>c-(intOf B).toNat)
  case atStart=>exact⟨0,Nat.zero_le _,rfl,⟨aF,a4,rfl⟩⟩
  case round =>
   obtain⟨a,hk,rfl,d⟩:=hrel;have d1:=ag d.bel a1;have ho:=d.out.out;subst ho
   by_cases C:a<c
   ·have a6:(a:Int)<(c:Int):=by omega
    have r:a<ns.length:=by rw[p.out];exact C
    obtain⟨b4,b5,a7,O⟩:=a2.out (by omega);subst a7;have P:=ag d.bel (O a C);rw[fw ns a r]at P;have s:=abc (f:=bP.getD i []) r;obtain⟨f,Hz⟩:=nmd (ns[a]'r);have D:=rN r;rw[Hz.out]at P s D;have k:a<(bP.getD i []).length:=by rw[<-u.out,<-HZ.out];exact C
    have Q:a<b.size:=by rw[u.out];exact k
    have R:=fun w'=>uH b a (a:Int) Q rfl w'
    have S:b[a]'Q=(bP.getD i [])[a]'k:=by
     have:=o.out;subst this;rfl
    rw[S]at R;obtain⟨h,T,E⟩:∃h,ih (bP.getD i []) a=h∧(((bP.getD i [])[a]'k=100∧h=9)∨((bP.getD i [])[a]'k=110∧h=99999)):=⟨_,rfl,t3 a k⟩;generalize (bP.getD i [])[a]'k=ch at R E;clear S;rw[T]at s;have U:=hid s;have a8:=hid D;clear O s D T
    by_cases V:f<0∨h<f
    ·have j:=hid (N fun l=>by have:=U.1 (tS (a+1) l.2);omega)
     have F:f<0∨(¬f<0∧h<f):=by omega
     clear V;rcases E with⟨rfl,rfl⟩|⟨rfl,rfl⟩<;>rcases F with W|⟨W,F⟩
     all_goals go_wp2_with fail
     all_goals go_ret2
     all_goals exact⟨by rw[<-j.out];rfl,ao m d.bel⟩
    ·have W:¬f<0:=by omega
     have F:¬h<f:=by omega
     obtain⟨G,rfl⟩:=bD (show 0<=f by omega);have X:=hid (gl G wr (by omega));obtain⟨Y,q2⟩:=xK a8 d.fit HL hs;have HOut:=hid Y;have a9:=hid (U.2 ⟨d.fit,by omega,by omega⟩);clear Y V;have q1:=gF G (by omega);generalize bB (wd.data.toList++db (ns.take a))=Z at HOut q2;generalize bB (Lib.decDigits G)=o2 at HOut q1 X;have q3:(⟨#[32]⟩:ByteArray).size=1:=rfl;have q4:(Z++(⟨#[32]⟩:ByteArray)).size<=133:=by rw[ByteArray.size_append,q3];omega
     rcases E with⟨rfl,rfl⟩|⟨rfl,rfl⟩
     all_goals
      go_wp2_with fail
      refine X.mono ?_;rintro e w2 ⟨rfl,a0⟩;have b0:=hid (d.bel.trans (a0.mono d.bel.size));clear a0
      go_wp2_with fail
      go_roundw
      case rel=>exact⟨a+1,by omega,by go_num,⟨b0,by rw[HOut.out],a9⟩⟩
      case measure=>simp[intOf];omega
   ·obtain rfl:a=c:=by omega
    have a6:¬(a:Int)<(a:Int):=by omega
    have H:ns.take a=ns:=List.take_of_length_le (Nat.le_of_eq p);have I:=d.fit;rw[H]at I;have j:Hid (some (wd.data.toList++db (ns.take a))=q):=by rw[<-x.out,af ⟨a3,I⟩,H];exact hid rfl
    generalize wd.data.toList++db (ns.take a)=Z at j;clear H I
    go_wp2_with fail
    go_ret2
    exact⟨by rw[<-j.out];rfl,ao m d.bel⟩
theorem afL(b:IsSl w v ns)(c:ns.length<=12)(d:wd.size<=60):Calls prog 11 #[.agg #[.string wd,v]] w fun e w'=>e=.returned (yF (kf wd.data.toList ns))∧Below w.heap.size w w':=by
 unfold kf
 cases a:dB wd.data.toList with
 | none=>exact adZ a
 | some i =>
  by_cases f:i=0
  ·subst f;exact ad9 a b c d
  ·exact abj a f b c d
end
end Go.Proofs.YtaehdgemkafinaaGreatDoor
