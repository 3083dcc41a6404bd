/-
  On the way to SPlaysProof: O12 O13 O14 O15 O22.
-/
import Derived.Test.YtaehdgemkafinaaGreatDoorBx36
import Derived.Test.YtaehdgemkafinaaGreatDoorBx35
set_option maxHeartbeats 8000000
set_option maxRecDepth 100000
namespace Go.Proofs.YtaehdgemkafinaaGreatDoor
open Go.RowKit
open Go.Proofs.Tryz
theorem zj{S:Nat->Prop}{w w1 b:World}(k:Kept S w w1)(a:Below w1.heap.size w1 b):Kept S w b:=
 ⟨a.os.trans k.os,a.tape.trans k.tape,a.output.trans k.output,bc k.size a.size,fun c d e=>(a.block c (bm d k.size)).trans (k.block c d e)⟩
theorem aeF{w:World}{A:Nat->Addr}{k b:Nat}{v:Value}(h:aiv w A 0 k v b):v=.nilIface:=by
 rcases h with⟨-,h⟩|⟨a,c,h,-⟩
 ·exact h
 ·omega
section
variable {w0 w:World} {C:Nat→Nat} {X:XB} {m pb bb:Nat} {zs:List Int} {V:PX} {A:Nat→Addr} {nv:Value}
def DaI(w0 w wr:World)(C:Nat->Nat)(X:XB)(zs:List Int)(V:PX)(m j:Nat):Prop:=∃C' X' U,WD w0 wr C' X' zs U (m+3*j)∧key X'=key X∧Kept (di C) w wr∧(∀x,x<w.heap.size->C' x=C x)∧dc zs (3000-j) U=dc zs 3000 V∧pot zs U+j<=pot zs V∧ej zs (3000-j) U+j=ej zs 3000 V
theorem ag4(h:WD w0 w C X zs V m)(z:Held9 w0 A)(s:bR w pb (az X.xb))(B:2000<=C pb)(W:m+9000<900000):Calls prog 65 #[az pb] w fun e w'=>e=.returned (.int .i64 (ej zs 3000 V:Int))∧ej zs 3000 V<=3000∧pot zs (dc zs 3000 V)+ej zs 3000 V<=pot zs V∧WOut w0 w w' C X zs (dc zs 3000 V) (m+3*ej zs 3000 V):=by
 have H:Hid (DaI w0 w w C X zs V m 0):=⟨C,X,V,h,rfl,Kept.refl _ _,fun _ _=>rfl,rfl,aj,rfl⟩;have D:=hid z;have I:=hid s;have J:=hid B;clear h z s B
 go_enter func65,ntmps65
 go_wp2_with fail
 go_loopw [3] (fun u wr=>∃a:Nat,a<=3000∧u=iV (a:Int)∧Hid (DaI w0 w wr C X zs V m a)) (fun u _=>3000-(intOf u).toNat)
 case atStart=>exact⟨0,Nat.zero_le _,rfl,H⟩
 case round =>
  obtain⟨a,K,rfl,L⟩:=hrel;obtain⟨v,x,c,g,i,k,p,f,q,j⟩:=L.out;have Y:wr.cell? ⟨pb,0,none⟩=some (az X.xb):=aI I k (fun e=>by have Z:=J.out;have h2:C pb<2000:=e;omega)
  by_cases a0:a<3000
  ·have a1:(a:Int)<3000:=by omega
   obtain⟨l,E⟩:∃l,3000-a=l+1:=⟨3000-a-1,by omega⟩;rw[E]at f j
   cases d:c.fly with
   | nil =>
    have r:=hid (qi (0:Int) g D (by rw[d];simp));rw[dU i]at r;rw[py d,Nat.zero_add]at j;rw[xG d]at f;have b:Hid (ej zs 3000 V=a∧pot zs (dc zs 3000 V)+a<=pot zs V∧WOut w0 w wr C X zs (dc zs 3000 V) (m+3*a)):=by
     rw[<-f,<-j];exact⟨rfl,q,v,x,g,i,k,p⟩
    clear g i k p f q j d
    go_wp2_with fail
    refine r.mono ?_;rintro e n ⟨rfl,hx⟩;subst n;unfold ev
    go_wp2_with fail
    go_ret
    exact⟨by rw[b.out.1];rfl,by rw[b.out.1];exact K,by rw[b.out.1];exact b.2.1,by rw[b.out.1];exact b.2.2⟩
   | cons o rest =>
    have y:0<c.fly.length:=by rw[d];simp
    have F:c.fly[0]'y=o:=by simp[d]
    have r:=hid (re 0 o g D y F (by omega));rw[dU i,show((0:Nat):Int)=0 from rfl]at r;have s:=pf g.inv (k:=0) (f:=o) (by rw[d];rfl);rw[nV d]at j;have G:dc zs (l+1) c=dc zs l (aX zs c 0 o):=by
     show(match c.fly with|[]=>c|o::_=>dc zs l (aX zs c 0 o))=_
     rw[d]
    rw[G]at f;have M:Hid (∀n,WOut w0 wr n v x zs (aX zs c 0 o) (m+3*a+3)->DaI w0 w n C X zs V m (a+1)):=by
     intro n t;obtain⟨N,O,P,Q,R,S⟩:=WOut.step i k p t;exact⟨N,O,_,by rw[show m+3*(a+1)=m+3*a+3 by omega];exact P,Q,R,S,by rw[show 3000-(a+1)=l by omega];exact f,by omega,by rw[show 3000-(a+1)=l by omega];omega⟩
    clear g i k p f q j d F s y G E
    go_wp2_with fail
    refine r.mono ?_;rintro e n ⟨rfl,t⟩;have b:=hid (M n t);clear t
    go_wp2_with fail
    go_roundw
    case rel=>exact⟨a+1,by omega,by go_num,b⟩
    case measure=>simp[intOf];omega
  ·obtain rfl:a=3000:=by omega
   have b:Hid (ej zs 3000 V=3000∧pot zs (dc zs 3000 V)+3000<=pot zs V∧WOut w0 w wr C X zs (dc zs 3000 V) (m+3*3000)):=by
    have T:c=dc zs 3000 V:=f;have U:0+3000=ej zs 3000 V:=j;rw[<-T,<-U];exact⟨rfl,q,v,x,g,i,k,p⟩
   clear g i k p f q j
   go_wp2_with fail
   go_ret
   exact⟨by rw[b.out.1];rfl,by rw[b.out.1];exact aj,by rw[b.out.1];exact b.2.1,by rw[b.out.1];exact b.2.2⟩
theorem agE(D:bR w bb (az pb))(h:WD w0 w C X zs V m)(f:Held9 w0 A)(g:∀w',Kept (di C) w w'->TabO w')(i:bR w pb (az X.xb))(j:2000<=C pb)(k:m+9000<900000):Calls prog 63 #[nv,az bb] w fun e w'=>e=.returned (.tuple #[.string (bB (Lib.decDigits (ej zs 3000 V))),.nilIface])∧ej zs 3000 V<=3000∧pot zs (dc zs 3000 V)+ej zs 3000 V<=pot zs V∧WOut w0 w w' C X zs (dc zs 3000 V) (m+3*ej zs 3000 V):=by
 have l:=hid (ag4 h f i j k);have r:=hid g;obtain⟨a,s⟩:=nmd (ej zs 3000 V);rw[s.out]at l ⊢;clear h f g i j k
 go_enter func63,ntmps63
 go_wp2_with fail
 refine l.mono ?_;rintro e n ⟨rfl,t,u,v,x,o,p,c,q⟩;have y:=hid (jk a n (r n c) (by omega));have b:=hid (And.intro o (And.intro p (And.intro c q)));clear o p c q
 go_wp2_with fail
 refine y.mono ?_;rintro e z ⟨rfl,d⟩;have B:Hid (WOut w0 w z C X zs (dc zs 3000 V) (m+3*a)):=⟨v,x,b.1.later d,b.2.1,zj b.2.2.1 d,b.2.2.2⟩;clear d
 go_wp2_with fail
 go_ret2
 exact⟨rfl,t,u,B⟩
theorem agB(j:bR w bb (az pb))(h:WD w0 w C X zs V m)(a:TabO w)(k:bR w pb (az X.xb))(l:m<900000):Calls prog 66 #[nv,az bb] w fun e w'=>e=.returned (.tuple #[.string (bB (Lib.decDigits V.fly.length)),.nilIface])∧Below w.heap.size w w':=by
 have c:=hid (wM h);have d:=h.inv.fl;have f:=hid (jk V.fly.length w a (by omega));clear h a d
 go_enter func66,ntmps66
 go_wp2_with fail
 refine c.mono ?_;rintro e g ⟨rfl,n⟩;subst g
 go_wp2_with fail
 refine f.mono ?_;rintro e o ⟨rfl,b⟩;have i:=hid b;clear b
 go_wp2_with fail
 go_ret2
 exact⟨rfl,i⟩
theorem ahj(i:bR w bb (az pb))(h:WD w0 w C X zs V m)(a:TabO w)(b:bR w pb (az X.xb))(c:EvN V.evs):Calls prog 74 #[nv,az bb] w fun e w'=>e=.returned (.tuple #[.string (bB (eB V.evs)),.nilIface])∧Below w.heap.size w w':=by
 have f:=hid (rM h a b c h.inv.ev);clear h a b c
 go_enter func74,ntmps74
 go_wp2_with fail
 refine f.mono ?_;rintro e j ⟨rfl,d⟩;have g:=hid d;clear d
 go_wp2_with fail
 go_ret2
 exact⟨rfl,g⟩
end
section
variable {w:World} {pb bb xb g cap:Nat} {a b:Int} {R:Value→World→Prop}
theorem ag9(j:bR w bb (az pb))(h0:w.cell? ⟨g,0,none⟩=some (.int .i64 a))(h1:w.cell? ⟨g,1,none⟩=some (.int .i64 b))(h:Calls prog 69 #[az pb,.int .i64 a,.int .i64 b] w.drew (cY fun v w'=>∃s e,v=.tuple #[.string s,e]∧R v w'))(i:∀v W,R v W->Below w.heap.size w W):Calls prog 68 #[.slice (some ⟨g,0,none⟩) 2 cap,az bb] w (cY fun v w'=>∃s e,v=.tuple #[.string s,e]∧R v w'):=by
 have k:=hid h;have l:=hid i;have d:=hid (And.intro j (And.intro h0 h1));clear h i
 go_enter func68,ntmps68
 go_wp2_with fail
 go_region_held3 (fun W=>W.cell? ⟨bb,0,none⟩=some (az pb)∧W.cell? ⟨g,0,none⟩=some (.int .i64 a)∧W.cell? ⟨g,1,none⟩=some (.int .i64 b)) (first|exact m|go_keep) (first|(go_at_call 69;(with_reducible refine k.out.mono ?_);rintro e o ⟨v,rfl,s,e,rfl,f⟩;have n:=hid f;have c:=l.out _ _ f;have m:=And.intro (ag c d.out.1) (And.intro (ag c d.out.2.1) (ag c d.out.2.2));clear f c))
 go_wp2_with fail
 go_ret2
 exact⟨_,rfl,_,_,rfl,n.out⟩
theorem agJ(j:bR w bb (az pb))(h0:w.cell? ⟨g,0,none⟩=some (.int .i64 a))(f:Calls prog 73 #[az pb,.int .i64 a] w.drew (cY fun v w'=>∃s e,v=.tuple #[.string s,e]∧R v w'))(h:∀v W,R v W->Below w.heap.size w W):Calls prog 72 #[.slice (some ⟨g,0,none⟩) 1 cap,az bb] w (cY fun v w'=>∃s e,v=.tuple #[.string s,e]∧R v w'):=by
 have k:=hid f;have l:=hid h;have i:=hid (And.intro j h0);clear f h
 go_enter func72,ntmps72
 go_wp2_with fail
 go_region_held3 (fun W=>W.cell? ⟨bb,0,none⟩=some (az pb)∧W.cell? ⟨g,0,none⟩=some (.int .i64 a)) (first|exact m|go_keep) (first|(go_at_call 73;(with_reducible refine k.out.mono ?_);rintro e o ⟨v,rfl,s,e,rfl,c⟩;have n:=hid c;have d:=l.out _ _ c;have m:=And.intro (ag d i.out.1) (ag d i.out.2);clear c d))
 go_wp2_with fail
 go_ret2
 exact⟨_,rfl,_,_,rfl,n.out⟩
theorem afO(j:bR w bb (az pb))(k:bR w pb (az xb))(h0:w.cell? ⟨g,0,none⟩=some (.int .i64 a))(h1:w.cell? ⟨g,1,none⟩=some (.int .i64 b))(h:Calls prog 71 #[az xb,.int .i64 a,.int .i64 b] w.drew (cY fun v w'=>∃s e,v=.tuple #[.string s,e]∧R v w'))(i:∀v W,R v W->Below w.heap.size w W):Calls prog 70 #[.slice (some ⟨g,0,none⟩) 2 cap,az bb] w (cY fun v w'=>∃s e,v=.tuple #[.string s,e]∧R v w'):=by
 have l:=hid h;have m:=hid i;have d:=hid (And.intro j (And.intro k (And.intro h0 h1)));clear h i
 go_enter func70,ntmps70
 go_wp2_with fail
 go_region_held3 (fun W=>W.cell? ⟨bb,0,none⟩=some (az pb)∧W.cell? ⟨pb,0,none⟩=some (az xb)∧W.cell? ⟨g,0,none⟩=some (.int .i64 a)∧W.cell? ⟨g,1,none⟩=some (.int .i64 b)) (first|exact n|go_keep) (first|(go_at_call 71;(with_reducible refine l.out.mono ?_);rintro e p ⟨v,rfl,s,e,rfl,f⟩;have o:=hid f;have c:=m.out _ _ f;have n:=And.intro (ag c d.out.1) (And.intro (ag c d.out.2.1) (And.intro (ag c d.out.2.2.1) (ag c d.out.2.2.2)));clear f c))
 go_wp2_with fail
 go_ret2
 exact⟨_,rfl,_,_,rfl,o.out⟩
end
section
variable {w0 w:World} {C:Nat→Nat} {X:XB} {m pb bb:Nat} {zs:List Int} {V:PX} {A:Nat→Addr} {nv:Value}
theorem afT(r:bR w bb (az pb))(h:WD w0 w C X zs V m)(g:Held9 w0 A)(s:bR w pb (az X.xb))(i:w.cell? ⟨pb,1,none⟩=some (.int .i64 (zs.length:Int)))(j:AX zs V):Calls prog 59 #[nv,az bb] w fun e w'=>e=.returned .nilIface∧Below w.heap.size w w':=by
 have t:=hid (qN (h.later (show Below w.heap.size w w.drew from(Below.refl _ w).drew)));have k:=hid (sy j);have u:=hid (h.held g);have v:=h.n7;have J:=h.inv.ev;have b:=hid (And.intro r (And.intro s i));obtain⟨c,x⟩:=nmd (zs.length);rw[x.out]at v k b i;clear h g j
 go_enter func59,ntmps59
 go_wp2_with fail
 go_region_held3 (fun d=>d.cell? ⟨bb,0,none⟩=some (az pb)∧d.cell? ⟨pb,0,none⟩=some (az X.xb)∧d.cell? ⟨pb,1,none⟩=some (.int .i64 (c:Int))) (first|exact y|exact z|go_keep) (first
  | (go_at_call 61;(with_reducible refine t.out.mono ?_);rintro e l ⟨B,rfl,n,o⟩;obtain⟨D,E,rfl,-,-,f⟩:=ra n;have K:=hid f;have a:=((Below.refl _ w).drew).trans o;have F:Hid (Below w.heap.size w l):=a;have y:=And.intro (ag a b.out.1) (And.intro (ag a b.out.2.1) (ag a b.out.2.2));have G:=hid (acw A D E V.evs (c:Int) 0 V.evs.length l (u.out.later a) (by omega) (by omega) f (by omega) k.out);clear n o f a)
  | (go_at_call 60;(with_reducible refine G.out.mono ?_);rintro e L ⟨B,rfl,p,q⟩;have a:=ao F.out q;have H:=hid a;have I:=hid p;have z:=And.intro (ag a b.out.1) (And.intro (ag a b.out.2.1) (ag a b.out.2.2));clear q a p))
 go_wp2_with fail
 go_ret
 exact⟨by rw[aeF I.out];rfl,H.out⟩
end
abbrev PSt:=Option (List Int×PX)
def fC:Nat->Bs
 | 1=>[116,104,114,101,101,102,111,108,100,58,32,116,101,120,116]
 | 2=>[116,104,114,101,101,102,111,108,100,58,32,98,111,117,110,100]
 | 3=>[116,104,114,101,101,102,111,108,100,58,32,115,104,97,112,101]
 | 4=>[116,104,114,101,101,102,111,108,100,58,32,110,111,110,101]
 | 5=>[116,104,114,101,101,102,111,108,100,58,32,102,117,108,108]
 | 6=>[116,104,114,101,101,102,111,108,100,58,32,111,102,102]
 | 7=>[116,104,114,101,101,102,111,108,100,58,32,115,117,109]
 | 8=>[116,104,114,101,101,102,111,108,100,58,32,104,101,108,100]
 | 9=>[116,104,114,101,101,102,111,108,100,58,32,115,112,108,105,116]
 | _=>[]
def opP(zs:List Int)(V:PX)(i:Nat)(a b:Int):Nat×PX:=match i with
 | 1=>(eO zs.length V a b,if eO zs.length V a b=0 then dP zs V a.toNat b.toNat else V)
 | 2=>(hP zs.length V a b,if hP zs.length V a b=0 then lZ V a.toNat b.toNat else V)
 | 3=>(cUp zs.length V a,if cUp zs.length V a=0 then dJ zs a.toNat 6 0 V else V)
 | 4=>match V.fly[a.toNat]? with|some f=>(0,aX zs V a.toNat f)|none=>(4,V)
 | 5=>if a.toNat<V.fly.length then(0,ay V a.toNat)else(4,V)
 | 6=>match V.fly[a.toNat]? with|some f=>(0,ik V a.toNat f)|none=>(4,V)
 | 7=>if a<zs.length∧b<zs.length then(0,eH V a.toNat b.toNat true)else(2,V)
 | 8=>if a<zs.length∧b<zs.length then(0,eH V a.toNat b.toNat false)else(2,V)
 | 9=>(kP zs.length V a b,if 0<=a∧a<zs.length then mP V a.toNat b else V)
 | 10=>(cUp zs.length V a,if cUp zs.length V a=0 then oI V a.toNat else V)
 | 11=>(gi zs.length V a,if gi zs.length V a=0 then upX V a.toNat else V)
 | _=>(0,V)
def ia(zs:List Int)(V:PX)(i:Nat)(a b:Int):(Nat×Bs)×PX:=match i with
 | 13=>((0,Lib.decDigits (ej zs 3000 V)),dc zs 3000 V)
 | 14=>((0,Lib.decDigits V.fly.length),V)
 | 15=>(if a<zs.length∧b<6 then(0,iR (stN (V.nd a.toNat) b.toNat).ph (stN (V.nd a.toNat) b.toNat).pr (stN (V.nd a.toNat) b.toNat).at_)else(2,[]),V)
 | 16=>(if a<zs.length∧b<6 then(0,(il (V.nd a.toNat) b.toNat).data.toList)else(2,[]),V)
 | 17=>(if a<zs.length then(0,if upN (V.nd a.toNat)=true then[117,112]else[100,111,119,110])else(2,[]),V)
 | _=>((0,eB V.evs),V)
def cz(st:PSt)(i:Nat)(ns:List Int):(Nat×Bs)×PSt:=
 if i=0 then(if bT ns=0 then((0,[111,107]),some (ns,dM))else((bT ns,[]),st))else
 match st with
 | none=>((4,[]),none)
 | some (zs,V)=>if i<=12 then(((opP zs V i (ns.getD 0 0) (ns.getD 1 0)).1,[111,107]),some (zs,(opP zs V i (ns.getD 0 0) (ns.getD 1 0)).2))else((ia zs V i (ns.getD 0 0) (ns.getD 1 0)).1,some (zs,(ia zs V i (ns.getD 0 0) (ns.getD 1 0)).2))
def cM(st:PSt)(ws:List Bs):(Nat×Bs)×PSt:=match dB (ws.headD [])with
 | none=>((1,[]),st)
 | some i=>match dK (dj.getD i []) (i==0) ws.tail with
  | none=>((1,[]),st)
  | some ns=>cz st i ns
def gu(r:Nat×Bs):Bs:=if r.1=0 then r.2 else fC r.1
def eh:PSt->List (List Bs)->List Bs×PSt
 | st,[]=>([],st)
 | st,ws::r=>(gu (cM st ws).1::(eh (cM st ws).2 r).1,(eh (cM st ws).2 r).2)
section
variable {zs:List Int} {V:PX} {m i:Nat} {a b:Int}
theorem rW(f:0<=a)(g:0<=b):Stp zs V (opP zs V i a b).2:=by
 unfold opP
 split
 ·show Stp zs V (if _ then _ else _)
  split
  ·rename_i c
   unfold eO at c
   split at c
   ·rename_i d
    refine Stp.begin a.toNat b.toNat (by omega) (by omega) ?_;unfold eO;rw[af (by omega)];rw[show((a.toNat:Int)).toNat=a.toNat by omega,show((b.toNat:Int)).toNat=b.toNat by omega];exact c
   ·omega
  ·exact Stp.same
 ·show Stp zs V (if _ then _ else _)
  split
  ·rename_i c
   unfold hP at c
   split at c
   ·rename_i d
    split at c
    ·exact Stp.refuse a.toNat b.toNat (by omega) ‹_›
    ·omega
   ·omega
  ·exact Stp.same
 ·show Stp zs V (if _ then _ else _)
  split
  ·rename_i c
   unfold cUp at c
   split at c
   ·rename_i d
    split at c
    ·exact Stp.tick a.toNat (by omega) ‹_›
    ·omega
   ·omega
  ·exact Stp.same
 ·split
  ·exact Stp.deliver _ _ ‹_›
  ·exact Stp.same
 ·split
  ·exact Stp.take _
  ·exact Stp.same
 ·split
  ·exact Stp.twice _ _ (List.mem_of_getElem? ‹_›)
  ·exact Stp.same
 ·split
  ·exact Stp.link _ _ _
  ·exact Stp.same
 ·split
  ·exact Stp.link _ _ _
  ·exact Stp.same
 ·show Stp zs V (if _ then _ else _)
  split
  ·exact Stp.cut _ _ (by omega)
  ·exact Stp.same
 ·show Stp zs V (if _ then _ else _)
  split
  ·rename_i c
   unfold cUp at c
   split at c
   ·rename_i d
    split at c
    ·exact Stp.down a.toNat (by omega) ‹_›
    ·omega
   ·omega
  ·exact Stp.same
 ·show Stp zs V (if _ then _ else _)
  split
  ·rename_i c
   unfold gi at c
   split at c
   ·rename_i d
    split at c
    ·omega
    ·rename_i e
     exact Stp.wake a.toNat (by omega) (by simpa using e)
   ·omega
  ·exact Stp.same
 ·exact Stp.same
theorem rt:∀(k:Nat) (V:PX) (m:Nat),AX zs V->XI zs V m->m+3*k<900000->AX zs (dc zs k V)
 | 0,V,m,c,_,_=>c
 | k+1,V,m,c,d,h=>by
  unfold dc
  cases e:V.fly with
  | nil=>exact c
  | cons f r =>
   have g:V.fly[0]?=some f:=by rw[e];rfl
   exact rt k _ (m+2) ((Stp.deliver 0 f g).ax c d (by omega)).1 (d.deliver (by omega) (by rw[e];exact List.mem_cons_self)) (by omega)
end
section
variable {w0 w w':World} {C:Nat→Nat} {X:XB} {zs:List Int} {V V':PX} {A:Nat→Addr} {k k' pb bb g cap i c f n:Nat} {ar:Array Value}
theorem WOut.drewn(h:WOut w0 w.drew w' C X zs V' k)(b:k<=k'):WOut w0 w w' C X zs V' k':=by
 obtain⟨d,e,j,l,a,m⟩:=h;exact⟨d,e,j.mono b,l,⟨a.os,a.tape,a.output,a.size,a.block⟩,m⟩
theorem WD.drewn(h:WD w0 w C X zs V k):WD w0 w.drew C X zs V k:=h.later (show bW w w.drew from(Below.refl _ w).drew)
theorem WOut.same(h:WD w0 w C X zs V k)(a:k<=k'):WOut w0 w w.drew C X zs V k':=⟨C,X,h.drewn.mono a,rfl,⟨rfl,rfl,rfl,aj,fun _ _ _=>rfl⟩,fun _ _=>rfl⟩
def OpR(w0 w:World)(C:Nat->Nat)(X:XB)(zs:List Int)(A:Nat->Addr)(r:Nat×PX)(k:Nat)(v:Value)(w':World):Prop:=v=ev A r.1∧WOut w0 w w' C X zs r.2 k
theorem OpR.cell{r:Nat×PX}{v:Value}(h:OpR w0 w C X zs A r k v w'){b o:Nat}{a:Value}(d:w.cell? ⟨b,o,none⟩=some a)(l:2000<=C b):w'.cell? ⟨b,o,none⟩=some a:=by
 obtain⟨-,m,p,-,-,e,-⟩:=h;exact aI d e (fun j=>by have q:C b<2000:=j;omega)
theorem tJ(h:WD w0 w C X zs V k)(a:Calls prog f ar w.drew fun e w'=>e=.returned (ev A n)∧w'=w.drew):Calls prog f ar w.drew (cY (OpR w0 w C X zs A (n,V) (k+42))):=by
 refine a.mono fun e j ⟨b,d⟩=>⟨_,b,rfl,?_⟩
 subst d;exact WOut.same h (by omega)
theorem afC(a b:Nat)(d:Bool)(h:WD w0 w C X zs V k)(j:Held9 w0 A)(o:k<800000):Calls prog 51 #[az X.xb,.int .i64 (a:Int),.int .i64 (b:Int),.bool d] w.drew (cY (OpR w0 w C X zs A (if(a:Int)<zs.length∧(b:Int)<zs.length then(0,eH V a b d)else(2,V)) (k+42))):=by
 by_cases e:(a:Int)<zs.length∧(b:Int)<zs.length
 ·rw[af e]
  exact(agQ a b d h.drewn (by omega) (by omega) (by omega)).mono fun p q ⟨l,m⟩=>⟨_,l,rfl,m.drewn (by omega)⟩
 ·rw[aa e]
  exact tJ h (agq (a:Int) (b:Int) d h.drewn j (by omega))
theorem ajx(a b:Nat)(p:adk X.xb a b i c f ar)(h:WD w0 w C X zs V k)(d:Held9 w0 A)(l:k<800000)(q:b<100000):Calls prog f ar w.drew (cY (OpR w0 w C X zs A (opP zs V i (a:Int) (b:Int)) (k+42))):=by
 rcases p with⟨rfl,-,rfl,rfl⟩|⟨rfl,-,rfl,rfl⟩|⟨rfl,-,rfl,rfl⟩|⟨rfl,-,rfl,rfl⟩|⟨rfl,-,rfl,rfl⟩
 ·exact(acH (a:Int) (b:Int) _ h.drewn d (by omega) rfl).mono fun m o ⟨e,j⟩=>⟨_,e,rfl,j.drewn (by omega)⟩
 ·exact(aaI (a:Int) (b:Int) _ h.drewn d (by omega) rfl).mono fun m o ⟨e,j⟩=>⟨_,e,rfl,j.drewn (by omega)⟩
 ·exact afC a b true h d l
 ·exact afC a b false h d l
 ·exact(agn (a:Int) (b:Int) _ h.drewn d (by omega) rfl).mono fun m o ⟨e,j⟩=>⟨_,e,rfl,j.drewn (by omega)⟩
theorem ajE(a:Nat)(b:Int)(s:aew X.xb a i c f ar)(h:WD w0 w C X zs V k)(l:Held9 w0 A)(t:k<800000):Calls prog f ar w.drew (cY (OpR w0 w C X zs A (opP zs V i (a:Int) b) (k+42))):=by
 have q:∀(m:F9->Nat×PX) (d:a<V.fly.length),(match V.fly[a]? with|some f=>m f|none=>(4,V))=m (V.fly[a]'d):=fun m d=>by rw[cG d]
 have r:∀(m:F9->Nat×PX),¬a<V.fly.length->(match V.fly[a]? with|some f=>m f|none=>(4,V))=(4,V):=fun m d=>by rw[List.getElem?_eq_none (by omega)]
 rcases s with⟨rfl,-,rfl,rfl⟩|⟨rfl,-,rfl,rfl⟩|⟨rfl,-,rfl,rfl⟩|⟨rfl,-,rfl,rfl⟩|⟨rfl,-,rfl,rfl⟩|⟨rfl,-,rfl,rfl⟩
 ·exact(aff (a:Int) _ h.drewn l (by omega) rfl).mono fun o p ⟨e,j⟩=>⟨_,e,rfl,j.drewn (by omega)⟩
 ·rw[show opP zs V 4 (a:Int) b=(match V.fly[a]? with|some f=>(0,aX zs V a f)|none=>(4,V))from rfl]
  by_cases d:a<V.fly.length
  ·rw[q _ d]
   exact(re a _ h.drewn l d rfl (by omega)).mono fun o p ⟨e,j⟩=>⟨_,e,rfl,j.drewn (by omega)⟩
  ·rw[r _ d]
   exact tJ h (qi (a:Int) h.drewn l (by omega))
 ·rw[show opP zs V 5 (a:Int) b=(if a<V.fly.length then(0,ay V a)else(4,V))from rfl]
  by_cases d:a<V.fly.length
  ·rw[af d]
   exact(agK a h.drewn d (by omega)).mono fun o p ⟨e,j⟩=>⟨_,e,rfl,j.drewn (by omega)⟩
  ·rw[aa d]
   exact tJ h (agy (a:Int) h.drewn l (by omega))
 ·rw[show opP zs V 6 (a:Int) b=(match V.fly[a]? with|some f=>(0,ik V a f)|none=>(4,V))from rfl]
  by_cases d:a<V.fly.length
  ·rw[q _ d]
   exact(adA a _ h.drewn d rfl (by omega)).mono fun o p ⟨e,j⟩=>⟨_,e,rfl,j.drewn (by omega)⟩
  ·rw[r _ d]
   exact tJ h (aep (a:Int) h.drewn l (by omega))
 ·exact(adY (a:Int) _ h.drewn l rfl).mono fun o p ⟨e,j⟩=>⟨_,e,rfl,j.drewn (by omega)⟩
 ·exact(aeA (a:Int) _ h.drewn l rfl).mono fun o p ⟨e,j⟩=>⟨_,e,rfl,j.drewn (by omega)⟩
end
def StO(w0 w:World)(pb:Nat)(C:Nat->Nat)(st:PSt)(m:Nat):Prop:=match st with
 | none=>w.heap[pb]?=some (.cells #[.pointer none,.int .i64 0] 47 (0,0))
 | some (zs,V)=>∃X k,w.heap[pb]?=some (.cells #[az X.xb,.int .i64 (zs.length:Int)] 47 (0,0))∧WD w0 w C X zs V k∧AX zs V∧k+3*pot zs V<=m
structure PlO (w0 wc w:World) (pb:Nat) (C:Nat->Nat) (st:PSt) (m:Nat):Prop where
 bel:Below w0.heap.size w0 w
 lo:w0.heap.size<=pb
 lp:pb<wc.heap.size
 fz:∀x,x<wc.heap.size->x≠pb->w.heap[x]?=wc.heap[x]?
 far:∀x,C x<2000->wc.heap.size<=x
 sz:wc.heap.size<=w.heap.size
 top:∀x,C x<2000->x<w.heap.size
 st:StO w0 w pb C st m
def NextO(w0 wc w w':World)(pb:Nat)(C:Nat->Nat)(st':PSt)(m':Nat):Prop:=∃C',PlO w0 wc w' pb C' st' m'∧Kept (fun x=>C x<2000∨x=pb) w w'∧∀x,x<w.heap.size->2000<=C x->2000<=C' x
section
variable {w0 wc w w':World} {pb:Nat} {C:Nat→Nat} {st st':PSt} {m m':Nat} {A:Nat→Addr}
theorem PlO.far2(h:PlO w0 wc w pb C st m){x:Nat}(b:x<wc.heap.size):2000<=C x:=by
 rcases bU (C x) 2000 with a|a
 ·have:=h.far x a;omega
 ·exact a
theorem StO.mono(h:StO w0 w pb C st m)(a:m<=m'):StO w0 w pb C st m':=by
 unfold StO at *
 split
 ·exact h
 ·obtain⟨b,c,d,e,f,g⟩:=h
  exact⟨b,c,d,e,f,bc g a⟩
theorem PlO.later(h:PlO w0 wc w pb C st m)(a:Below w.heap.size w w'):PlO w0 wc w' pb C st m:=by
 have d:pb<w.heap.size:=bm h.lp h.sz;refine⟨h.bel.trans (a.mono h.bel.size),h.lo,h.lp,fun b c f=>(a.block b (bm c h.sz)).trans (h.fz b c f),h.far,bc h.sz a.size,fun b c=>bm (h.top b c) a.size,?_⟩;have e:=h.st;unfold StO at *
 split
 ·exact(a.block _ d).trans e
 ·obtain⟨g,i,j,k,l,n⟩:=e
  exact⟨g,i,(a.block _ d).trans j,k.later a,l,n⟩
theorem NextO.of_below(h:PlO w0 wc w pb C st m)(a:Below w.heap.size w w')(b:m<=m'):NextO w0 wc w w' pb C st m':=by
 have:=h.later a;exact⟨C,⟨this.bel,this.lo,this.lp,this.fz,this.far,this.sz,this.top,this.st.mono b⟩,⟨a.os,a.tape,a.output,a.size,fun c d _=>a.block c d⟩,fun _ _ h=>h⟩
theorem NextO.of_out{X:XB}{zs:List Int}{e:PX}{f:Nat}(h:PlO w0 wc w pb C st m)(j:w.heap[pb]?=some (.cells #[az X.xb,.int .i64 (zs.length:Int)] 47 (0,0)))(o:WOut w0 w w' C X zs e f)(p:AX zs e)(q:f+3*pot zs e<=m'):NextO w0 wc w w' pb C (some (zs,e)) m':=by
 obtain⟨r,k,g,s,b,l⟩:=o;have z:=h.far2 h.lp;have t:w'.heap[pb]?=some (.cells #[az k.xb,iV (zs.length:Int)] 47 (0,0)):=by
  rw[dU s];exact(b.block pb (ah j) (fun d=>by have u:C pb<2000:=d;omega)).trans j
 refine⟨r,⟨g.bel,h.lo,h.lp,fun a c i=>?_,fun a c=>?_,bc h.sz b.size,g.lt,k,f,t,g,p,q⟩,⟨b.os,b.tape,b.output,b.size,fun v x i=>b.block v x (fun d=>i (.inl d))⟩,fun a c y=>by rw[l a c];exact y⟩
 ·exact(b.block a (bm c h.sz) (fun d=>by have B:=h.far2 c;have u:C a<2000:=d;omega)).trans (h.fz a c i)
 ·rcases bU a w.heap.size with n|n
  ·rw[l a n]at c;exact h.far a c
  ·have:=h.sz;omega
def aeP(A:Nat->Addr)(r:Nat×Bs)(s:ByteArray)(e:Value):Prop:=e=ev A r.1∧(r.1=0->s=bB r.2)
def fZ(w0 wc w:World)(pb:Nat)(C:Nat->Nat)(A:Nat->Addr)(r:(Nat×Bs)×PSt)(m:Nat)(v:Value)(w':World):Prop:=∃s e,v=.tuple #[.string s,e]∧aeP A r.1 s e∧NextO w0 wc w w' pb C r.2 m
theorem ad4(zs:List Int):pot zs dM<=0:=by
 show wtL []+_<=0;have c:∀b a,eu (fun d=>cS b (dM.nd d)) a=0:=by
  intro b a
  induction a with
  | zero=>rfl
  | succ a e=>unfold eu;rw[e];rfl
 rw[c];exact aj
theorem ady(nv:Value)(c:List Int)(h:PlO w0 wc w pb C st m)(o:Held9 w0 A)(p:IsSl w nv c)(M:m<=m'):Calls prog 36 #[az pb,nv] w (cY (fZ w0 wc w pb C A (cz st 0 c) m')):=by
 obtain⟨F,G,x⟩:∃F G,w.heap[pb]?=some (.cells #[.pointer F,iV G] 47 (0,0)):=by
  have q:=h.st;unfold StO at q
  split at q
  ·exact⟨_,_,q⟩
  ·obtain⟨S,T,j,-⟩:=q;exact⟨_,_,j⟩
 have b:=hid h
 by_cases r:bT c=0
 ·have s:=hid (agD nv p (o.later h.bel) r)
  have k:Hid (cz st 0 c=((0,[111,107]),some (c,dM))):=by
   change _=_;unfold cz;rw[af rfl,af r]
  have H:=hid x;obtain⟨U,V,rfl,-,-,-⟩:=p;obtain⟨y,I⟩:=nmd (c.length);rw[I.out]at s ⊢;clear h o x
  go_enter func36,ntmps36
  go_wp2_with fail
  refine s.mono ?_;rintro z t ⟨l,J,rfl,j⟩;have u:=hid j;have i:=(j.bel.block _ (ah H)).trans H;have N:=hid i;have W:=aG _ _ 0 _ _ _ i;have X:=aG _ _ 1 _ _ _ i;have Y:=aK _ _ 0 _ _ i;have Z:=aK _ _ 1 _ _ i;clear j i
  go_wp2_with fail
  go_ret2
  refine⟨_,rfl,_,_,rfl,?_,?_⟩
  ·rw[k.out];exact⟨rfl,fun _=>rfl⟩
  ·rw[k.out]
   have O:=b.lp;have P:=b.sz;have Q:=u.rebase (b.bel.trans (u.bel.mono b.bel.size)) b.bel.size;have B:∀a,l a<2000->w.heap.size<=a:=u.low;have n:Kept (fun a=>a=pb) t ((t.setCell ⟨pb,0,none⟩ (az J.xb)).setCell ⟨pb,1,none⟩ (iV (y:Int))):=by
    refine⟨rfl,rfl,rfl,by simp[World.setCell],fun D K f=>?_⟩;rw[Below.heap_setCell _ _ _ _ f,Below.heap_setCell _ _ _ _ f]
   have R:2000<=l pb:=by
    rcases bU (l pb) 2000 with g|g
    ·have:=B pb g;omega
    ·exact g
   have d:=u.bel;have L:=Q.far n (fun a e=>by rw[e];exact R) (fun a e=>by rw[e];exact b.lo);refine⟨l,⟨?_,b.lo,O,fun a e f=>?_,fun a e=>?_,?_,L.lt,J,0,?_,L,AX.new,?_⟩,?_,fun a e _=>?_⟩
   ·exact((b.bel.trans (d.mono b.bel.size)).setCell b.lo _).setCell b.lo _
   ·exact(n.block a (by have:=d.size;omega) f).trans ((d.block a (by omega)).trans (b.fz a e f))
   ·have:=B a e;omega
   ·exact bc P (bc d.size n.size)
   ·rw[I.out];exact set2 N _ _
   ·have:=ad4 c;omega
   ·exact⟨d.os,d.tape,d.output,bc d.size n.size,fun D K f=>(n.block D (by have:=d.size;omega) (fun z=>f (.inr z))).trans (d.block D K)⟩
   ·rcases bU (l a) 2000 with g|g
    ·have:=B a g;omega
    ·exact g
 ·obtain⟨v,E⟩:∃v,bT c=v+1:=⟨bT c-1,by omega⟩
  have s:=hid (adQ nv v p (o.later h.bel) E);have k:Hid (cz st 0 c=((v+1,[]),st)):=by
   change _=_;unfold cz;rw[af rfl,aa r,E]
  clear h o x p r E
  go_enter func36,ntmps36
  go_wp2_with fail
  refine s.mono ?_;rintro z t ⟨rfl,e⟩;subst t
  go_wp2_with fail
  go_ret2
  refine⟨_,rfl,_,_,rfl,?_,?_⟩
  ·rw[k.out];exact⟨rfl,fun h=>by cases h⟩
  ·rw[k.out];exact NextO.of_below b aF M
end
structure SimO where
 st:Nat->St
 P:PL
 fly:List F9
 evs:List E3
def mB(zs:List Int)(d s:Nat)(x:SimO):SimO:=match x.fly with
 | []=>x
 | f::rest=>if fO f.k=true then { x with P:=(aL zs s d 0 x.P f).1,fly:=rest++dm s d 0 zs.length (aL zs s d 0 x.P f).2 }else
  let h:=aO (x.st f.t.toNat) false f.k.toNat f.a.toNat f.ph.toNat
  { x with st:=upd x.st f.t.toNat h.st,fly:=rest++(if h.k≠0 then[ct f.t.toNat f h]else[]),evs:=noteE x.evs f.t.toNat d (x.st f.t.toNat).ph h.st.ph }
def kN(zs:List Int)(d s:Nat):Nat->SimO->SimO
 | 0,x=>x
 | k+1,x=>kN zs d s k (mB zs d s x)
def aak(zs:List Int)(d s:Nat)(x:SimO):Bool:=match x.fly with
 | []=>false
 | f::_=>decide (f.d=(d:Int))&&decide (0≤f.t)&&(if fO f.k=true then decide (f.t=(s:Int))else decide (f.t<zs.length)&&(!aT (aO (x.st f.t.toNat) false f.k.toNat f.a.toNat f.ph.toNat).st.ph||decide ((aO (x.st f.t.toNat) false f.k.toNat f.a.toNat f.ph.toNat).st.ph=2)))
def qA(zs:List Int)(d s:Nat):Nat->SimO->Bool
 | 0,_=>true
 | k+1,x=>aak zs d s x&&qA zs d s k (mB zs d s x)
section
variable {zs:List Int} {d s m:Nat} {V:PX} {x:SimO}
def SimW(zs:List Int)(d s:Nat)(V:PX)(m:Nat)(x:SimO):Prop:=CW zs d s 2 (fun _=>false) V m x.st x.P x.fly∧V.evs=x.evs
theorem SimW.step(h:SimW zs d s V m x)(F:m<900000)(p:s<zs.length)(e:aak zs d s x=true):∃f rest,V.fly=f::rest∧SimW zs d s (aX zs V 0 f) (m+2) (mB zs d s x):=by
 obtain⟨i,q⟩:=h;obtain⟨b,j,v,g⟩:=x
 cases v with
 | nil=>cases e
 | cons f rest =>
  refine⟨f,rest,i.fly,?_⟩;simp only[aak,Bool.and_eq_true,decide_eq_true_eq]at e;obtain⟨⟨n,G⟩,e⟩:=e
  by_cases c:fO f.k=true
  ·rw[if_pos c]at e
   have r:=of_decide_eq_true e;have a:=i.lead n r p c;have k:=i.reach (show f.t.toNat<zs.length by rw[r];simpa using p);refine⟨?_,?_⟩
   ·have:mB zs d s ⟨b,j,f::rest,g⟩=⟨b,(aL zs s d 0 j f).1,rest++dm s d 0 zs.length (aL zs s d 0 j f).2,g⟩:=by
     unfold mB;simp only;rw[if_pos c]
    rw[this];exact⟨a.xi.mono (by omega),a.l,a.r,a.ec,a.ev,a.st,a.ld,a.br,a.fly⟩
   ·have:(mB zs d s ⟨b,j,f::rest,g⟩).evs=g:=by
     unfold mB;simp only;rw[if_pos c]
    rw[this];unfold aX;rw[if_pos k];unfold de;rw[if_pos c];show(dH zs (ay V 0) f.t.toNat f.d.toNat f).evs=g;unfold dH
    split<;>exact q
  ·rw[if_neg c]at e
   simp only[Bool.and_eq_true,decide_eq_true_eq,Bool.or_eq_true,Bool.not_eq_true']at e;obtain⟨H,w⟩:=e;have y:fO f.k=false:=by simpa using c
   have z:f.t=(f.t.toNat:Int):=by omega
   have l:f.t.toNat<zs.length:=by omega
   have a:=i.site (by omega) n z l y (fun t=>by
    rcases w with o|o
    ·rw[o]at t;cases t
    ·exact o)
   have k:=i.reach l;have A:mB zs d s ⟨b,j,f::rest,g⟩=⟨upd b f.t.toNat (aO (b f.t.toNat) false f.k.toNat f.a.toNat f.ph.toNat).st,j,rest++(if(aO (b f.t.toNat) false f.k.toNat f.a.toNat f.ph.toNat).k≠0 then[ct f.t.toNat f (aO (b f.t.toNat) false f.k.toNat f.a.toNat f.ph.toNat)]else[]),noteE g f.t.toNat d (b f.t.toNat).ph (aO (b f.t.toNat) false f.k.toNat f.a.toNat f.ph.toNat).st.ph⟩:=by
    unfold mB;simp only;rw[if_neg c]
   rw[A];refine⟨a,?_⟩;have B:f.d.toNat=d:=by rw[n];exact Int.toNat_natCast d
   have C:(aX zs V 0 f).evs=noteE V.evs f.t.toNat d (stN (V.nd f.t.toNat) d).ph (stN (aM (V.nd f.t.toNat) f) d).ph:=by
    unfold aX;rw[if_pos k];unfold de;rw[if_neg c];show noteE V.evs f.t.toNat f.d.toNat (stN (V.nd f.t.toNat) f.d.toNat).ph (stN (aM (V.nd f.t.toNat) f) f.d.toNat).ph=_;rw[B]
   have D:stN (aM (V.nd f.t.toNat) f) d=(aO (b f.t.toNat) false f.k.toNat f.a.toNat f.ph.toNat).st:=by
    have u:=a.st f.t.toNat l;have E:(aX zs V 0 f).nd f.t.toNat=aM (V.nd f.t.toNat) f:=by
     unfold aX;rw[if_pos k];unfold de;rw[if_neg c];show(aA (ay V 0) f.t.toNat (aM ((ay V 0).nd f.t.toNat) f)).nd f.t.toNat=_;unfold aA;simp only[if_true];rfl
    rw[E]at u;rw[u];unfold upd;rw[if_pos rfl]
   rw[C,D,i.st _ l,q]
theorem yg:∀(k:Nat) (V:PX) (m:Nat) (x:SimO),SimW zs d s V m x->m+2*k<900000->s<zs.length->qA zs d s k x=true->(kN zs d s k x).fly=[]->∀K,k<=K->ej zs K V=k∧SimW zs d s (dc zs K V) (m+2*k) (kN zs d s k x)
 | 0,V,m,x,h,_,_,_,e,K,_=>by
  have b:V.fly=[]:=h.1.fly.trans e;rw[py b];have:dc zs K V=V:=by
   cases K with
   | zero=>rfl
   | succ K=>show(match V.fly with|[]=>V|c::_=>dc zs K (aX zs V 0 c))=V;rw[b]
  rw[this];exact⟨rfl,h⟩
 | k+1,V,m,x,h,o,g,f,e,K,p=>by
  obtain⟨a,rfl⟩:∃a,K=a+1:=⟨K-1,by omega⟩;simp only[qA,Bool.and_eq_true]at f;obtain⟨c,rest,b,i⟩:=h.step (by omega) g f.1;have j:dc zs (a+1) V=dc zs a (aX zs V 0 c):=by
   show(match V.fly with|[]=>V|c::_=>dc zs a (aX zs V 0 c))=_
   rw[b]
  obtain⟨l,n⟩:=yg k _ (m+2) _ i (by omega) g f.2 e a (by omega);rw[nV b,j,l];exact⟨rfl,by rw[show m+2*(k+1)=m+2+2*k by omega];exact n⟩
end
def fx:SimO:=⟨fun _=>⟨0,0,0⟩,P0,[sf 0 3 0,sf 0 3 1],[]⟩
theorem aia:qA [1,1] 3 0 10 fx=true:=by decide +kernel
theorem ags:(kN [1,1] 3 0 10 fx).fly=[]:=by
 have:(kN [1,1] 3 0 10 fx).fly.length=0:=by decide +kernel
 exact List.length_eq_zero_iff.1 this
theorem agW:((kN [1,1] 3 0 10 fx).evs.map fun e=>(e.s,e.d,e.p))=[(0,3,2),(1,3,2)]:=by decide +kernel
theorem aiw:((kN [1,1] 3 0 10 fx).st 1).ph=2∧((kN [1,1] 3 0 10 fx).st 1).pr=0∧((kN [1,1] 3 0 10 fx).st 1).at_=0:=by decide +kernel
theorem abd(n m:Nat):NI n (jc 512) m:=by
 have c:∀a,a<6->dlN (jc 512) a=(0,St.zero):=fun a b=>by
  show au (bQ 512).data.toList a=_;rw[iA 512 a (by omega)]
 refine⟨fun a b=>by rw[c a b];exact⟨by decide,by decide,by decide⟩,fun a b=>by rw[c a b];exact Nat.zero_le _,dk 512,fun _=>rfl,by decide,by decide,(fun a e d=>by cases d)⟩
theorem ah8{zs:List Int}(a:bT zs=0):XI zs dM 0:=⟨a,fun c _=>abd zs.length 0,(fun d b=>by cases b),aj,Nat.zero_le _⟩
theorem adJ:XI [1,1] (dP [1,1] dM 0 3) 1:=by
 have b:XI [1,1] dM 0:=ah8 (by decide);have c:NI 2 (aC (dM.nd 0) 3 (0,P0)) 0:=(abd 2 0).putLead (by decide) (by decide) (by decide) (by decide) ⟨by decide,by decide,by decide⟩;have d:=(b.node (i:=0) c aj).send (L:=toL 0 3 1 0 0 2) (fun f a=>by
  have e:toL 0 3 1 0 0 2=[sf 0 3 0,sf 0 3 1]:=by rw[oC];rfl
  rw[e]at a;rcases List.mem_cons.1 a with rfl|a
  ·exact⟨by decide,by decide,by decide,by decide,by decide⟩
  ·rcases List.mem_cons.1 a with rfl|a
   ·exact⟨by decide,by decide,by decide,by decide,by decide⟩
   ·cases a) (by rw[oC];decide)
 exact d
theorem jF:ej [1,1] 3000 (dP [1,1] dM 0 3)=10∧(dc [1,1] 3000 (dP [1,1] dM 0 3)).evs=[⟨0,3,2⟩,⟨1,3,2⟩]∧stN ((dc [1,1] 3000 (dP [1,1] dM 0 3)).nd 1) 3=⟨2,0,0⟩∧eO 2 dM 0 3=0:=by
 have c:RfI [1,1] dM 3 (fun _=>false):=RfI.new (by decide);have e:=c.cw adJ 2;have f:SimW [1,1] 3 0 (dP [1,1] dM 0 3) 1 fx:=⟨e,rfl⟩;obtain⟨g,h,i⟩:=yg 10 _ 1 fx f (by omega) (by decide) aia ags 3000 (by omega);refine⟨g,?_,?_,c.beg (by decide) (by decide)⟩
 ·rw[i]
  have:=agW
  revert this
  generalize (kN [1,1] 3 0 10 fx).evs=d;intro b;have j:d.length=2:=by have:=congrArg List.length b;simpa using this
  match d,j,b with
  | [a,k],_,b =>
   simp only[List.map_cons,List.map_nil,List.cons.injEq,Prod.mk.injEq,and_true]at b;obtain⟨⟨m,n,o⟩,p,q,r⟩:=b;obtain⟨s,t,u⟩:=a;obtain⟨v,w,x⟩:=k
   simp_all
 ·rw[h.st 1 (by decide)]
  have:=aiw
  revert this
  generalize (kN [1,1] 3 0 10 fx).st 1=l;rintro⟨y,z,A⟩;obtain⟨B,C,D⟩:=l
  simp_all
end Go.Proofs.YtaehdgemkafinaaGreatDoor
