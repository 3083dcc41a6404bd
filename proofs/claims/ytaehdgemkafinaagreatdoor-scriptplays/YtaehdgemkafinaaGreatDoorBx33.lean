/-
  On the way to SPlaysProof: L9.
-/
import Derived.Test.YtaehdgemkafinaaGreatDoorBx30
set_option maxHeartbeats 8000000
set_option maxRecDepth 100000
namespace Go.Proofs.YtaehdgemkafinaaGreatDoor
open Go.RowKit
open Go.Proofs.Tryz
def InH(lb:Nat)(vh:Value)(k:Nat):Prop:=k=lb∨vh.ownBlock=some k
def pR(zs:List Int)(id:Nat)(deal att:Int)(st:ByteArray)(k:Int)(hs:List F9)(ph:Int):List F9×ByteArray×Int×List F9×Int:=
 if k=2 then(if hs.length=zs.length then(dz id deal 5 att 4 true zs.length,stB 1,6,[],4)else([],st,k,hs,ph))
 else if bn zs (ck hs zs.length)=false then([],st,k,hs,ph)
 else if k=6 then(dz id deal 7 att (eN ph) true zs.length,stB 2,0,hs,ph)
 else if(gc (bS hs zs.length)).2=true then(dz id deal 7 att (gc (bS hs zs.length)).1 true zs.length,stB 2,0,hs,ph)
 else(dz id deal 5 att (gc (bS hs zs.length)).1 true zs.length,stB 1,6,[],(gc (bS hs zs.length)).1)
structure HY (w W:World) (lb id n cap:Nat) (deal att:Int) (aw:Option Addr) (st:ByteArray) (k:Int) (vh v7:Value) (hs':List F9) (ph sn:Int) (f:Nat) (p1 p2 p3:Int):Prop where
 row:W.heap[lb]?=some (.cells (rlC id deal att (.slice aw n cap) st k vh ph sn) 121 (0,0))
 own:W.ownsRow (lb+1) 125 9 v7 hs'.length (am hs')
 fr:FIn w W f id deal k att true p1 p2 p3
 kp:Kept (InH lb vh) w W
 nb:∀g,v7.ownBlock=some g->vh.ownBlock=some g∨w.heap.size<=g
theorem HY.made{w X c g:World}{lb id n cap:Nat}{deal att:Int}{aw:Option Addr}{st:ByteArray}{k:Int}{vh i:Value}{j l:List F9}{ph r:Int}{f:Nat}{s t u:Int}(h:HL w X lb id n cap deal att aw st k vh j ph r f k true s t u)(v:Below X.heap.size X c)(y:g.ownsRow (lb+1) 125 9 i l.length (am l))(d:c.grownBy g vh.ownBlock)(z:i.ownBlock=vh.ownBlock∨i.ownBlock=some c.heap.size)(A:w.ownsRow (lb+1) 125 9 vh j.length (am j)):HY w g lb id n cap deal att aw st k vh i l ph r f s t u:=by
 have e:=h.later v;have F:X.heap.size<=c.heap.size:=v.size;have x:=A.lt;have m:∀b,b<c.heap.size->vh.ownBlock≠some b->g.heap[b]?=c.heap[b]?:=fun b o B=>d.block b o (fun a=>B a.symm)
 refine⟨?_,y,⟨?_⟩,?_,?_⟩
 ·rw[m lb (ah e.ld.row) (fun a=>by have:=(x lb a).1;omega)];exact e.ld.row
 ·rw[m w.heap.size (ah e.fr.row) (fun a=>by have:=(x _ a).2;omega)];exact e.fr.row
 ·have C:Kept (InH lb vh) w c:=e.kp.mono (fun b a=>.inl a)
  exact C.trans ⟨d.os,d.tape,d.output,d.size,fun b o D=>m b o (fun a=>D (.inr a))⟩
 ·intro E p
  rcases z with q|q
  ·exact .inl (q ▸ p)
  ·rw[q]at p
   have a:c.heap.size=E:=by simpa using p
   have:=h.kp.size;exact .inr (by omega)
theorem zP{a b:List F9}{x:F9}(h:a++[x]=b):b.length=a.length+1∧am b=am a++f9L x:=by
 subst h;exact⟨by simp,by rw[cE];rfl⟩
structure HZ (w W:World) (lb id n cap:Nat) (deal att:Int) (aw:Option Addr) (st:ByteArray) (k:Int) (vh v7:Value) (hs':List F9) (ph sn:Int) (f:Nat) (p1 p2 p3:Int):Prop where
 ld:RLd W lb id n cap deal att aw st k v7 hs' ph sn
 fr:FIn w W f id deal k att true p1 p2 p3
 kp:Kept (InH lb vh) w W
 nb:∀g,v7.ownBlock=some g->vh.ownBlock=some g∨w.heap.size<=g
theorem HZ.later{w W V:World}{lb id n cap:Nat}{deal att:Int}{aw:Option Addr}{st:ByteArray}{k:Int}{vh b:Value}{c:List F9}{ph d:Int}{f:Nat}{e g i:Int}(h:HZ w W lb id n cap deal att aw st k vh b c ph d f e g i)(a:Below W.heap.size W V):HZ w V lb id n cap deal att aw st k vh b c ph d f e g i:=
 ⟨h.ld.later a,h.fr.later a,h.kp.trans (Kept.of_below a),h.nb⟩
theorem HY.stored{w W:World}{lb id n cap:Nat}{deal att:Int}{aw:Option Addr}{st:ByteArray}{k:Int}{vh a:Value}{d:List F9}{ph e:Int}{f:Nat}{g i j:Int}(h:HY w W lb id n cap deal att aw st k vh a d ph e f g i j)(t:lb<w.heap.size):HZ w (W.setCell ⟨lb,6,none⟩ a) lb id n cap deal att aw st k vh a d ph e f g i j:=by
 have b:Kept (In1 lb) W (W.setCell ⟨lb,6,none⟩ a):=(Kept.refl _ W).set1 6 a;refine⟨⟨?_,?_⟩,⟨b.row h.fr.row (fun c=>by have:w.heap.size=lb:=c;omega)⟩,h.kp.trans (b.mono fun u m=>.inl m),h.nb⟩
 ·rw[aE W lb 6 _ _ _ h.row];rfl
 ·refine⟨h.own.1,?_⟩
  rcases h.own.2 with o|⟨l,p,q,rfl,r,s,rest⟩
  ·exact .inl o
  ·exact .inr ⟨l,p,q,rfl,r,b.row s (fun c=>by have:l=lb:=c;omega),rest⟩
section
variable {w:World} {lb id n cap:Nat} {deal att:Int} {st:ByteArray} {vh:Value} {hs:List F9} {ph seen:Int}
theorem yI(vb vo:Nat)(zs:List Int)(f:Nat)(k:Int)(B r C t:Int)(R:List F9×ByteArray×Int×List F9×Int)(a:List F9)(e8:hs++[⟨f,id,deal,k,att,true,B,r,C⟩]=a)(h:RLd w lb id n cap deal att (some ⟨vb,vo,none⟩) st k vh hs ph seen)(hl:hs.length<=60)(hk:k=2∨k=4∨k=6)(hf:f<n)(u:bi hs f=none)(y:zs.length=n)(he:bT zs=0)(e9:∀i,i<zs.length->w.cell? ⟨vb,vo+i,none⟩=some (.int .i64 (zs.getD i 0)))(h5:vb≠lb)(h6:vh.ownBlock≠some vb)(f0:(if k≠2∧seen<r then r else seen)=t)(hR:pR zs id deal att st k a ph=R):Calls prog 88 #[.pointer (some ⟨lb,0,none⟩),frV f id deal k att true B r C] w fun e w'=>∃v b,e=.returned v∧IsFr w' v R.1∧RLd w' lb id n cap deal att (some ⟨vb,vo,none⟩) R.2.1 R.2.2.1 b R.2.2.2.1 R.2.2.2.2 t∧Kept (InH lb vh) w w'∧∀g,b.ownBlock=some g->vh.ownBlock=some g∨w.heap.size<=g:=by
 have k5:n<=7:=by rw[<-y];exact(bp he).2.1
 have f1:Hid (eM zs zs.length):=(bp he).2.2.1;have h7:=hid e9;have HR:=hid hR;have d3:=hid h.own;have d4:=hid (zP e8);clear e9 hR e8;obtain⟨a1,HW⟩:=nmd (w.alloc (.cells #[iV (f:Int),iV (id:Int),iV deal,iV k,iV att,.bool true,iV B,iV r,iV C] 125));have HB:Hid (bW w a1):=by rw[<-HW.out];exact aD
 have f2:lb<w.heap.size:=ah h.row;have HI:Hid (HL w a1 lb id n cap deal att (some ⟨vb,vo,none⟩) st k vh hs ph seen f k true B r C):=⟨h.later HB,by rw[<-HW.out];exact⟨aB w _⟩,Kept.of_below HB⟩;obtain⟨D,E,F,G,H,I,J,K,L⟩:=bH HI.fr.row;obtain⟨c0,c1,c2,c3,c4,c5,z,c7,c8⟩:=HI.ld.cells;have hW:=HW.out;have h8:(k==0)=false:=beq_eq_false_iff_ne.2 (by omega);have i0:¬(n:Int)<=(f:Int):=by omega
 have HX:=hid u;clear h u
 go_enter func88,ntmps88
 go_wp2_with fail
 go_quiet (fail)
 have a2:=hid (aJ (Below.refl a1.heap.size a1) nq);generalize a1.drewN nq=k6 at a2 ⊢;have b8:=hid (HI.later a2);clear D E F G H I J K L c0 c1 c2 c3 c4 c5 z c7 c8 HI a2 hW HW HB h8 i0;obtain⟨D,E,F,G,H,I,J,K,L⟩:=bH b8.fr.row
 go_wp2_with fail
 refine(kg lb id n cap deal att (some ⟨vb,vo,none⟩) st k vh hs ph seen f _ b8.ld (by omega)).mono ?_;rw[HX.out,pU];simp only[Option.isSome];rintro e x ⟨rfl,W⟩;have b0:=hid ((b8.later W).later (aF.alloc aj (.cells #[iV 0,iV 0,iV 0,iV 0,iV 0,.bool false,iV 0,iV 0,iV 0] 125)));clear W;obtain⟨b9,d5⟩:=nmd (x.alloc (.cells #[iV 0,iV 0,iV 0,iV 0,iV 0,.bool false,iV 0,iV 0,iV 0] 125));rw[d5.out]at b0;clear D E F G H I J K L b8;obtain⟨D,E,F,G,H,I,J,K,L⟩:=bH b0.fr.row;obtain⟨c0,c1,c2,c3,c4,c5,z,c7,c8⟩:=b0.ld.cells;have z8:=b0.ld.fz 8;have f3:=hid f0;clear f0;obtain⟨bb,b4⟩:∃i1:Bool,Hid (decide (k≠2∧seen<r)=i1):=⟨_,hid (Eq.refl _)⟩
 go_upto_region 13 with fail
 rw[d5.out]
 go_cut [92]from 16 (fun i2 wx=>i2=.bool bb∧bW b9 wx)
 case first =>
  as_aux_lemma =>
   by_cases g1:k=2
   ·have hb:bb=false:=by rw[<-b4.out];exact aS (fun a3=>a3.1 g1)
    subst hb;subst g1
    go_quiet (fail)
    go_wp2_with fail
    go_meet
    exact⟨rfl,aJ aF _⟩
   ·have f4:(k != 2)=true:=bne_iff_ne.2 g1
    by_cases g2:seen<r
    ·have hb:bb=true:=by rw[<-b4.out];exact bo ⟨g1,g2⟩
     subst hb
     go_quiet (fail)
     go_wp2_with fail
     go_meet
     exact⟨rfl,aJ aF _⟩
    ·have hb:bb=false:=by rw[<-b4.out];exact aS (fun a3=>g2 a3.2)
     subst hb
     go_quiet (fail)
     go_wp2_with fail
     go_meet
     exact⟨rfl,aJ aF _⟩
 obtain⟨rfl,f5⟩:=hcut
 rename_i wc
 have b1:=hid (b0.later f5);clear f5 D E F G H I J K L c0 c1 c2 c3 c4 c5 z c7 c8 z8 b0 d5;generalize wc=X2 at *
 obtain⟨D,E,F,G,H,I,J,K,L⟩:=bH b1.fr.row;obtain⟨c0,c1,c2,c3,c4,c5,z,c7,c8⟩:=b1.ld.cells;have z8:=b1.ld.fz 8
 go_upto_if 92 with fail
 go_cut []from 16 (fun wx=>HL w wx lb id n cap deal att (some ⟨vb,vo,none⟩) st k vh hs ph t f k true B r C)
 case first =>
  as_aux_lemma =>
   cases bb with
   | true =>
    have hq:=cK b4;have d6:Hid (t=r):=by unfold Hid;rw[<-f3.out];exact af hq
    go_wp2_with fail
    go_meet
    rw[d6.out];exact b1.setSeen f2 r
   | false =>
    have hq:=of_decide_eq_false b4;have d6:Hid (t=seen):=by unfold Hid;rw[<-f3.out];exact aa hq
    go_wp2_with fail
    go_meet
    rw[d6.out];exact b1
 rename_i wc
 have a4:=hid hcut;clear hcut b1 D E F G H I J K L c0 c1 c2 c3 c4 c5 z c7 c8 z8;generalize wc=X3 at *
 obtain⟨D,E,F,G,H,I,J,K,L⟩:=bH a4.fr.row;obtain⟨c0,c1,c2,c3,c4,c5,z,c7,c8⟩:=a4.ld.cells;obtain⟨k7,hi,k8,k9,l0⟩:=info_parts Tryz.infoFr;have f6:lb<X3.heap.size:=ah a4.ld.row
 go_upto_if 106 with fail
 iterate 3 go_step
 go_upto_if 111 with fail
 iterate 5 go_step
 go_cut [7]from 16 (fun s7 wx=>HY w wx lb id n cap deal att (some ⟨vb,vo,none⟩) st k vh s7 a ph t f B r C)
 case first =>
  as_aux_lemma =>
   obtain⟨s,a5⟩:=nmd (X3.drew.alloc (.cells (f9L ⟨f,id,deal,k,att,true,B,r,C⟩).toArray 125));have a2:Hid (bW X3 s):=by rw[<-a5.out];exact aF.drew.alloc aj _
   have i3:Hid (∀a6 a0 w',w'.ownsRow (lb+1) 125 9 (.slice a6 (hs.length+1) a0) (hs.length+1) (am hs++f9L ⟨f,id,deal,k,att,true,B,r,C⟩)->s.grownBy w' vh.ownBlock->((Value.slice a6 (hs.length+1) a0).ownBlock=vh.ownBlock∨(Value.slice a6 (hs.length+1) a0).ownBlock=some s.heap.size)->HY w w' lb id n cap deal att (some ⟨vb,vo,none⟩) st k vh (.slice a6 (hs.length+1) a0) a ph t f B r C):=by
    intro a6 a0 w' X U V;exact HY.made a4 a2 (by rw[d4.out.1,d4.out.2];exact X) U V d3
   refine aje _ X3 lb w.heap.size vh ⟨f,id,deal,k,att,true,B,r,C⟩ hs.length (am hs) (lb+1) (by simp) rfl rfl (by unfold gY;exact⟨z,D,E,F,G,H,I,J,K,L⟩) f6 (ah a4.fr.row) (fun e=>by have:=(d3.lt lb e).1;omega) (fun e=>by have:=(d3.lt _ e).2;omega) a4.ld.own (by omega) f6 (fun _ _ _ _ _ h=>h) ?_;intro a' a6 a0 w' X U V i4;rw[a5.out]at U V;have i5:=hid (i3 a6 a0 w' X U V);subst i4;clear X U V;simp only[Act.put,List.setIfInBounds_toArray,List.set_cons_zero,List.set_cons_succ]
   go_wp2_with fail
   go_meet
   exact i5
 rename_i wc
 have c6:=hid hcut;clear hcut a4 D E F G H I J K L c0 c1 c2 c3 c4 c5 z c7 c8;generalize wc=X4 at *
 have z:X4.cell? ⟨lb,6,none⟩=some vh:=by rw[ai c6.out.row];rfl
 have z6:=aK X4 lb 6 _ _ c6.row;obtain⟨c9,d0,i6⟩:∃ad cp,u7=Value.slice ad a.length cp:=by
  rcases c6.own.2 with⟨e,i7⟩|⟨g',a0,l1,e,-⟩
  ·exact⟨none,0,by rw[e,i7]⟩
  ·exact⟨_,_,e⟩
 subst i6;obtain⟨p,f7⟩:=nmd (X4.setCell ⟨lb,6,none⟩ (.slice c9 a.length d0));have i8:Hid (HZ w p lb id n cap deal att (some ⟨vb,vo,none⟩) st k vh (.slice c9 a.length d0) a ph t f B r C):=by rw[<-f7.out];exact c6.stored f2
 have l2:=f7.out;have l3:a.length<=61:=by rw[d4.out.1];omega
 have H0:Hid (p.ownsRow p.heap.size 80 3 (.slice none 0 0) (bS a 0).length (cV (bS a 0))∧bW p p):=⟨World.ownsRow_nil _ _ _ _,aF⟩
 go_wp2_with fail
 clear z z6
 go_loopw [8,9,10] (fun s8 s9 i9 wr=>∃i:Nat,i<=n∧s8=iV (ck a i)∧i9=iV (i:Int)∧Hid (wr.ownsRow p.heap.size 80 3 s9 (bS a i).length (cV (bS a i))∧bW p wr)) (fun _ _ i _=>n-(intOf i).toNat)
 case atStart=>exact⟨0,Nat.zero_le _,rfl,rfl,H0⟩
 case round =>
  obtain⟨i,hi,rfl,rfl,a7⟩:=hrel;have A:=hid (i8.later a7.2);obtain⟨c0,c1,c2,c3,c4,c5,z,c7,c8⟩:=A.ld.cells;have j0:=kR a i
  by_cases l4:i<n
  ·have j1:(i:Int)<(n:Int):=by omega
   have d1:=hid (kg lb id n cap deal att (some ⟨vb,vo,none⟩) st k (.slice c9 a.length d0) a ph t (i:Int) wr A.ld (by omega))
   cases b2:bi a (i:Int)with
   | none =>
    rw[b2,pU]at d1;have b5:Hid (ck a (i+1)=ck a i∧bS a (i+1)=bS a i):=by
     constructor
     ·show(if(bi a (i:Int)).isSome=true then _ else _)=_
      rw[b2];rfl
     ·show(match bi a (i:Int)with|none=>_|some d7=>_)=_
      rw[b2]
    go_wp2_with fail
    refine d1.mono ?_;simp only[Option.isSome];rintro e x ⟨rfl,W⟩;have f8:Hid (bW wr (x.alloc (.cells #[iV 0,iV 0,iV 0,iV 0,iV 0,.bool false,iV 0,iV 0,iV 0] 125))):=W.alloc W.size _;have HN:Hid ((x.alloc (.cells #[iV 0,iV 0,iV 0,iV 0,iV 0,.bool false,iV 0,iV 0,iV 0] 125)).ownsRow p.heap.size 80 3 u9 (bS a (i+1)).length (cV (bS a (i+1)))∧bW p (x.alloc (.cells #[iV 0,iV 0,iV 0,iV 0,iV 0,.bool false,iV 0,iV 0,iV 0] 125))):=by
     rw[b5.out.2];exact⟨dC a7.1 f8 aj,ao a7.2 f8⟩
    have d8:=hid b5.1;clear W
    go_wp2_with fail
    go_roundw
    case rel=>exact⟨i+1,by omega,by rw[d8.out],by go_num,HN⟩
    case measure=>simp[intOf];omega
   | some d7 =>
    obtain⟨yf,yt,yd,yk,ya,yy,Y,Z,yq⟩:=d7;rw[b2,show frO (some ⟨yf,yt,yd,yk,ya,yy,Y,Z,yq⟩)=frV yf yt yd yk ya yy Y Z yq from rfl]at d1;have b5:Hid (ck a (i+1)=ck a i+2^i∧bS a (i+1)=bS a i++[⟨Y,Z,yq⟩]):=by
     constructor
     ·show(if(bi a (i:Int)).isSome=true then _ else _)=_
      rw[b2];rfl
     ·show(match bi a (i:Int)with|none=>_|some d7=>_)=_
      rw[b2]
    have f9:(2:Int)^i<=64:=by
     have h1:(2:Nat)^i<=2^6:=Nat.pow_le_pow_right (by decide) (by omega);have h2:((2^i:Nat):Int)<=((2^6:Nat):Int):=by exact_mod_cast h1
     simpa using h2
    have j2:(0:Int)<=2^i:=by
     have:(0:Int)<=((2^i:Nat):Int):=Int.natCast_nonneg _
     simpa using this
    obtain⟨M,N⟩:=nmd (ck a i);obtain⟨b6,d2⟩:=nmd ((2:Int)^i);rw[N.out,d2.out]at j0;rw[d2.out]at f9 j2;have l5:IntKind.i64.wrap (M+b6)=M+b6:=by rw[IntKind.wrap_i64];omega
    have j3:=hid (rE i);rw[N.out]
    go_wp2_with fail
    refine d1.mono ?_;simp only[Option.isSome];rintro e x ⟨rfl,W⟩;obtain⟨s,a5⟩:=nmd (x.alloc (.cells #[iV yf,iV yt,iV yd,iV yk,iV ya,.bool yy,iV Y,iV Z,iV yq] 125));have a2:Hid (bW x s):=by rw[<-a5.out];exact aD
    have j4:Hid (s.heap[x.heap.size]?=some (.cells #[iV yf,iV yt,iV yd,iV yk,iV ya,.bool yy,iV Y,iV Z,iV yq] 125 (0,0))):=by rw[<-a5.out];exact aB x _
    obtain⟨q0,X,U,V,q4,q5,q6,q7,q8⟩:=bH j4;have l6:=a5.out;have j5:=hid (ao W a2);obtain⟨W3,d9⟩:=nmd (s.alloc (.cells #[iV Y,iV Z,iV yq] 80));have j6:Hid (bW s W3):=by rw[<-d9.out];exact aD
    have j7:s.heap.size=x.heap.size+1:=by rw[<-a5.out];simp
    have e0:Hid (SL W3 (some ⟨x.heap.size+1,0,none⟩) [⟨Y,Z,yq⟩]):=fun a8 hj=>by
     rw[<-j7];obtain rfl:a8=0:=by simp at hj;omega
     have e1:W3.heap[s.heap.size]?=some (.cells #[iV Y,iV Z,iV yq] 80 (0,0)):=by rw[<-d9.out];exact aB s _
     exact⟨_,_,rfl,by rw[ai e1];rfl,by rw[ai e1];rfl,by rw[ai e1];rfl⟩
    have e2:=hid (ao j5 j6);have j8:=hid (dC a7.1 e2 aj);have j9:p.heap.size<=W3.heap.size:=bc a7.2.size e2.size;have k0:=nJ a i;have l7:=d9.out;clear W
    go_wp2_with fail
    refine(j3 _ (by omega)).mono ?_;rintro e w4 ⟨rfl,u⟩;subst w4;rw[d2.out]
    go_wp2_with (at_builtin;refine qb rfl _ _ rfl p.heap.size _ (bS a i) rfl j8 (some ⟨x.heap.size+1,0,none⟩) 1 1 [⟨Y,Z,yq⟩] rfl rfl (fun a3=>by cases a3) e0 (by omega) (by simp) j9 ?_)
    intro v' w5 g0 g3;have HN:Hid (w5.ownsRow p.heap.size 80 3 v' (bS a (i+1)).length (cV (bS a (i+1)))∧bW p w5):=by
     rw[b5.out.2,aR];exact⟨g0,(ao a7.2 e2).trans g3⟩
    have d8:Hid (M+b6=ck a (i+1)):=by rw[b5.out.1,N.out,d2.out];exact rfl
    clear g0 g3
    go_wp2_with fail
    go_roundw
    case rel=>exact⟨i+1,by omega,by rw[d8.out],by go_num,HN⟩
    case measure=>simp[intOf];omega
  ·obtain rfl:i=n:=by omega
   have j1:¬((i:Int)<(i:Int)):=by omega
   obtain⟨k1,k2,k3,-,g4⟩:=SL.owned a7.1;subst k3;have e0:=hid g4;have k0:=nJ a i;obtain⟨D,E,F,G,H,I,J,K,L⟩:=bH A.fr.row;obtain⟨nh,e3⟩:=nmd (a.length);have g5:Hid (∀w',bW wr w'->R=([],st,k,a,ph)->∃b,IsFr w' (.slice none 0 0) R.1∧RLd w' lb id i cap deal att (some ⟨vb,vo,none⟩) R.2.1 R.2.2.1 b R.2.2.2.1 R.2.2.2.2 t∧Kept (InH lb vh) w w'∧∀g,b.ownBlock=some g->vh.ownBlock=some g∨w.heap.size<=g):=by
    intro w' hb hR;rw[hR];have h9:=A.later hb;exact⟨_,IsFr.zero w',h9.ld,h9.kp,h9.nb⟩
   have g6:Hid (∀m v w',R=(dz id deal 7 att m true i,stB 2,0,a,ph)->IsFr w' v (dz id deal 7 att m true i)->RLd w' lb id i cap deal att (some ⟨vb,vo,none⟩) (stB 2) 0 (.slice c9 a.length d0) a ph t->Kept (In1 lb) wr w'->∃b,IsFr w' v R.1∧RLd w' lb id i cap deal att (some ⟨vb,vo,none⟩) R.2.1 R.2.2.1 b R.2.2.2.1 R.2.2.2.2 t∧Kept (InH lb vh) w w'∧∀g,b.ownBlock=some g->vh.ownBlock=some g∨w.heap.size<=g):=by
    intro m v w' hR X U V;rw[hR];exact⟨_,X,U,A.kp.trans (V.mono fun a3 u=>.inl u),A.nb⟩
   have g7:Hid (∀m v w',R=(dz id deal 5 att m true i,stB 1,6,[],m)->IsFr w' v (dz id deal 5 att m true i)->RLd w' lb id i cap deal att (some ⟨vb,vo,none⟩) (stB 1) 6 (.slice none 0 0) [] m t->Kept (In1 lb) wr w'->∃b,IsFr w' v R.1∧RLd w' lb id i cap deal att (some ⟨vb,vo,none⟩) R.2.1 R.2.2.1 b R.2.2.2.1 R.2.2.2.2 t∧Kept (InH lb vh) w w'∧∀g,b.ownBlock=some g->vh.ownBlock=some g∨w.heap.size<=g):=by
    intro m v w' hR X U V;rw[hR];exact⟨_,X,U,A.kp.trans (V.mono fun a3 u=>.inl u),fun g hg=>by cases hg⟩
   rw[e3.out]at z;clear g4;rcases hk with rfl|k4
   ·by_cases e4:nh=i
    ·have O:Hid (R=(dz id deal 5 att 4 true i,stB 1,6,[],4)):=by
      rw[<-HR.out];show(if(2:Int)=2 then(if a.length=zs.length then _ else _)else _)=_;rw[af rfl,af (by rw[e3.out,y];exact e4),y]
     have f4:((nh:Int)==(i:Int))=true:=by rw[e4];exact beq_self_eq_true _
     go_wp2_with fail
     go_quiet (fail)
     have g8:=hid (mR 4 (A.later (aJ (Below.refl wr.heap.size wr) nq)).ld (by omega));have g9:=hid (aJ (Below.refl wr.heap.size wr) nq);generalize wr.drewN nq=wq at g8 g9 ⊢
     go_wp2_with fail
     refine g8.mono ?_;rintro e o ⟨q,rfl,P,Q,S⟩;have T:=hid (g7 4 q o O P Q ((Kept.of_below g9).trans S));clear P Q S
     go_wp2_with fail
     go_ret
     obtain⟨b,c,d,j,l⟩:=T.out
     first|exact⟨q,b,rfl,c,d,j,l⟩|exact⟨q,rfl,c,b,d,j,l⟩|exact⟨q,rfl,b,c,d,j,l⟩|exact⟨rfl,b,c,d,j,l⟩|exact⟨c,b,d,j,l⟩|exact⟨b,c,d,j,l⟩
    ·have O:Hid (R=([],st,2,a,ph)):=by
      rw[<-HR.out];show(if(2:Int)=2 then(if a.length=zs.length then _ else _)else _)=_;rw[af rfl,aa (by rw[e3.out,y];exact e4)]
     have f4:((nh:Int)==(i:Int))=false:=beq_eq_false_iff_ne.2 (by omega)
     go_wp2_with fail
     go_quiet (fail)
     have T:=hid (g5 _ (aJ (Below.refl wr.heap.size wr) nq) O)
     go_wp2_with fail
     go_ret
     obtain⟨b,c,d,j,l⟩:=T.out
     first|exact⟨.slice none 0 0,b,rfl,c,d,j,l⟩|exact⟨.slice none 0 0,rfl,c,b,d,j,l⟩|exact⟨.slice none 0 0,rfl,b,c,d,j,l⟩|exact⟨rfl,b,c,d,j,l⟩|exact⟨c,b,d,j,l⟩|exact⟨b,c,d,j,l⟩
   ·have l8:(k==2)=false:=beq_eq_false_iff_ne.2 (by omega)
    have e5:=kR a i;have f9:(2:Int)^i<=128:=by
     have h1:(2:Nat)^i<=2^7:=Nat.pow_le_pow_right (by decide) (by omega);have h2:((2^i:Nat):Int)<=((2^7:Nat):Int):=by exact_mod_cast h1
     simpa using h2
    have h0:Hid (∀a8,a8<zs.length->wr.cell? ⟨vb,vo+a8,none⟩=some (iV (zs.getD a8 0))):=fun a8 hj=>aI (h7 a8 hj) A.kp (fun e=>by rcases e with e|e;exact h5 e;exact h6 e)
    obtain⟨M,N⟩:=nmd (ck a i);rw[N.out]at e5
    cases b3:bn zs M with
    | false =>
     have a9:=hid (qU vb vo cap zs M false wr (by omega) f1 e5.1 (by omega) h0 b3);rw[y]at a9;have O:Hid (R=([],st,k,a,ph)):=by
      rw[<-HR.out];unfold pR;rw[aa (by omega),af (by rw[y,N.out];exact b3)];exact rfl
     have T:=hid (g5 _ aF O);rw[N.out]
     go_wp2_with fail
     refine a9.mono ?_;rintro e o ⟨rfl,u⟩;subst o
     go_wp2_with fail
     go_ret
     obtain⟨b,c,d,j,l⟩:=T.out
     first|exact⟨.slice none 0 0,b,rfl,c,d,j,l⟩|exact⟨.slice none 0 0,rfl,c,b,d,j,l⟩|exact⟨.slice none 0 0,rfl,b,c,d,j,l⟩|exact⟨rfl,b,c,d,j,l⟩|exact⟨c,b,d,j,l⟩|exact⟨b,c,d,j,l⟩
    | true =>
     have a9:=hid (qU vb vo cap zs M true wr (by omega) f1 e5.1 (by omega) h0 b3);rw[y]at a9;rw[N.out];rcases k4 with rfl|rfl
     ·obtain⟨m,fl,e6⟩:∃m fl,Hid (gc (bS a i)=(m,fl)):=⟨_,_,rfl⟩
      have e7:=hid (wO k1 k2 (bS a i) wr (by omega) e0);rw[e6.out]at e7
      cases fl with
      | true =>
       have O:Hid (R=(dz id deal 7 att m true i,stB 2,0,a,ph)):=by
        rw[<-HR.out];unfold pR;rw[aa (by decide),aa (by rw[y,N.out,b3];decide),aa (by decide),y,e6.out,af rfl];exact rfl
       have b7:=hid (kA m A.ld (by omega))
       go_wp2_with fail
       refine a9.mono ?_;rintro e o ⟨rfl,u⟩;subst o
       go_wp2_with fail
       refine e7.mono ?_;rintro e o ⟨rfl,u⟩;subst o
       go_wp2_with fail
       refine b7.mono ?_;rintro e o ⟨q,rfl,P,Q,S⟩;have T:=hid (g6 m q o O P Q S);clear P Q S
       go_wp2_with fail
       go_ret
       obtain⟨b,c,d,j,l⟩:=T.out
       first|exact⟨q,b,rfl,c,d,j,l⟩|exact⟨q,rfl,c,b,d,j,l⟩|exact⟨q,rfl,b,c,d,j,l⟩|exact⟨rfl,b,c,d,j,l⟩|exact⟨c,b,d,j,l⟩|exact⟨b,c,d,j,l⟩
      | false =>
       have O:Hid (R=(dz id deal 5 att m true i,stB 1,6,[],m)):=by
        rw[<-HR.out];unfold pR;rw[aa (by decide),aa (by rw[y,N.out,b3];decide),aa (by decide),y,e6.out,aa (fun h=>by cases h)];exact rfl
       have b7:=hid (mR m A.ld (by omega))
       go_wp2_with fail
       refine a9.mono ?_;rintro e o ⟨rfl,u⟩;subst o
       go_wp2_with fail
       refine e7.mono ?_;rintro e o ⟨rfl,u⟩;subst o
       go_wp2_with fail
       refine b7.mono ?_;rintro e o ⟨q,rfl,P,Q,S⟩;have T:=hid (g7 m q o O P Q S);clear P Q S
       go_wp2_with fail
       go_ret
       obtain⟨b,c,d,j,l⟩:=T.out
       first|exact⟨q,b,rfl,c,d,j,l⟩|exact⟨q,rfl,c,b,d,j,l⟩|exact⟨q,rfl,b,c,d,j,l⟩|exact⟨rfl,b,c,d,j,l⟩|exact⟨c,b,d,j,l⟩|exact⟨b,c,d,j,l⟩
     ·obtain⟨m,h3⟩:=nmd (eN ph)
      have h4:=hid (aaT ph wr);rw[h3.out]at h4;have O:Hid (R=(dz id deal 7 att m true i,stB 2,0,a,ph)):=by
       rw[<-HR.out];unfold pR;rw[aa (by decide),aa (by rw[y,N.out,b3];decide),af rfl,y,h3.out];exact rfl
      have b7:=hid (kA m A.ld (by omega))
      go_wp2_with fail
      refine a9.mono ?_;rintro e o ⟨rfl,u⟩;subst o
      go_wp2_with fail
      refine h4.mono ?_;rintro e o ⟨rfl,u⟩;subst o
      go_wp2_with fail
      refine b7.mono ?_;rintro e o ⟨q,rfl,P,Q,S⟩;have T:=hid (g6 m q o O P Q S);clear P Q S
      go_wp2_with fail
      go_ret
      obtain⟨b,c,d,j,l⟩:=T.out
      first|exact⟨q,b,rfl,c,d,j,l⟩|exact⟨q,rfl,c,b,d,j,l⟩|exact⟨q,rfl,b,c,d,j,l⟩|exact⟨rfl,b,c,d,j,l⟩|exact⟨c,b,d,j,l⟩|exact⟨b,c,d,j,l⟩
end
end Go.Proofs.YtaehdgemkafinaaGreatDoor
