/-
  On the way to SPlaysProof: VF VG VI VE YC VV.
-/
import Derived.Test.YtaehdgemkafinaaGreatDoorBx20
import Derived.Test.YtaehdgemkafinaaGreatDoorBx16
set_option maxHeartbeats 8000000
set_option maxRecDepth 100000
namespace Go.Proofs.YtaehdgemkafinaaGreatDoor
open Go.RowKit
open Go.Proofs.Tryz
structure Z3 (w W:World) (g:Nat):Prop where
 r:W.heap[g]?=some (.cells #[.int .i64 0,.int .i64 0,.int .i64 0] 80 (0,0))
 b:Below w.heap.size w W
theorem Z3.later{w W a:World}{g:Nat}(h:Z3 w W g)(b:Below W.heap.size W a):Z3 w a g:=⟨(b.block _ (ah h.r)).trans h.r,h.b.trans (b.mono h.b.size)⟩
theorem Z3.cells{w W:World}{g:Nat}(h:Z3 w W g):W.cell? ⟨g,0,none⟩=some (.int .i64 0)∧W.cell? ⟨g,1,none⟩=some (.int .i64 0)∧W.cell? ⟨g,2,none⟩=some (.int .i64 0)∧W.frozen? ⟨g,0,none⟩=false∧W.frozen? ⟨g,1,none⟩=false∧W.frozen? ⟨g,2,none⟩=false:=
 ⟨aG _ _ 0 _ _ _ h.r,aG _ _ 1 _ _ _ h.r,aG _ _ 2 _ _ _ h.r,aK _ _ 0 _ _ h.r,aK _ _ 1 _ _ h.r,aK _ _ 2 _ _ h.r⟩
theorem z3(w:World):Z3 w (w.alloc (.cells #[.int .i64 0,.int .i64 0,.int .i64 0] 80)) w.heap.size:=⟨aB w _,aD⟩
section
variable {w0 w:World} {C:Nat→Nat} {K:NB} {X:XB} {i m:Nat} {zs:List Int} {N:PN} {V:PX} {A:Nat→Addr}
theorem af4(d h1 b c:Nat)(h:ND w0 w C K i zs N m)(k:(N.l != -2)=true)(q:d<6)(l:stN N d=⟨h1,b,c⟩):Calls prog 156 #[.pointer (some ⟨K.nd,0,none⟩),.int .i64 (d:Int)] w fun e w'=>e=.returned (agS h1 b c)∧Below w.heap.size w w':=by
 obtain⟨a,n⟩:=nmd (w.alloc (.cells #[iV 0,iV 0,iV 0] 80));have f:Hid (Z3 w a w.heap.size):=by rw[<-n.out];exact z3 w
 have g:=hid (h.later f.b);obtain⟨t,u,v⟩:=(h.later f.b).way;have r:=hid k;have s:=hid l;have x:=n.out;clear h k l
 go_enter func156,ntmps156
 go_wp2_with fail
 refine(fs K.p K.q N.B N.l a g.sp.jp.pl).mono ?_;rintro e o ⟨rfl,y⟩;subst o;rw[r.out]
 go_wp2_with fail
 refine(ub d h1 b c g.sp.jp.jr g.sp.sr q s).mono ?_;rintro e o ⟨rfl,p⟩;have j:=hid (f.later p);obtain⟨z,B,D,E,F,G⟩:=j.cells;clear p
 go_wp2_with fail
 refine bh (results_cell_row rfl _ _ w.heap.size 80 _ (0,0) _ rfl (ez j.r _ _ _) underlying80 rfl bk) rfl ?_;exact⟨rfl,((j.b.setCell aj _).setCell aj _).setCell aj _⟩
theorem ac6(d h1 b c:Nat)(h:ND w0 w C K i zs N m)(r:Held9 w A)(s:N.B.size=512)(t:(N.l != -2)=false)(E:d<6)(u:stN N d=⟨h1,b,c⟩):Calls prog 156 #[.pointer (some ⟨K.nd,0,none⟩),.int .i64 (d:Int)] w fun e w'=>e=.returned (agS h1 b c)∧Below w.heap.size w w':=by
 obtain⟨f,v⟩:=nmd (w.alloc (.cells #[iV 0,iV 0,iV 0] 80));have k:Hid (Z3 w f w.heap.size):=by rw[<-v.out];exact z3 w
 have x:=hid (h.later k.b);have F:=hid (r.later k.b);obtain⟨S,T,U⟩:=(h.later k.b).way;have G:=hid t;have H:=hid u;have l:=hid s;have W:=v.out;clear h t u r s
 go_enter func156,ntmps156
 go_wp2_with fail
 refine(fs K.p K.q N.B N.l f x.sp.jp.pl).mono ?_;rintro e j ⟨rfl,I⟩;subst j;rw[G.out]
 go_wp2_with (go_at_call 187;refine(yN K.p K.q N.B N.l f x.sp.jp.pl).mono ?_;rintro e j ⟨rfl,I⟩;subst j)
 refine(afg N.B f (by rw[l.out];decide)).mono ?_;rintro e j ⟨rfl,y,n,-⟩;have J:=hid y;have L:=hid (k.later n);have M:=hid (F.later n);clear y n
 go_wp2_with fail
 refine(xH A _ _ N.B (-1) j J M.toE (by rw[l.out];decide) (by rw[l.out];decide) (by decide)).mono ?_;rintro e Y ⟨O,rfl,z,B,-⟩;have P:=hid z;have Q:=hid (L.later B);clear z B
 go_wp2_with fail
 refine(nD O _ d _ false h1 b c _ P E H).mono ?_;rintro e g ⟨rfl,D⟩;have R:=hid (Q.later D);obtain⟨a,o⟩:=nmd (g.alloc (.cells #[iV (h1:Int),iV (b:Int),iV (c:Int)] 80));have Z:=o.out;have p:Hid (Z3 w a w.heap.size):=by rw[<-o.out];exact R.later (aD)
 have q:Hid (a.heap[g.heap.size]?=some (.cells #[iV (h1:Int),iV (b:Int),iV (c:Int)] 80 (0,0))):=by rw[<-o.out];exact aB g _
 obtain⟨d0,d1,d2,z0,z1,z2⟩:=p.cells;have e0:a.cell? ⟨g.heap.size,0,none⟩=some (iV (h1:Int)):=(aG _ _ 0 _ _ _ q);have e1:a.cell? ⟨g.heap.size,1,none⟩=some (iV (b:Int)):=(aG _ _ 1 _ _ _ q);have e2:a.cell? ⟨g.heap.size,2,none⟩=some (iV (c:Int)):=(aG _ _ 2 _ _ _ q);clear D
 go_wp2_with fail
 refine bh (results_cell_row rfl _ _ w.heap.size 80 _ (0,0) _ rfl (ez p.r _ _ _) underlying80 rfl bk) rfl ?_;exact⟨rfl,((p.b.setCell aj _).setCell aj _).setCell aj _⟩
theorem rU(d h1 a b:Nat)(h:ND w0 w C K i zs N m)(j:Held9 w A)(k:N.B.size=512)(c:d<6)(f:stN N d=⟨h1,a,b⟩):Calls prog 156 #[.pointer (some ⟨K.nd,0,none⟩),.int .i64 (d:Int)] w fun e w'=>e=.returned (agS h1 a b)∧Below w.heap.size w w':=by
 cases g:N.l != -2 with
 | true=>exact af4 d h1 a b h g c f
 | false=>exact ac6 d h1 a b h j k g c f
theorem acL(s d:Int)(h:WD w0 w C X zs V m)(c:Held9 w0 A)(f:¬((0<=s∧s<zs.length)∧0<=d∧d<6)):Calls prog 130 #[.pointer (some ⟨X.xb,0,none⟩),.int .i64 s,.int .i64 d] w fun e w'=>e=.returned (.tuple #[.agg #[.int .i64 0,.int .i64 0,.int .i64 0],ev A 2])∧Below w.heap.size w w':=by
 obtain⟨a,g⟩:=nmd (w.alloc (.cells #[iV 0,iV 0,iV 0] 80));have j:Hid (Z3 w a w.heap.size):=by rw[<-g.out];exact z3 w
 have l:=hid (h.later j.b);have n:=hid c;have o:=hid f;have p:=g.out;clear h c f
 go_enter func130,ntmps130
 go_wp2_with fail
 refine(jO s d l n o).mono ?_;rintro e q ⟨rfl,k⟩;have b:=hid (j.later k);obtain⟨r,t,u,v,x,y⟩:=b.cells;clear k
 go_wp2_with fail
 refine bh (cH rfl _ _ w.heap.size 80 _ (0,0) _ rfl (ez b.r _ _ _) underlying80 rfl bk) rfl ?_;exact⟨rfl,((b.b.setCell aj _).setCell aj _).setCell aj _⟩
theorem adf(s d h1 a b:Nat)(h:WD w0 w C X zs V m)(l:Held9 w0 A)(n:s<zs.length)(o:d<6)(p:stN (V.nd s) d=⟨h1,a,b⟩):Calls prog 130 #[.pointer (some ⟨X.xb,0,none⟩),.int .i64 (s:Int),.int .i64 (d:Int)] w fun e w'=>e=.returned (.tuple #[agS h1 a b,.nilIface])∧Below w.heap.size w w':=by
 obtain⟨c,q⟩:=nmd (w.alloc (.cells #[iV 0,iV 0,iV 0] 80));have f:Hid (Z3 w c w.heap.size):=by rw[<-q.out];exact z3 w
 have g:=hid (h.later f.b);have u:=hid ((h.held l).later f.b);have v:=hid p;have j:=hid n;have x:=q.out;clear h l p n
 go_enter func130,ntmps130
 go_wp2_with fail
 refine(fu s d g j o).mono ?_;rintro e r ⟨rfl,y⟩;subst r
 go_wp2_with fail
 refine(rU d h1 a b (g.nds s j) u (g.inv.nd s j).sz o v).mono ?_;rintro e r ⟨rfl,t⟩;have k:=hid (f.later t);obtain⟨z,B,D,E,F,G⟩:=k.cells;clear t
 go_wp2_with fail
 refine bh (cH rfl _ _ w.heap.size 80 _ (0,0) _ rfl (ez k.r _ _ _) underlying80 rfl bk) rfl ?_;exact⟨rfl,((k.b.setCell aj _).setCell aj _).setCell aj _⟩
end
def mo(N:PN)(d:Nat):Bool:=(N.ld d).isSome || !(decide ((stN N d).ph=0∧(stN N d).pr=0∧(stN N d).at_=0))
theorem sV{n:Nat}{V:PX}{d i:Nat}(a:i<n)(h:mo (V.nd i) d=true):hU n V d=true:=by
 unfold hU;rw[List.any_eq_true];exact⟨i,List.mem_range.2 a,h⟩
theorem yw{n:Nat}{V:PX}{d:Nat}(h:∀i,i<n->mo (V.nd i) d=false):hU n V d=false:=by
 unfold hU;rw[List.any_eq_false];intro i a;rw[show(((V.nd i).ld d).isSome || !(decide ((stN (V.nd i) d).ph=0∧(stN (V.nd i) d).pr=0∧(stN (V.nd i) d).at_=0)))=false from h i (List.mem_range.1 a)]
 decide
theorem aiG(a b c d e f:Int)(w:World):(binOp .neq 80 (.agg #[.int .i64 a,.int .i64 b,.int .i64 c]) (.agg #[.int .i64 d,.int .i64 e,.int .i64 f])).run prog w=.ok (.bool (!decide (a=d∧b=e∧c=f))) w:=by
 by_cases g:a=d<;>by_cases h:b=e<;>by_cases i:c=f
 all_goals
  simp only[g,h,i,and_true,and_self,and_false,decide_true,decide_false]
  go_simp
theorem adg(h1 a b:Nat)(w:World):(binOp .neq 80 (agS h1 a b) (.agg #[.int .i64 0,.int .i64 0,.int .i64 0])).run prog w=.ok (.bool (!decide (h1=0∧a=0∧b=0))) w:=by
 rw[aiG]
 congr 4
 exact propext (by omega)
section
variable {w0 w:World} {C:Nat→Nat} {K:NB} {X:XB} {i m:Nat} {zs:List Int} {N:PN} {V:PX} {A:Nat→Addr}
theorem td(d:Nat)(h:WD w0 w C X zs V m)(B:Held9 w0 A)(t:d<6):Calls prog 102 #[.pointer (some ⟨X.xb,0,none⟩),.int .i64 (d:Int)] w fun e w'=>e=.returned (.bool (hU zs.length V d))∧Below w.heap.size w w':=by
 obtain⟨-,L,-,-,-⟩:=h.cells;have M:=h.n7;have O:=hid h;have D:=hid B;obtain⟨b,s⟩:=nmd (zs.length);rw[s.out]at L M ⊢;clear h B
 go_enter func102,ntmps102
 go_wp2_with fail
 go_loopw [12] (fun u wr=>∃a:Nat,a<=b∧u=iV (a:Int)∧bW w wr∧∀c,c<a->mo (V.nd c) d=false) (fun u _=>b-(intOf u).toNat)
 case atStart=>exact⟨0,Nat.zero_le _,rfl,aF,fun c E=>absurd E (Nat.not_lt_zero _)⟩
 case round =>
  obtain⟨a,Q,rfl,v,F⟩:=hrel
  rename_i wr _
  have G:=hid F;have f:=hid v;have k:=hid (O.later v);clear F v
  by_cases l:a<b
  ·have R:=k.ns a (by rw[s.out];exact l)
   have x:=hid (k.nds a (by rw[s.out];exact l));have H:=x.lead t;have hinv:=hid (k.inv.nd a (by rw[s.out];exact l))
   cases g:(V.nd a).ld d with
   | some I =>
    rw[mx g]at H;have j:Hid (mo (V.nd a) d=true):=by unfold mo;rw[g];rfl
    clear g
    go_wp2_with fail
    go_ret
    exact⟨by rw[sV l j.out];rfl,f⟩
   | none =>
    rw[kJ g]at H;obtain⟨⟨n,o,p⟩,y⟩:∃I,Hid (stN (V.nd a) d=I):=⟨_,rfl⟩;obtain⟨q,J⟩:=nmd ((!decide (n=0∧o=0∧p=0)));have j:Hid (mo (V.nd a) d=q):=by unfold mo;rw[g,y.out,<-J.out];rfl
    have S:∀w,(binOp .neq 80 (agS n o p) (.agg #[iV 0,iV 0,iV 0])).run prog w=.ok (.bool q) w:=fun w=>by rw[<-J.out];exact adg n o p w
    clear g
    cases q with
    | true =>
     go_wp2_with (go_at_call 156;refine(rU d n o p x (k.held D) hinv.out.sz t y).mono ?_;rintro e P ⟨rfl,r⟩;have z:=hid (f.trans (r.mono f.size));clear r)
     go_ret
     exact⟨by rw[sV l j.out];rfl,z⟩
    | false =>
     go_wp2_with (go_at_call 156;refine(rU d n o p x (k.held D) hinv.out.sz t y).mono ?_;rintro e P ⟨rfl,r⟩;have z:=hid (f.trans (r.mono f.size));clear r)
     go_roundw
     case rel =>
      refine⟨a+1,by omega,by go_num,z,fun c E=>?_⟩
      by_cases e:c=a
      ·subst e;exact j
      ·exact G c (by omega)
     case measure=>simp[intOf];omega
  ·obtain rfl:a=b:=by omega
   have j:=hid (yw G)
   go_wp2_with fail
   go_ret
   exact⟨by rw[j.out];rfl,f⟩
end
end Go.Proofs.YtaehdgemkafinaaGreatDoor
namespace Go.Proofs.YtaehdgemkafinaaGreatDoor
open Go.Proofs.Tryz
theorem ac2{B:ByteArray}{over:Bool}{l:Int}{m d:Nat}{s:St}{o:POut}(q:216<=B.size)(h:Well B over l m)(x:m<4000000000)(j:d<6)(g:s.good)(r:ig (au B.data.toList) over B l d s.ph s.pr s.at_=o):o.e=au o.b.data.toList∧Well o.b o.over o.l (m+1)∧(∀e,e≠d->au o.b.data.toList e=au B.data.toList e)∧((o.c=0∧(au o.b.data.toList d).2=s)∨(o.c=6∧au o.b.data.toList d=au B.data.toList d)):=by
 subst r;unfold ig
 cases over with
 | true =>
  rw[af rfl];exact⟨rfl,h.mono (aP _),fun _ _=>rfl,.inr ⟨rfl,rfl⟩⟩
 | false =>
  rw[aa (by decide),af ⟨by omega,jW g⟩];simp only[aU];have t:=h.num d j;have u:=h.pow rfl;rcases xk (s:=s) q j (xL (jW g)) (by omega) u with⟨a,k,v,n,p,i,w⟩|⟨a,k,n,f⟩
  ·refine⟨v,⟨fun e c=>?_,fun e c=>?_,fun _=>n⟩,i,.inl ⟨a,p⟩⟩
   ·by_cases b:e=d
    ·rw[b,p];exact g
    ·rw[i e b];exact h.good e c
   ·by_cases b:e=d
    ·rw[b];exact bc w (Nat.succ_le_succ t)
    ·rw[i e b];have:=h.num e c;omega
  ·refine⟨?_,⟨fun e c=>by rw[f];exact h.good e c,fun e c=>by rw[f];have:=h.num e c;omega,fun b=>by rw[k]at b;cases b⟩,fun e _=>by rw[f],.inr ⟨a,by rw[f]⟩⟩
   rw[f]
   revert a
   unfold bK
   split
   ·intro a;cases a
   ·split
    ·intro a;cases a
    ·split
     ·intro a;cases a
     ·intro _;rfl
theorem vu{B s:ByteArray}{l:Int}{a:Nat}(h0:-2<=l)(h1:l<=9223372036854775807):-2<=(iW B s l a).l∧(iW B s l a).l<=9223372036854775807:=⟨afA _ _ _ _ h0,afw _ _ _ _ h1⟩
theorem xO{B:ByteArray}{l:Int}{k n:Nat}{s:St}(h0:-2<=l)(h1:l<=9223372036854775807):-2<=(bf B l k n s).l∧(bf B l k n s).l<=9223372036854775807:=by
 have a:-2<=(cF B l k).l∧(cF B l k).l<=9223372036854775807:=by
  unfold cF
  split
  ·exact⟨h0,h1⟩
  ·split
   ·exact⟨h0,h1⟩
   ·exact vu h0 h1
 have b:-2<=(da B l k n s).l∧(da B l k n s).l<=9223372036854775807:=by
  unfold da
  split
  ·exact vu a.1 a.2
  ·exact a
 unfold bf
 split
 ·exact vu b.1 b.2
 ·exact b
theorem sE{B:ByteArray}{l:Int}{m d:Nat}{s:St}{o:POut}(g:216<=B.size)(h:Well B false l m)(j:m<4000000000)(e:d<6)(f:s.good)(h0:-2<=l)(h1:l<=9223372036854775807)(i:ig (au B.data.toList) false B l d s.ph s.pr s.at_=o):o.b.size=B.size∧(-2<=o.l∧o.l<=9223372036854775807)∧((o.c=0∧o.over=false∧o.l≠-2)∨(o.c=6∧o.over=true∧o.l=-2)):=by
 subst i;unfold ig;rw[aa (by decide),af ⟨by omega,jW f⟩];simp only[aU];have k:=h.num d e;refine⟨aaY _,?_,?_⟩
 ·unfold bK
  split
  ·exact⟨h0,h1⟩
  ·split
   ·exact⟨h0,h1⟩
   ·split
    ·exact xO h0 h1
    ·exact xO h0 h1
 ·rcases xk (s:=s) g e (xL (jW f)) (by omega) (h.pow rfl)with⟨a,b,-,c,-⟩|⟨a,b,c,-⟩
  ·exact .inl ⟨a,b,c⟩
  ·exact .inr ⟨a,b,c⟩
structure HF (n:Nat) (N:PN) (f:F9) (m:Nat):Prop where
 ni:NI n (aM N f) (m+1)
 c:(oHN N f).c=0∨(oHN N f).c=6
 up:upN (aM N f)=decide ((oHN N f).c=0)
 e:(oHN N f).e=dlN (aM N f)
 other:∀e,e≠f.d.toNat->dlN (aM N f) e=dlN N e
 yes:(oHN N f).c=0->stN (aM N f) f.d.toNat=(gHN N f).st
 no:(oHN N f).c=6->dlN (aM N f) f.d.toNat=dlN N f.d.toNat
 ld:(oHN N f).c=0->(aM N f).ld=N.ld
 good:(gHN N f).st.good
 may:jv (stN N f.d.toNat).ph (gHN N f).st.ph
theorem fY{n m:Nat}{N:PN}{f:F9}(h:NI n N m)(t:N.l≠-2)(l:FI n f)(u:m<4000000000):HF n N f m:=by
 have E:=h.up t;have o:f.d.toNat<6:=by have:=l.ok.2.2.1;omega
 have F:f.a.toNat<=1048576:=by have:=l.ok.2.2.2.2.1;omega
 have G:f.ph.toNat<=5:=by have:=l.ok.2.2.2.2.2.1;omega
 have p:=tg (stN N f.d.toNat) (N.R f.d.toNat) f.k.toNat f.a.toNat f.ph.toNat (h.gd _ o) F G;have k:(gHN N f).st.good:=p.1;have v:Well N.B false N.l m:=⟨h.gd,h.nm,fun _=>t⟩;have w:216<=N.B.size:=by have:=h.sz;omega
 obtain⟨e,a⟩:∃e,oHN N f=e:=⟨_,rfl⟩;have x:ig (au N.B.data.toList) false N.B N.l f.d.toNat (gHN N f).st.ph (gHN N f).st.pr (gHN N f).st.at_=e:=by rw[<-a,<-E];rfl
 obtain⟨y,i,z,g⟩:=ac2 w v u o k x;obtain⟨A,B,H⟩:=sE w v u o k h.l0 h.l1 x;rcases H with⟨c,q,r⟩|⟨c,q,r⟩
 ·have b:aM N f={ N with B:=e.b,l:=e.l,over:=e.over }:=by unfold aM;rw[a,aa (by omega)]
  rcases g with⟨-,g⟩|⟨j,-⟩
  ·rw[q]at i
   refine⟨?_,.inl (by rw[a];exact c),?_,?_,?_,?_,?_,?_,k,p.2.2.2⟩
   ·rw[b]
    refine⟨i.good,i.num,A.trans h.sz,fun _=>q,B.1,B.2,fun C D s=>?_⟩;have:=h.ld C D s;exact⟨r,this.2⟩
   ·rw[b,a,c];unfold upN;simpa using r
   ·rw[b,a];exact y
   ·rw[b];exact z
   ·intro _;rw[b];exact g
   ·intro d;rw[a,c]at d;cases d
   ·intro _;rw[b]
  ·rw[c]at j;cases j
 ·have b:aM N f=gQ { N with B:=e.b,over:=e.over }:=by unfold aM;rw[a,af c]
  rcases g with⟨j,-⟩|⟨-,g⟩
  ·rw[c]at j;cases j
  ·refine⟨?_,.inr (by rw[a];exact c),?_,?_,?_,?_,?_,?_,k,p.2.2.2⟩
   ·rw[b]
    exact⟨i.good,i.num,A.trans h.sz,fun d=>(d rfl).elim,by show -2<=(-2:Int);omega,by show(-2:Int)<=_;omega,fun C D s=>by cases s⟩
   ·rw[b,a,c];rfl
   ·rw[b,a];exact y
   ·rw[b];exact z
   ·intro d;rw[a,c]at d;cases d
   ·intro _;rw[b];exact g
   ·intro d;rw[a,c]at d;cases d
end Go.Proofs.YtaehdgemkafinaaGreatDoor
namespace Go.Proofs.YtaehdgemkafinaaGreatDoor
open Go.RowKit
open Go.Proofs.Tryz
theorem FL.cells{w:World}{a:Addr}{L:List F9}(h:FL w (some a) L)(j:Nat)(c:Value)(d:(am L)[j]?=some c):w.cell? (a.add j)=some c:=by
 have g:=(List.getElem?_eq_some_iff.1 d).1;rw[ba]at g;have e:j / 9<L.length:=by omega
 obtain⟨i,b,k,l⟩:=h (j / 9) e;have f:=l (j%9) (by omega);obtain rfl:a=⟨i,b,none⟩:=bF k;rw[cZ];have m:b+j / 9*9+j%9=b+j:=by omega
 rw[m]at f;rw[f,<-d];have:=gJ L (j / 9) (j%9) e (by omega);rw[show j / 9*9+j%9=j by omega]at this;exact this.symm
theorem lY(w:World)(ty:TypeId)(base n:Nat)(v c:Value)(xs:List Value)(L:List F9)(a:w.ownsRow base 125 9 v n xs)(e:IsFr w c L)(u:n+L.length<=1000000000000)(f:base<=w.heap.size):∃v' w',(Builtin.append_ #[55,55] ty #[v,c]).run prog w=.ok v' w'∧w'.ownsRow base 125 9 v' (n+L.length) (xs++am L)∧w.grownBy w' v.ownBlock∧(v'.ownBlock=v.ownBlock∨v'.ownBlock=some w.heap.size):=by
 obtain⟨g,b,h,i,j⟩:=info_parts Tryz.infoFq;obtain⟨k,cap,rfl,d⟩:=e
 cases k with
 | none =>
  have l:L=[]:=by
   cases L with
   | nil=>rfl
   | cons x y=>obtain⟨z,A,m,-⟩:=d 0 (by simp);cases m
  subst l;refine⟨v,w,?_,by simpa [am]using a,⟨rfl,rfl,rfl,aj,fun _ _ _=>rfl⟩,.inl rfl⟩;rcases a.2 with⟨rfl,rfl⟩|⟨B,C,D,rfl,_,_,o,_⟩
  ·simp[Builtin.append_,run_underlying underlying55,Go.sizeOf,typeInfo,b,Builtin.lenOf,Builtin.firstCells]
  ·simp[Builtin.append_,run_underlying underlying55,Go.sizeOf,typeInfo,b,Builtin.lenOf,Builtin.firstCells,o,storeCells]
 | some p =>
  obtain⟨v',w',q,r,s,-,t⟩:=run_append_own_at (P:=prog) w base 55 ty 125 g _ 9 72 underlying55 b h i j rfl (by decide) v n xs a p L.length cap (am L) (ba L) d.cells (gK L) (by unfold maxLen;omega) (by omega) f;exact⟨v',w',q,r,s,t⟩
theorem dQ{w:World}{ops:Array Oper}{rest:List Oper}{o:Oper}{a:Act}{Q:Exit->Act->World->Prop}(g:o.guard=none)(s x:Operand)(i:o.op=.call { callee:=.builtin .append,args:=#[s,x],argTypes:=#[55,55] })(base n:Nat)(v d:Value)(xs:List Value)(L:List F9)(j:a.eval s=v)(k:a.eval x=d)(l:w.ownsRow base 125 9 v n xs)(m:IsFr w d L)(p:n+L.length<=1000000000000)(q:base<=w.heap.size)(h:∀b c w',w'.ownsRow base 125 9 (.slice b (n+L.length) c) (n+L.length) (xs++am L)->w.grownBy w' v.ownBlock->((Value.slice b (n+L.length) c).ownBlock=v.ownBlock∨(Value.slice b (n+L.length) c).ownBlock=some w.heap.size)->wpList prog ops Q rest (a.put o.dst (.slice b (n+L.length) c)) w'):wpList prog ops Q (o::rest) a w:=by
 refine wpList_plain g fun B r=>?_
 obtain⟨t,w',u,f,y,z⟩:=lY w o.type base n v d xs L l m p q;unfold Oper.wp execOp;simp only[i,resolve,invoke,builtin,Sem.run_bind,Sem.run_pure,Result.andThen_ok,List.map_toArray,List.map_cons,List.map_nil,j,k,u];obtain⟨b,c,rfl⟩:∃b c,t=.slice b (n+L.length) c:=by
  rcases f.2 with⟨e,A⟩|⟨C,cap,D,e,-⟩
  ·exact⟨none,0,by rw[e,A]⟩
  ·exact⟨_,_,e⟩
 exact r _ _ (h b c w' f y z)
theorem lk(w:World)(ty:TypeId)(base:Nat)(v a:Value)(M L:List F9)(D:OwnF w base v M)(s:IsFr w a L)(E:M.length+L.length<=1000000000000)(t:base<=w.heap.size):∃v' w',(Builtin.append_ #[55,55] ty #[v,a]).run prog w=.ok v' w'∧OwnF w' base v' (M++L)∧w.grownBy w' v.ownBlock∧(v'.ownBlock=v.ownBlock∨v'.ownBlock=some w.heap.size):=by
 obtain⟨u,l,F,h,G⟩:=info_parts Tryz.infoFq;rcases D with⟨rfl,rfl⟩|⟨b,f,cap,H,rfl,x,i,y,z,A,m⟩
 ·obtain⟨v',w',g,j,I,J⟩:=lY w ty base 0 (.slice none 0 0) a [] L (World.ownsRow_nil _ _ _ _) s (by simpa using E) t
  rw[Nat.zero_add,List.nil_append]at j;exact⟨v',w',g,OwnF.of_own j,I,J⟩
 ·obtain⟨K,B,rfl,n⟩:=s
  cases K with
  | none =>
   have N:L=[]:=by
    cases L with
    | nil=>rfl
    | cons S T=>obtain⟨U,V,o,-⟩:=n 0 (by simp);cases o
   subst N;refine⟨.slice (some ⟨b,f,none⟩) M.length cap,w,?_,by rw[List.append_nil];exact .inr ⟨b,f,cap,H,rfl,x,i,y,z,A,m⟩,⟨rfl,rfl,rfl,aj,fun _ _ _=>rfl⟩,.inl rfl⟩;simp[Builtin.append_,run_underlying underlying55,Go.sizeOf,typeInfo,l,Builtin.lenOf,Builtin.firstCells,y,storeCells]
  | some C =>
   have p:=ba L
   by_cases q:M.length+L.length<=cap
   ·have O:=Nat.mul_le_mul_right 9 q
    rw[Nat.add_mul]at O;have k:=run_append_room_cells (P:=prog) w 55 ty 125 u underlying55 l b f M.length cap C L.length B (am L) (by rw[h];exact p) n.cells (gK L) q
     (fun c d=>by rw[p]at d;rw[h,ai i,Array.getElem?_eq_getElem (by omega)];rfl) (fun c _=>dN i)
    rw[h]at k;have e:=dX b (am L) (f+M.length*9) w;exact⟨_,_,k,OwnF.splice x i q z A m,⟨e.os,e.tape,e.output,e.size,fun r g j=>e.block r g (fun o=>j (by rw[show r=b from o];rfl))⟩,.inl rfl⟩
   ·have holds:∀c a,(am M)[c]?=some a->w.cell? ((⟨b,f,none⟩:Addr).add c)=some a:=fun c a d=>by
     have g:=(List.getElem?_eq_some_iff.1 d).1;rw[ba]at g;rw[cZ,ai i,m c g,d]
    have P:(M.length+L.length)*72<=140737488355328:=by omega
    have k:=run_append_grow (P:=prog) w 55 ty 125 u _ underlying55 l F ⟨b,f,none⟩ M.length cap (am M) (by rw[h];exact ba M) holds C L.length B (am L) (by rw[h];exact p) n.cells (by omega) (by omega) (by rw[G];exact growslice_fits (by omega) P);refine⟨_,_,k,.inr ⟨w.heap.size,0,grownCap w (M.length+L.length) cap 125,_,by rw[aR],t,aB w.drew _,by rw[aR];exact grownCap_ge w _ _ _,grownCap_le_maxLen w _ _ _ (by unfold maxLen;omega),?_,fun c d=>?_⟩,⟨rfl,rfl,rfl,by simp,fun r e _=>Below.heap_alloc w.drew _ _ e⟩,.inr rfl⟩
    ·have W:=grownCap_ge w (M.length+L.length) cap 125
     simp only[Array.size_append,List.size_toArray,size_zeroCells,ba];have Q:(frV 0 0 0 0 0 false 0 0 0).cells.size=9:=rfl
     first|rw[Q]|skip
     rw[Nat.zero_add,<-Nat.add_mul,<-Nat.add_mul];refine Nat.mul_le_mul_right 9 ?_;omega
    ·rw[aR,Nat.add_mul]at d
     have R:((am M).toArray++(am L).toArray).size=M.length*9+L.length*9:=by simp only[Array.size_append,List.size_toArray,ba]
     rw[Nat.zero_add,Array.getElem?_append_left (by rw[R];exact d),cE,<-Array.getElem?_toList];simp
theorem nZ{w:World}{ops:Array Oper}{rest:List Oper}{o:Oper}{a:Act}{Q:Exit->Act->World->Prop}(f:o.guard=none)(s x:Operand)(g:o.op=.call { callee:=.builtin .append,args:=#[s,x],argTypes:=#[55,55] })(base:Nat)(v d:Value)(M L:List F9)(i:a.eval s=v)(j:a.eval x=d)(k:OwnF w base v M)(l:IsFr w d L)(m:M.length+L.length<=1000000000000)(n:base<=w.heap.size)(h:∀b c w',OwnF w' base (.slice b (M.length+L.length) c) (M++L)->w.grownBy w' v.ownBlock->((Value.slice b (M.length+L.length) c).ownBlock=v.ownBlock∨(Value.slice b (M.length+L.length) c).ownBlock=some w.heap.size)->wpList prog ops Q rest (a.put o.dst (.slice b (M.length+L.length) c)) w'):wpList prog ops Q (o::rest) a w:=by
 refine wpList_plain f fun y p=>?_
 obtain⟨q,w',r,e,t,u⟩:=lk w o.type base v d M L k l m n;unfold Oper.wp execOp;simp only[g,resolve,invoke,builtin,Sem.run_bind,Sem.run_pure,Result.andThen_ok,List.map_toArray,List.map_cons,List.map_nil,i,j,r];obtain⟨b,c,rfl⟩:∃b c,q=.slice b (M.length+L.length) c:=by rw[<-aR];exact e.form
 exact p _ _ (h b c w' e t u)
theorem bZ{w w':World}{row:Option Nat}(h:w.grownBy w' row):Kept (fun x=>row=some x) w w':=⟨h.os,h.tape,h.output,h.size,fun a b c=>h.block a b (fun d=>c d.symm)⟩
theorem kt{w:World}{e:TypeId}{size n base:Nat}{v:Value}{xs:List Value}(h:w.ownsRow base e size v n xs){g:Nat}(a:v.ownBlock=some g):g<w.heap.size:=(h.lt g a).2
section
variable {w0 w w':World} {C:Nat→Nat} {X:XB} {m:Nat} {zs:List Int} {V:PX} {A:Nat→Addr}
theorem XI.send{L:List F9}(h:XI zs V m)(b:∀f,f∈L->FI zs.length f)(j:L.length<=1000):XI zs (aW V L) (m+1):=by
 refine⟨h.he,fun c d=>?_,fun f e=>?_,?_,h.ev⟩
 ·have:=h.nd c d
  exact⟨this.gd,fun g i=>Nat.le_succ_of_le (this.nm g i),this.sz,this.up,this.l0,this.l1,this.ld⟩
 ·rcases List.mem_append.1 e with a|a
  ·exact h.fr f a
  ·exact b f a
 ·have:=h.fl
  show(V.fly++L).length<=_;rw[aR];omega
theorem WD.sent{L:List F9}{v':Value}(h:WD w0 w C X zs V m)(l:OwnF w' w0.heap.size v' (V.fly++L))(j:w.grownBy w' X.fv.ownBlock)(n:v'.ownBlock=X.fv.ownBlock∨v'.ownBlock=some w.heap.size)(o:∀f,f∈L->FI zs.length f)(p:L.length<=1000):∃C',WD w0 (w'.setCell ⟨X.xb,3,none⟩ v') C' { X with fv:=v' } zs (aW V L) (m+1)∧Kept (di C) w (w'.setCell ⟨X.xb,3,none⟩ v')∧∀x,x<w.heap.size->C' x=C x:=by
 have g:=bZ j;have a:=ah h.row;have B:=h.cx;have y:w'.heap[X.xb]?=some (.cells (wdC X zs.length).toArray 148 (0,0)):=g.row h.row (fun c=>by have:=h.cf _ c;omega);have q:Kept (di C) w (w'.setCell ⟨X.xb,3,none⟩ v'):=(g.mono (fun x a=>by show C x<2000;have:=h.cf x a;omega)).setCell (show C X.xb<2000 by omega) v';have r:(w'.setCell ⟨X.xb,3,none⟩ v').heap[X.xb]?=some (.cells (wdC { X with fv:=v',ev:=X.ev } zs.length).toArray 148 (0,0)):=by
  rw[aE w' X.xb 3 _ _ _ y];rfl
 have s:OwnF (w'.setCell ⟨X.xb,3,none⟩ v') w0.heap.size v' (V.fly++L):=by
  refine l.kept ((Kept.refl (In1 X.xb) w').set1 3 v') (fun b d c=>?_);rcases n with e|e
  ·rw[d]at e
   have:=h.cf b e.symm;rw[show b=X.xb from c]at this;omega
  ·rw[d]at e
   have:=bF e;rw[show b=X.xb from c]at this;omega
 have t:(w'.setCell ⟨X.xb,3,none⟩ v').ownsRow w0.heap.size 180 3 X.ev V.evs.length (bu V.evs) :=
  aV h.evs ((g.mono (fun x a=>.inr a)).setCell (S:=fun x=>x=X.xb∨X.fv.ownBlock=some x) (.inl rfl) v') (fun b j c=>by
   have D:=h.ce b j;rcases c with rfl|c
   ·omega
   ·have:=h.cf b c;omega)
 have u:∀x,(x=X.xb∨X.fv.ownBlock=some x)->C x=1001∨C x=1005∨C x=1006:=fun x a=>by
  rcases a with rfl|a
  ·exact .inl h.cx
  ·exact .inr (.inl (h.cf x a))
 have v:Kept (fun x=>x=X.xb∨X.fv.ownBlock=some x) w (w'.setCell ⟨X.xb,3,none⟩ v'):=(g.mono (fun x a=>.inr a)).setCell (.inl rfl) v';rcases n with e|e
 ·refine⟨C,?_,q,fun _ _=>rfl⟩
  exact h.own (fv:=v') (ev:=X.ev) (F:=V.fly++L) (E:=V.evs) v u (fun _ _=>rfl) (fun x a i=>by have:=h.lt x i;omega) r s t (fun b d=>h.cf b (by rw[<-e];exact d)) h.ce (aP _) (h.inv.send o p)
 ·have z:w.heap.size<w'.heap.size:=(l.lt _ e).2
  have k:∀x,x<w.heap.size->bV C w.heap.size 1005 x=C x:=fun x a=>aq (by omega)
  refine⟨bV C w.heap.size 1005,?_,q,k⟩;refine h.own (fv:=v') (ev:=X.ev) (F:=V.fly++L) (E:=V.evs) v u k (fun x a i=>?_) r s t (fun b d=>?_) (fun b d=>?_) (aP _) (h.inv.send o p)
  ·by_cases c:x=w.heap.size
   ·rw[c];simpa using z
   ·rw[aq c]at i
    have:=h.lt x i;omega
  ·rw[e]at d
   obtain rfl:=bF d;exact bw _ _ _
  ·have:=kt h.evs d
   rw[k b this];exact h.ce b d
theorem mv(v:Value)(L:List F9)(h:WD w0 w C X zs V m)(c:IsFr w v L)(d:∀f,f∈L->FI zs.length f)(q:L.length<=1000)(E:m<=100000000):Calls prog 104 #[.pointer (some ⟨X.xb,0,none⟩),v] w fun e w'=>e=.returned (.tuple #[])∧∃C' v',WD w0 w' C' { X with fv:=v' } zs (aW V L) (m+1)∧Kept (di C) w w'∧∀x,x<w.heap.size->C' x=C x:=by
 obtain⟨-,-,-,r,-⟩:=h.cells;have F:=h.fz 3;have s:=hid h;have t:=hid c;have u:=hid d;have y:V.fly.length+L.length<=1000000000000:=by have:=h.inv.fl;omega
 have g:=hid h.fly;have z:=h.bel.size;have G:=ah h.row;have B:Hid (∀w',w.grownBy w' X.fv.ownBlock->w'.cell? ⟨X.xb,3,none⟩=some X.fv∧w'.frozen? ⟨X.xb,3,none⟩=false):=by
  intro w' a;have i:=(bZ a).row h.row (fun e=>by have j:=h.cf _ e;have k:=h.cx;omega);exact⟨by rw[ai i];rfl,dN i⟩
 generalize l:X.fv=fv at r g;have n:=hid l;clear h c d l
 go_enter func104,ntmps104
 go_wp2_with (at_builtin;refine nZ rfl _ _ rfl w0.heap.size _ v V.fly L rfl rfl g t y z ?_;intro H I w' o a p;obtain⟨J,K⟩:=B.out w' (by rw[n.out];exact a);have b:=hid (And.intro o (And.intro a p));clear o a p)
 go_end0
 rw[<-n.out]at b;obtain⟨C',j,k,D⟩:=s.sent b.1 b.2.1 b.2.2 u q;exact⟨rfl,C',_,j,k,D⟩
end
def stD(V:PX)(d:Nat):Nat->St:=fun i=>stN (V.nd i) d
structure GX (zs:List Int) (V:PX) (d:Nat) (g:Gh):Prop where
 co:Co zs (stD V d) g
 fr:∀f,f∈V.fly->f.d=(d:Int)->Fr zs (stD V d) g f
 le:∀i x,i<zs.length->(V.nd i).ld d=some x->Le zs (stD V d) g i x.1 x.2
structure EX (zs:List Int) (V:PX):Prop where
 at_:∀e,e∈V.evs->∃i d p:Nat,e=⟨i,d,p⟩∧i<zs.length∧d<6∧(p=2∨p=3)∧(stN (V.nd i) d).ph=p
 once:V.evs.Pairwise fun a b=>¬(a.s=b.s∧a.d=b.d)
structure AX (zs:List Int) (V:PX):Prop where
 gx:∀d,d<6->∃g,GX zs V d g
 ex:EX zs V
def Mo(zs:List Int)(V V':PX):Prop:=∀i d,i<zs.length->d<6->jv (stN (V.nd i) d).ph (stN (V'.nd i) d).ph
theorem zI{a b c:Nat}(h:jv a b)(g:jv b c):jv a c:=by
 unfold jv at *
 omega
section
variable {zs:List Int} {V V':PX} {m:Nat} {g g':Gh}
theorem Mo.trans{a:PX}(h:Mo zs V V')(k:Mo zs V' a):Mo zs V a:=fun b c d e=>zI (h b c d e) (k b c d e)
theorem Mo.same(b:XI zs V m)(c:∀i d,stN (V'.nd i) d=stN (V.nd i) d):Mo zs V V':=fun i d e f=>by
 rw[c i d];have a:=((b.nd i e).gd d f).1;exact⟨a,a,.inl rfl⟩
theorem GX.quiet{d:Nat}(h:GX zs V d g)(c:∀i,stN (V'.nd i) d=stN (V.nd i) d)(e:∀i x,i<zs.length->(V'.nd i).ld d=some x->(V.nd i).ld d=some x)(j:∀f,f∈V'.fly->f∈V.fly):GX zs V' d g:=by
 have a:stD V' d=stD V d:=funext c;refine⟨by rw[a];exact h.co,fun f x k=>by rw[a];exact h.fr f (j f x) k,fun i x b l=>by rw[a];exact h.le i x b (e i x b l)⟩
theorem EX.same(h:EX zs V)(c:∀i d,stN (V'.nd i) d=stN (V.nd i) d)(a:V'.evs=V.evs):EX zs V':=by
 refine⟨fun e b=>?_,by rw[a];exact h.once⟩;rw[a]at b;obtain⟨i,d,f,j,k,l,n,o⟩:=h.at_ e b;exact⟨i,d,f,j,k,l,n,by rw[c];exact o⟩
theorem AX.quiet(h:AX zs V)(a:∀i d,stN (V'.nd i) d=stN (V.nd i) d)(b:∀i d x,i<zs.length->(V'.nd i).ld d=some x->(V.nd i).ld d=some x)(c:∀f,f∈V'.fly->f∈V.fly)(e:V'.evs=V.evs):AX zs V':=
 ⟨fun d j=>by obtain⟨g,k⟩:=h.gx d j;exact⟨g,k.quiet (fun i=>a i d) (fun i x l n=>b i d x l n) c⟩,h.ex.same a e⟩
theorem GX.send{d:Nat}{L:List F9}(h:GX zs V d g)(c:∀f,f∈L->f.d=(d:Int)->Fr zs (stD V d) g f):GX zs (aW V L) d g:=by
 refine⟨h.co,fun f e b=>?_,h.le⟩;rcases List.mem_append.1 e with a|a
 ·exact h.fr f a b
 ·exact c f a b
theorem eA(V:PX)(i:Nat)(N:PN):(aA V i N).nd i=N:=af rfl
theorem fE(V:PX)(i:Nat)(N:PN){k:Nat}(h:k≠i):(aA V i N).nd k=V.nd k:=aa h
theorem mG(N:PN)(d:Nat)(x:Int×PL):(aC N d x).ld d=some x:=af rfl
theorem aag(N:PN)(d:Nat)(x:Int×PL){e:Nat}(h:e≠d):(aC N d x).ld e=N.ld e:=aa h
theorem sO{n:Nat}{i:Nat}{f:F9}(a:HF n (V.nd i) f m)(e:(oHN (V.nd i) f).c=6):∀k d,stN ((aQ V i f).nd k) d=stN (V.nd k) d:=by
 intro k d;show stN ((aA V i (aM (V.nd i) f)).nd k) d=_
 by_cases b:k=i
 ·subst b
  rw[eA];unfold stN
  by_cases c:d=f.d.toNat
  ·rw[c,a.no e]
  ·rw[a.other d c]
 ·rw[fE _ _ _ b]
theorem pN{n:Nat}{i:Nat}{f:F9}(b:HF n (V.nd i) f m)(c:(oHN (V.nd i) f).c=0):stD (aQ V i f) f.d.toNat=upd (stD V f.d.toNat) i (gHN (V.nd i) f).st:=by
 funext k
 show stN ((aA V i (aM (V.nd i) f)).nd k) f.d.toNat=_;unfold upd
 by_cases a:k=i
 ·subst a
  rw[eA,af rfl,b.yes c]
 ·rw[fE _ _ _ a,aa a]
  rfl
theorem uh{n:Nat}{i:Nat}{f:F9}(b:HF n (V.nd i) f m){d:Nat}(c:d≠f.d.toNat):∀k,stN ((aQ V i f).nd k) d=stN (V.nd k) d:=by
 intro k;show stN ((aA V i (aM (V.nd i) f)).nd k) d=_
 by_cases a:k=i
 ·subst a
  rw[eA];unfold stN;rw[b.other d c]
 ·rw[fE _ _ _ a]
theorem pu{n:Nat}{i:Nat}{f:F9}(c:HF n (V.nd i) f m):∀k d x,((aQ V i f).nd k).ld d=some x->(V.nd k).ld d=some x:=by
 intro k d x h;have a:((aA V i (aM (V.nd i) f)).nd k).ld d=some x:=h
 by_cases e:k=i
 ·subst e
  rw[eA]at a;rcases c.c with b|b
  ·rw[c.ld b]at a;exact a
  ·unfold aM at a
   rw[af b]at a
   cases a
 ·rw[fE _ _ _ e]at a;exact a
theorem xR{i d:Nat}{f:F9}(h:GX zs V d g)(v:NI zs.length (V.nd i) m)(D:(V.nd i).l≠-2)(q:FI zs.length f)(E:m<4000000000)(F:i<zs.length)(w:∀a,a∈V.fly->FI zs.length a)(G:f.d=(d:Int)->Fr zs (stD V d) g f):∃g',GX zs (aQ V i f) d g'∧Gr zs (stD V d) g (stD (aQ V i f) d) g'∧g'.val=g.val∧∀a,a∈ca i (V.nd i) f->a.d=(d:Int)->Fr zs (stD (aQ V i f) d) g' a:=by
 have e:=fY v D q E;have N:0<=f.d∧f.d<=5:=q.ok.2.2.1;have O:=q.ok.2.2.2.2.2.1;rcases e.c with n|n
 ·by_cases o:d=f.d.toNat
  ·have H:f.d=(d:Int):=by omega
   have I:(stD V d i).good:=by show(dlN (V.nd i) d).2.good;rw[o];exact v.gd _ (by omega)
   obtain⟨g',x,p,y,z⟩:=agz h.co F I ((V.nd i).R d) f (G H) (by omega);have J:(aO (stD V d i) ((V.nd i).R d) f.k.toNat f.a.toNat f.ph.toNat)=gHN (V.nd i) f:=by unfold gHN;rw[<-o];rfl
   have A:=pN (i:=i) e n;rw[<-o]at A;rw[J,<-A]at x p z;refine⟨g',⟨x,fun a b r=>?_,fun j c B k=>?_⟩,p,y,fun a b _=>?_⟩
   ·have s:a∈V.fly:=b
    have P:=(w a s).f0;have Q:=(w a s).f1;exact(h.fr a s r).grow (by omega) p
   ·have C:=pu e j d c k
    exact(h.le j c B C).grow p (fun K L=>by rw[y];exact(h.le j c B C).tv K L)
   ·unfold ca at b
    split at b
    ·rename_i M
     rw[List.mem_singleton]at b;subst b;exact z M.2
    ·cases b
  ·have l:=uh (i:=i) e o
   have t:stD (aQ V i f) d=stD V d:=funext l;refine⟨g,h.quiet l (fun j c _ k=>pu e j d c k) (fun _ c=>c),by rw[t];exact Gr.refl _ _ _,rfl,fun a b r=>?_⟩;unfold ca at b
   split at b
   ·rw[List.mem_singleton]at b
    subst b;have:f.d=(d:Int):=r;omega
   ·cases b
 ·have l:=sO (i:=i) e n
  have t:stD (aQ V i f) d=stD V d:=funext fun u=>l u d
  refine⟨g,h.quiet (fun u=>l u d) (fun j c _ k=>pu e j d c k) (fun _ c=>c),by rw[t];exact Gr.refl _ _ _,rfl,fun a b _=>?_⟩;unfold ca at b;rw[aa (fun c=>by rw[n]at c;cases c.1)]at b
  cases b
theorem yc{i:Nat}{f:F9}(h:EX zs V)(D:NI zs.length (V.nd i) m)(E:(V.nd i).l≠-2)(u:FI zs.length f)(F:m<4000000000)(G:i<zs.length)(q:XI zs V m):EX zs (aQ V i f)∧Mo zs V (aQ V i f):=by
 have k:=fY D E u F;have S:0<=f.d∧f.d<=5:=u.ok.2.2.1;rcases k.c with n|n
 ·have H:=k.may
  have r:Mo zs V (aQ V i f):=by
   intro a c v w
   by_cases b:c=f.d.toNat
   ·have I:stN ((aQ V i f).nd a) c=upd (stD V f.d.toNat) i (gHN (V.nd i) f).st a:=by
     rw[b];exact congrFun (pN (i:=i) k n) a
    rw[I];unfold upd
    split
    ·rename_i s;rw[s,b];exact H
    ·have e:=((q.nd a v).gd c w).1
     rw[<-b];exact⟨e,e,.inl rfl⟩
   ·rw[uh k b a]
    have e:=((q.nd a v).gd c w).1;exact⟨e,e,.inl rfl⟩
  refine⟨?_,r⟩;have x:∀b,b∈V.evs->∃a c j:Nat,b=⟨a,c,j⟩∧a<zs.length∧c<6∧(j=2∨j=3)∧(stN ((aQ V i f).nd a) c).ph=j:=by
   intro b d;obtain⟨a,c,j,t,o,p,y,e⟩:=h.at_ b d;refine⟨a,c,j,t,o,p,y,?_⟩;have:=r a c o p;unfold jv at this;omega
  have l:(aQ V i f).evs=noteE V.evs i f.d.toNat (stN (V.nd i) f.d.toNat).ph (stN (aM (V.nd i) f) f.d.toNat).ph:=rfl;have z:stN ((aQ V i f).nd i) f.d.toNat=stN (aM (V.nd i) f) f.d.toNat:=by
   show stN ((aA V i (aM (V.nd i) f)).nd i) f.d.toNat=_;rw[eA]
  unfold noteE at l
  split at l
  ·rename_i J
   obtain⟨T,K,-⟩:=J;have L:=cK K;refine⟨fun b d=>?_,?_⟩
   ·rw[l,List.mem_append]at d
    rcases d with d|d
    ·exact x b d
    ·rw[List.mem_singleton]at d
     exact⟨i,f.d.toNat,_,d,G,by omega,L,by rw[z]⟩
   ·rw[l,List.pairwise_append]
    refine⟨h.once,List.pairwise_singleton _ _,fun M N U A=>?_⟩;rw[List.mem_singleton]at A;subst A;rintro⟨O,P⟩;obtain⟨a,c,j,t,o,p,y,e⟩:=h.at_ M N;subst t;simp only at O P;have Q:a=i:=by omega
    have s:c=f.d.toNat:=by omega
    subst Q;subst s;have B:=r a f.d.toNat o p;rw[z]at B;unfold jv at B;omega
  ·exact⟨fun b d=>x b (by rw[l]at d;exact d),by rw[l];exact h.once⟩
 ·have C:=sO (i:=i) k n
  refine⟨h.same C ?_,Mo.same q C⟩;show noteE V.evs i f.d.toNat (stN (V.nd i) f.d.toNat).ph (stN (aM (V.nd i) f) f.d.toNat).ph=V.evs;have b:stN (aM (V.nd i) f) f.d.toNat=stN (V.nd i) f.d.toNat:=by
   unfold stN;rw[k.no n]
  unfold noteE;rw[aa (fun R=>R.1 (by rw[b]))]
theorem xU{i d:Nat}{x:Int×PL}{f:F9}(h:GX zs V d g)(w:bT zs=0)(y:(V.nd i).ld d=some x)(z:PW zs.length x.2)(A:i<zs.length)(q:∀a,a∈V.fly->FI zs.length a)(B:Fr zs (stD V d) g f):∃g',GX zs (aA V i (aC (V.nd i) d (x.1,(aL zs i d x.1 x.2 f).1))) d g'∧∀o,o∈dm i d x.1 zs.length (aL zs i d x.1 x.2 f).2->Fr zs (stD (aA V i (aC (V.nd i) d (x.1,(aL zs i d x.1 x.2 f).1))) d) g' o:=by
 have r:=h.le i x A y;obtain⟨g',C,s,D,E,F⟩:=afH (deal:=(d:Int)) h.co w r z f B;have c:stD (aA V i (aC (V.nd i) d (x.1,(aL zs i d x.1 x.2 f).1))) d=stD V d:=by
  funext k
  show stN ((aA V i _).nd k) d=stN (V.nd k) d
  by_cases b:k=i
  ·subst b;rw[eA];rfl
  ·rw[fE _ _ _ b]
 refine⟨g',⟨by rw[c];exact C,fun a G H=>?_,fun t j I e=>?_⟩,by rw[c];exact F⟩
 ·rw[c]
  have l:a∈V.fly:=G;have N:=(q a l).f0;have n:=(q a l).f1;exact(h.fr a l H).grow (by omega) s
 ·rw[c]
  by_cases b:t=i
  ·subst b
   rw[eA,mG]at e
   cases e
   exact E
  ·rw[fE _ _ _ b]at e
   have p:=h.le t j I e;refine p.grow s fun J u=>?_
   have K:=p.tv J u
   by_cases v:g'.val j.1.toNat=g.val j.1.toNat
   ·rw[v];exact K
   ·obtain⟨L,-⟩:=D _ v
    have n:=(p.ow u).1;have M:=(r.ow (by omega)).1;rw[L,M]at n;exact absurd n.symm b
theorem jd(V:PX)(i d:Nat)(x:Int×PL):∀k e,stN ((aA V i (aC (V.nd i) d x)).nd k) e=stN (V.nd k) e:=by
 intro k e
 by_cases a:k=i
 ·subst a;rw[eA];rfl
 ·rw[fE _ _ _ a]
theorem GX.other{i d e:Nat}{x:Int×PL}(h:GX zs V e g)(j:e≠d):GX zs (aA V i (aC (V.nd i) d x)) e g:=by
 refine h.quiet (fun b=>jd V i d x b e) (fun b c _ a=>?_) (fun _ c=>c)
 by_cases f:b=i
 ·subst f;rw[eA,aag _ _ _ j]at a;exact a
 ·rw[fE _ _ _ f]at a;exact a
theorem GX.newLead{i d:Nat}{a:Int}(h:GX zs V d g)(j:Le zs (stD V d) g i a P0):GX zs (aA V i (aC (V.nd i) d (a,P0))) d g:=by
 have e:stD (aA V i (aC (V.nd i) d (a,P0))) d=stD V d:=funext fun b=>jd V i d _ b d
 refine⟨by rw[e];exact h.co,fun k l n=>by rw[e];exact h.fr k l n,fun b o p c=>?_⟩;rw[e]
 by_cases f:b=i
 ·subst f;rw[eA,mG]at c;cases c;exact j
 ·rw[fE _ _ _ f]at c;exact h.le b o p c
theorem ahu(s:Nat->St)(g:Gh)(i:Nat):Le zs s g i 0 P0:=
 ⟨Int.le_refl _,fun _ _ c _ d=>(by have b:bit 0 c=true:=d;rw[qa]at b;cases b),fun _ a=>(by omega),fun _ a=>(by omega),fun _ a=>(by omega),fun a=>(by omega),fun a=>(by cases a),fun a=>(by cases a)⟩
theorem agP(i:Nat)(t:S3)(h:P0.told[i]?=some t):t.p=0:=by
 have a:=List.mem_iff_getElem?.2 ⟨i,h⟩;simp[P0]at a;rw[a]
theorem afS{s:Nat->St}{g:Gh}{i:Nat}{a:Int}(h0:0<a)(e:g.val a.toNat=0)(f:a.toNat%zs.length=i)(h:a.toNat<=(s i).pr):Le zs s g i a P0:=
 ⟨(by omega),fun _ b=>(by omega),fun _ _=>e,fun _ _ c _ j=>(by have d:bit 0 c=true:=j;rw[qa]at d;cases d),fun _ _ c k l=>.inl (agP c k l),fun _=>⟨f,h⟩,fun b=>(by cases b),fun b=>(by cases b)⟩
end
theorem ae3{w:World}{base n:Nat}{v:Value}{L:List F9}(h:w.ownsRow base 125 9 v L.length (am L))(b:L.length=n)(h0:0<n):∃g cap a,v=.slice (some ⟨g,0,none⟩) n cap∧base<=g∧w.heap[g]?=some (.cells a 125 (0,0))∧n<=cap∧cap<=maxLen∧a.size=cap*9∧a.toList.take (n*9)=am L:=by
 subst b;rcases h.2 with⟨-,l⟩|⟨g,cap,a,c,d,e,f,i,j,k⟩
 ·omega
 ·exact⟨g,cap,a,c,d,e,f,i,j,k⟩
theorem ae1(base g cap k n:Nat)(a:Array Value)(L:List F9)(w:World)(c:w.heap[g]?=some (.cells a 125 (0,0)))(d:base<=g)(f:L.length=n)(h1:n<=cap)(h:cap<=maxLen)(i:a.size=cap*9)(ht:a.toList.take (n*9)=am L)(j:k<n):Calls prog 159 #[.slice (some ⟨g,0,none⟩) n cap,.int .i64 (k:Int),.int .i64 ((k:Int)+1)] w fun e w'=>e=.returned (.slice (some ⟨g,0,none⟩) (n-1) cap)∧w'.ownsRow base 125 9 (.slice (some ⟨g,0,none⟩) (n-1) cap) (n-1) (am (L.eraseIdx k))∧Kept (In1 g) w w':=by
 have b:=ahy base g cap k (k+1) n a L w c d f h1 h i ht j rfl;rw[show((k+1:Nat):Int)=(k:Int)+1 by omega]at b;exact b
theorem ajn{k:Nat}(h:k<7):IntKind.i64.wrap ((k:Int)+1)=(k:Int)+1:=by
 have:k=0∨k=1∨k=2∨k=3∨k=4∨k=5∨k=6:=by omega
 rcases this with rfl|rfl|rfl|rfl|rfl|rfl|rfl<;>decide
def dw(s:Nat)(d a:Int)(n:Nat):List F9:=(toL s d 3 a 0 n).eraseIdx s
theorem ua{w:World}{lb b cap id:Nat}{deal att:Int}{zs:List Int}{P:PL}(y:zs.length<=7)(m:id<zs.length)(z:att≠0)(h:LD w lb b cap id deal att zs P):Calls prog 105 #[.pointer (some ⟨lb,0,none⟩)] w fun e w'=>∃v,e=.returned v∧FrB w.heap.size w' v (dw id deal att zs.length)∧Below w.heap.size w w':=by
 obtain⟨A,O,Q,-⟩:=h.cells;have B:=hid h;have R:=ah h.row;have S:(att==0)=false:=beq_eq_false_iff_ne.2 z;obtain⟨f,n⟩:=nmd (toL id deal 3 att 0 zs.length);obtain⟨c,o⟩:=nmd (zs.length);have l:Hid (f.length=c):=by rw[<-n.out,<-o.out];exact eJ id deal 3 att 0 zs.length
 have C:Hid (dw id deal att zs.length=f.eraseIdx id):=by rw[<-n.out];exact rfl
 rw[C.out];rw[o.out]at m;have D:=hid (ajn (show id<7 by have:=o.out;omega));have E:Hid (∀w:World,LD w lb b cap id deal att zs P->Calls prog 158 #[.pointer (some ⟨lb,0,none⟩),.int .i64 3,.int .i64 0] w fun e w'=>∃a d g,e=.returned (.slice (some ⟨a,0,none⟩) c d)∧(w.heap.size<=a∧w'.heap[a]?=some (.cells g 125 (0,0))∧c<=d∧d<=maxLen∧g.size=d*9∧g.toList.take (c*9)=am f)∧Below w.heap.size w w'):=by
  intro w F;refine(pd lb b cap id deal att zs P 3 0 w F y).mono ?_;rintro e w' ⟨v,G,s,i⟩;rw[n.out]at s;obtain⟨a,d,g,H,j⟩:=ae3 s l.out (by omega);exact⟨a,d,g,by rw[G,H],j,i⟩
 clear h
 go_enter func105,ntmps105
 go_wp2_with fail
 go_region_held3 (fun I=>I.cell? ⟨lb,0,none⟩=some (.int .i64 (id:Int))) (go_keep) (first|(go_at_call 158;(with_reducible refine(E.out _ (B.out.later aF.drew)).mono ?_);rintro e J ⟨a,d,g,rfl,j,i⟩;have K:=ag i A;have p:Hid (w.heap.size<=a):=j.1;have k:=hid j.2;have t:=hid (show Below w.heap.size w J from(Below.refl _ w).drew.trans i);clear i j)|(go_at_call 159;rw[D.out];(with_reducible refine(ae1 w.heap.size a d id c g f _ k.out.1 p.out l.out k.out.2.1 k.out.2.2.1 k.out.2.2.2.1 k.out.2.2.2.2 m).mono ?_);rintro e T ⟨rfl,u,q⟩;have x:=hid (And.intro u q);have U:=bG q K (fun e=>by have r:=p.out;have V:lb=a:=e;omega);clear u q))
 all_goals go_wp2_with fail
 all_goals go_ret
 all_goals refine⟨_,rfl,?_,x.out.2.below t.out.size (fun L M=>by rw[show L=a from M];exact p.out) t.out⟩
 all_goals
  have r:=x.out.1;have N:(f.eraseIdx id).length=c-1:=by rw[List.length_eraseIdx_of_lt (by rw[l.out];exact m),l.out]
  rw[<-N]at r ⊢;exact FrB.owned r
end Go.Proofs.YtaehdgemkafinaaGreatDoor
