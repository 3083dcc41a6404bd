/-
  On the way to SPlaysProof: S8 S9.
-/
import Derived.Test.YtaehdgemkafinaaGreatDoorBx13
import Derived.Test.YtaehdgemkafinaaGreatDoorBx8
set_option maxHeartbeats 8000000
set_option maxRecDepth 100000
namespace Go.Proofs.YtaehdgemkafinaaGreatDoor
open Go.RowKit
open Go.Proofs.Tryz
theorem yp(w:World)(a o2 b:Obj):(((w.alloc a).alloc o2).alloc b).heap[w.heap.size+1]?=some o2:=by
 have c:(w.alloc a).heap.size=w.heap.size+1:=by simp
 rw[Below.heap_alloc _ _ _ (by simp),<-c];exact aB _ _
theorem afY(s j k n d b f g v:Nat)(id:Int)(R:Nat->Bool)(w:World)(h:SR w s j k id R n)(o:d<6)(p:jf ⟨b,f,g⟩ (R d)=v):Calls prog 239 #[.pointer (some ⟨s,0,none⟩),.int .i64 (d:Int),agS b f g] w fun e w'=>e=.returned (agS v f g)∧Below w.heap.size w w':=by
 obtain⟨l,m⟩:=nmd (((w.alloc (.cells #[iV (b:Int),iV (f:Int),iV (g:Int)] 80)).alloc (.cells #[iV 0,iV 0,iV 0] 80)));have c:Hid (In2r w l b f g):=by rw[<-m.out];exact oh w _ _ _
 obtain⟨A,B,C⟩:=c.cells;obtain⟨D,E,F⟩:=c.rcells;obtain⟨G,H,I,J,K⟩:=c.fz;have L:=m.out;have a:=hid p;clear p
 by_cases q:b=0
 ·clear A B C D E F G H I J K L c m
  subst q;obtain⟨M,N⟩:=h.lts;obtain⟨O,P,Q⟩:=h.cells;obtain⟨r,t,u⟩:=h.ref;have x:=hid t;have y:=u d o;have z:=afy o;clear t u h
  cases i:R d with
  | true =>
   rw[i]at y a;obtain rfl:v=3:=a.symm;clear a i
   go_enter func239,ntmps239
   go_wp2_with (at_lookup;refine wpList_lookup_own_unit _ rfl _ _ 158 rfl 3 174 adG underlying158 (afu _) k n r rfl ((x.alloc _).alloc _) _ _ rfl z ?_)
   refine bh (results_cell_row rfl _ _ (w.heap.size+1) 80 _ (0,0) _ rfl (yp w _ _ _) underlying80 rfl bk) rfl ?_;exact⟨rfl,((aD).alloc (by simp) _).alloc (by simp;omega) _⟩
  | false =>
   rw[i]at y a;obtain rfl:v=1:=a.symm;clear a i
   go_enter func239,ntmps239
   go_wp2_with (at_lookup;refine wpList_lookup_own_unit _ rfl _ _ 158 rfl 3 174 adG underlying158 (afu _) k n r rfl ((x.alloc _).alloc _) _ _ rfl z ?_)
   refine bh (results_cell_row rfl _ _ (w.heap.size+1) 80 _ (0,0) _ rfl (yp w _ _ _) underlying80 rfl bk) rfl ?_;exact⟨rfl,((aD).alloc (by simp) _).alloc (by simp;omega) _⟩
 ·have S:¬(b:Int)=0:=by omega
  obtain rfl:v=b:=by rw[<-a.out];unfold jf;exact aa q
  clear h a
  go_enter func239,ntmps239
  go_wp2_with fail
  refine bh (results_cell_row rfl _ _ (w.heap.size+1) 80 _ (0,0) _ rfl (ez c.r _ _ _) underlying80 rfl bk) rfl ?_;exact⟨rfl,c.out.out _ _ _⟩
theorem cU{P:Program}{c:Func}{p e v:Tmp}{ty:TypeId}(h:c.results=#[.cell p ty,.tmp e,.tmp v])(a:Array Value)(w:World)(g:Nat)(t:TypeId)(b:Array Value)(fr:Nat×Nat)(d:TypeDesc)(f:a.getD p undef=.pointer (some ⟨g,0,none⟩))(i:w.heap[g]?=some (.cells b t fr))(j:P.underlying ty=some d)(k:(match d with|.struct _|.array _ _=>true|_=>false)=true)(l:(P.info? ty).map (·.size)=some b.size):(results c a).run P w=.ok (.tuple #[.agg b,a.getD e undef,a.getD v undef]) w:=by
 have m:a[p]?.getD undef=pV g:=by simpa using f
 simp[results,h,m,asAddr,run_loadVar_row w g t ty b fr d i j k l]
structure In3r (w W:World) (f t d k a:Int) (b:Bool) (ph pr pa:Int) (x y z:Int):Prop where
 f:W.heap[w.heap.size]?=some (.cells #[.int .i64 f,.int .i64 t,.int .i64 d,.int .i64 k,.int .i64 a,.bool b,.int .i64 ph,.int .i64 pr,.int .i64 pa] 125 (0,0))
 a:W.heap[w.heap.size+1]?=some (.cells #[.int .i64 x,.int .i64 y,.int .i64 z] 80 (0,0))
 r:W.heap[w.heap.size+1+1]?=some (.cells #[.int .i64 0,.int .i64 0,.int .i64 0] 80 (0,0))
 b:Below w.heap.size w W
theorem lE(w:World)(f t d k a:Int)(b:Bool)(ph pr pa:Int)(x y g:Int):In3r w (((w.alloc (.cells #[.int .i64 f,.int .i64 t,.int .i64 d,.int .i64 k,.int .i64 a,.bool b,.int .i64 ph,.int .i64 pr,.int .i64 pa] 125)).alloc (.cells #[.int .i64 x,.int .i64 y,.int .i64 g] 80)).alloc (.cells #[.int .i64 0,.int .i64 0,.int .i64 0] 80)) f t d k a b ph pr pa x y g:=by
 obtain⟨c,e⟩:∃c,w.alloc (.cells #[iV f,iV t,iV d,iV k,iV a,.bool b,iV ph,iV pr,iV pa] 125)=c:=⟨_,rfl⟩;have m:c.heap.size=w.heap.size+1:=by rw[<-e];simp
 have n:c.heap[w.heap.size]?=some (.cells #[iV f,iV t,iV d,iV k,iV a,.bool b,iV ph,iV pr,iV pa] 125 (0,0)):=by rw[<-e];exact aB w _
 have o:bW w c:=by rw[<-e];exact aD
 rw[e];have h:=oh c x y g;have j:=h.a;have l:=h.r;have i:=h.b;rw[m]at j l i;exact⟨(i.block _ (by omega)).trans n,j,l,o.trans (i.mono (by omega))⟩
section
variable {w W:World} {f t d k a:Int} {b:Bool} {ph pr pa:Int} {x y z:Int}
theorem In3r.cells(h:In3r w W f t d k a b ph pr pa x y z):W.cell? ⟨w.heap.size+1,0,none⟩=some (.int .i64 x)∧W.cell? ⟨w.heap.size+1,1,none⟩=some (.int .i64 y)∧W.cell? ⟨w.heap.size+1,2,none⟩=some (.int .i64 z):=by
 refine⟨?_,?_,?_⟩<;>rw[ai h.a]<;>rfl
theorem In3r.rcells(h:In3r w W f t d k a b ph pr pa x y z):W.cell? ⟨w.heap.size+1+1,0,none⟩=some (.int .i64 0)∧W.cell? ⟨w.heap.size+1+1,1,none⟩=some (.int .i64 0)∧W.cell? ⟨w.heap.size+1+1,2,none⟩=some (.int .i64 0):=by
 refine⟨?_,?_,?_⟩<;>rw[ai h.r]<;>rfl
theorem In3r.fz(h:In3r w W f t d k a b ph pr pa x y z):W.frozen? ⟨w.heap.size+1,0,none⟩=false∧W.frozen? ⟨w.heap.size+1,1,none⟩=false∧W.frozen? ⟨w.heap.size+1,2,none⟩=false∧W.frozen? ⟨w.heap.size+1+1,0,none⟩=false∧W.frozen? ⟨w.heap.size+1+1,1,none⟩=false∧W.frozen? ⟨w.heap.size+1+1,2,none⟩=false:=
 ⟨aK _ _ 0 _ _ h.a,aK _ _ 1 _ _ h.a,aK _ _ 2 _ _ h.a,aK _ _ 0 _ _ h.r,aK _ _ 1 _ _ h.r,aK _ _ 2 _ _ h.r⟩
theorem In3r.later{V:World}(h:In3r w W f t d k a b ph pr pa x y z)(c:Below W.heap.size W V):In3r w V f t d k a b ph pr pa x y z:=
 ⟨(c.block _ (ah h.f)).trans h.f,(c.block _ (ah h.a)).trans h.a,(c.block _ (ah h.r)).trans h.r,h.b.trans (c.mono h.b.size)⟩
theorem In3r.st(h:In3r w W f t d k a b ph pr pa x y z)(c e g:Int):In3r w (((W.setCell ⟨w.heap.size+1,0,none⟩ (.int .i64 c)).setCell ⟨w.heap.size+1,1,none⟩ (.int .i64 e)).setCell ⟨w.heap.size+1,2,none⟩ (.int .i64 g)) f t d k a b ph pr pa c e g:=by
 refine⟨?_,ez h.a _ _ _,?_,((h.b.setCell (aP _) _).setCell (aP _) _).setCell (aP _) _⟩
 ·rw[dS _ _ _ _ (by simp),dS _ _ _ _ (by simp),dS _ _ _ _ (by simp)];exact h.f
 ·rw[dS _ _ _ _ (by simp),dS _ _ _ _ (by simp),dS _ _ _ _ (by simp)];exact h.r
theorem In3r.out(h:In3r w W f t d k a b ph pr pa x y z)(c v q:Value):Below w.heap.size w (((W.setCell ⟨w.heap.size+1+1,0,none⟩ c).setCell ⟨w.heap.size+1+1,1,none⟩ v).setCell ⟨w.heap.size+1+1,2,none⟩ q):=((h.b.setCell (by simp;omega) _).setCell (by simp;omega) _).setCell (by simp;omega) _
end
theorem ajm{w:World}{g:Nat}{a b c:Value}{t:TypeId}(h:w.heap[g]?=some (.cells #[a,b,c] t (0,0)))(d e f:Value):((((w.setCell ⟨g,0,none⟩ d).setCell ⟨g,1,none⟩ e).setCell ⟨g,2,none⟩ f).drew).heap[g]?=some (.cells #[d,e,f] t (0,0)):=ez h d e f
theorem oJ(w:World)(a o2 b:Obj):(((w.alloc a).alloc o2).alloc b).heap[w.heap.size+1+1]?=some b:=by
 have c:((w.alloc a).alloc o2).heap.size=w.heap.size+1+1:=by simp
 rw[<-c];exact aB _ _
theorem tn(b c f ph a:Nat)(d:Int)(w:World)(g:d=(ph:Int))(i:aT b=false)(h:c<=a):Calls prog 241 #[agS b c f,.int .i64 d,.int .i64 (a:Int)] w fun e w'=>e=.returned (.tuple #[.agg #[.int .i64 d,.int .i64 (a:Int),.int .i64 (a:Int)],.bool true])∧Below w.heap.size w w':=by
 subst g;exact wT b c f ph a w i h
theorem qK(b c d ph a:Nat)(f:Bool)(g:Int)(w:World)(i:g=(ph:Int))(j:aT b=f)(h:¬(c<=a∧f=false)):Calls prog 241 #[agS b c d,.int .i64 g,.int .i64 (a:Int)] w fun e w'=>e=.returned (.tuple #[agS b c d,.bool false])∧Below w.heap.size w w':=by
 subst i;exact zi b c d ph a f w j h
section
variable (s j mb n d a ph sh sp sa:Nat) (id fr to_ pr pa:Int) (yb:Bool) (R:Nat→Bool) (w:World)
theorem aik(v:Nat)(c:Bool)(h:SR w s j mb id R n)(k:d<6)(f:jf ⟨sh,sp,sa⟩ (R d)=v)(o:((v:Int)!=3)=c):Calls prog 215 #[.pointer (some ⟨s,0,none⟩),frV fr to_ d 1 a yb ph pr pa,agS sh sp sa] w fun e w'=>e=.returned (.tuple #[agS v sp sa,.int .i64 2,.bool c])∧Below w.heap.size w w':=by
 have l:=hid h;have m:=hid f;clear h f
 go_enter func215,ntmps215
 go_wp2_with (go_at_call 239;(with_reducible refine(afY s j mb n d sh sp sa v id R _ (l.out.later (lE w _ _ _ _ _ _ _ _ _ _ _ _).b) k m.out).mono ?_);rintro e p ⟨rfl,g⟩;have b:=hid ((lE w _ _ _ _ _ _ _ _ _ _ _ _).later g);clear g;obtain⟨q,r,t⟩:=b.out.cells;obtain⟨u,x,y⟩:=b.out.rcells;obtain⟨z,A,B,C,D,E⟩:=b.out.fz)
 have i:=hid (b.out.st (v:Int) (sp:Int) (sa:Int))
 go_region
 all_goals go_wp2_with fail
 all_goals refine bh (cU rfl _ _ (w.heap.size+1+1) 80 _ (0,0) _ rfl (ajm i.out.r _ _ _) underlying80 rfl bk) rfl ?_
 all_goals exact⟨rfl,(i.out.out _ _ _).drew⟩
theorem ag2(g:sp<a):Calls prog 215 #[.pointer (some ⟨s,0,none⟩),frV fr to_ d 3 a yb ph pr pa,agS sh sp sa] w fun e w'=>e=.returned (.tuple #[agS sh a sa,.int .i64 4,.bool true])∧Below w.heap.size w w':=by
 go_enter func215,ntmps215
 go_wp2_with (go_at_call 240;(with_reducible refine(wh sh sp sa a _ g).mono ?_);rintro e h ⟨rfl,c⟩;have b:=hid ((lE w _ _ _ _ _ _ _ _ _ _ _ _).later c);clear c;obtain⟨i,k,l⟩:=b.cells;obtain⟨m,o,p⟩:=b.rcells;obtain⟨q,r,t,u,v,x⟩:=b.fz)
 have f:=hid (b.st (sh:Int) (a:Int) (sa:Int));refine bh (cU rfl _ _ (w.heap.size+1+1) 80 _ (0,0) _ rfl (ez f.r _ _ _) underlying80 rfl bk) rfl ?_;exact⟨rfl,f.out.out _ _ _⟩
theorem ag0(g:¬sp<a):Calls prog 215 #[.pointer (some ⟨s,0,none⟩),frV fr to_ d 3 a yb ph pr pa,agS sh sp sa] w fun e w'=>e=.returned (.tuple #[agS sh sp sa,.int .i64 4,.bool false])∧Below w.heap.size w w':=by
 go_enter func215,ntmps215
 go_wp2_with (go_at_call 240;(with_reducible refine(aaH sh sp sa a _ g).mono ?_);rintro e h ⟨rfl,c⟩;have b:=hid ((lE w _ _ _ _ _ _ _ _ _ _ _ _).later c);clear c;obtain⟨i,k,l⟩:=b.cells;obtain⟨m,o,p⟩:=b.rcells;obtain⟨q,r,t,u,v,x⟩:=b.fz)
 have f:=hid (b.st (sh:Int) (sp:Int) (sa:Int));refine bh (cU rfl _ _ (w.heap.size+1+1) 80 _ (0,0) _ rfl (ez f.r _ _ _) underlying80 rfl bk) rfl ?_;exact⟨rfl,f.out.out _ _ _⟩
theorem agM(b:¬(ph=4∨ph=5)):Calls prog 215 #[.pointer (some ⟨s,0,none⟩),frV fr to_ d 5 a yb ph pr pa,agS sh sp sa] w fun e w'=>e=.returned (.tuple #[agS sh sp sa,.int .i64 0,.bool false])∧Below w.heap.size w w':=by
 have c:¬(ph:Int)=4:=by omega
 have f:¬(ph:Int)=5:=by omega
 have g:((ph:Int)!=4)=true:=bne_iff_ne.2 c;have h:((ph:Int)!=5)=true:=bne_iff_ne.2 f;clear b
 go_enter func215,ntmps215
 go_wp2_with fail
 refine bh (cU rfl _ _ (w.heap.size+1+1) 80 _ (0,0) _ rfl (oJ w _ _ _) underlying80 rfl bk) rfl ?_;exact⟨rfl,((aD).alloc (by simp) _).alloc (by simp;omega) _⟩
theorem agr(c:aT sh=false)(f:aT ph=true):Calls prog 215 #[.pointer (some ⟨s,0,none⟩),frV fr to_ d 7 a yb ph pr pa,agS sh sp sa] w fun e w'=>e=.returned (.tuple #[agS ph sp sa,.int .i64 0,.bool false])∧Below w.heap.size w w':=by
 have h:=hid c;have i:=hid f;clear c f
 go_enter func215,ntmps215
 go_wp2_with (go_at_call 242;(with_reducible refine(zA sh sp sa ph _ h.out i.out).mono ?_);rintro e k ⟨rfl,g⟩;have b:=hid ((lE w _ _ _ _ _ _ _ _ _ _ _ _).later g);clear g;obtain⟨l,m,o⟩:=b.cells;obtain⟨p,q,r⟩:=b.rcells;obtain⟨t,u,v,x,y,z⟩:=b.fz)
 refine bh (cU rfl _ _ (w.heap.size+1+1) 80 _ (0,0) _ rfl (ez b.r _ _ _) underlying80 rfl bk) rfl ?_;exact⟨rfl,b.out.out _ _ _⟩
theorem aht(c f:Bool)(g:aT sh=c)(i:aT ph=f)(h:¬(f=true∧c=false)):Calls prog 215 #[.pointer (some ⟨s,0,none⟩),frV fr to_ d 7 a yb ph pr pa,agS sh sp sa] w fun e w'=>e=.returned (.tuple #[agS sh sp sa,.int .i64 0,.bool false])∧Below w.heap.size w w':=by
 have l:=hid g;have m:=hid i;have o:=hid h;clear g i h
 go_enter func215,ntmps215
 go_wp2_with (go_at_call 242;(with_reducible refine(adc sh sp sa ph c f _ l.out m.out o.out).mono ?_);rintro e p ⟨rfl,k⟩;have b:=hid ((lE w _ _ _ _ _ _ _ _ _ _ _ _).later k);clear k;obtain⟨q,r,t⟩:=b.cells;obtain⟨u,v,x⟩:=b.rcells;obtain⟨y,z,A,B,C,D⟩:=b.fz)
 refine bh (cU rfl _ _ (w.heap.size+1+1) 80 _ (0,0) _ rfl (ez b.r _ _ _) underlying80 rfl bk) rfl ?_;exact⟨rfl,b.out.out _ _ _⟩
theorem abH(c:aT sh=false)(h:sp<=a):Calls prog 215 #[.pointer (some ⟨s,0,none⟩),frV fr to_ d 5 a yb 4 pr pa,agS sh sp sa] w fun e w'=>e=.returned (.tuple #[.agg #[.int .i64 4,.int .i64 (a:Int),.int .i64 (a:Int)],.int .i64 6,.bool true])∧Below w.heap.size w w':=by
 have i:=hid c;clear c
 go_enter func215,ntmps215
 go_wp2_with (go_at_call 241;(with_reducible refine(tn sh sp sa 4 a 4 _ rfl i.out h).mono ?_);rintro e k ⟨rfl,f⟩;have b:=hid ((lE w _ _ _ _ _ _ _ _ _ _ _ _).later f);clear f;obtain⟨l,m,o⟩:=b.cells;obtain⟨p,q,r⟩:=b.rcells;obtain⟨t,u,v,x,y,z⟩:=b.fz)
 have g:=hid (b.st 4 (a:Int) (a:Int));refine bh (cU rfl _ _ (w.heap.size+1+1) 80 _ (0,0) _ rfl (ez g.r _ _ _) underlying80 rfl bk) rfl ?_;exact⟨rfl,g.out.out _ _ _⟩
theorem acZ(c:Bool)(f:aT sh=c)(h:¬(sp<=a∧c=false)):Calls prog 215 #[.pointer (some ⟨s,0,none⟩),frV fr to_ d 5 a yb 4 pr pa,agS sh sp sa] w fun e w'=>e=.returned (.tuple #[agS sh sp sa,.int .i64 6,.bool false])∧Below w.heap.size w w':=by
 have k:=hid f;have l:=hid h;clear f h
 go_enter func215,ntmps215
 go_wp2_with (go_at_call 241;(with_reducible refine(qK sh sp sa 4 a c 4 _ rfl k.out l.out).mono ?_);rintro e m ⟨rfl,g⟩;have b:=hid ((lE w _ _ _ _ _ _ _ _ _ _ _ _).later g);clear g;obtain⟨o,p,q⟩:=b.cells;obtain⟨r,t,u⟩:=b.rcells;obtain⟨v,x,y,z,A,B⟩:=b.fz)
 have i:=hid (b.st (sh:Int) (sp:Int) (sa:Int));refine bh (cU rfl _ _ (w.heap.size+1+1) 80 _ (0,0) _ rfl (ez i.r _ _ _) underlying80 rfl bk) rfl ?_;exact⟨rfl,i.out.out _ _ _⟩
theorem aby(c:aT sh=false)(h:sp<=a):Calls prog 215 #[.pointer (some ⟨s,0,none⟩),frV fr to_ d 5 a yb 5 pr pa,agS sh sp sa] w fun e w'=>e=.returned (.tuple #[.agg #[.int .i64 5,.int .i64 (a:Int),.int .i64 (a:Int)],.int .i64 6,.bool true])∧Below w.heap.size w w':=by
 have i:=hid c;clear c
 go_enter func215,ntmps215
 go_wp2_with (go_at_call 241;(with_reducible refine(tn sh sp sa 5 a 5 _ rfl i.out h).mono ?_);rintro e k ⟨rfl,f⟩;have b:=hid ((lE w _ _ _ _ _ _ _ _ _ _ _ _).later f);clear f;obtain⟨l,m,o⟩:=b.cells;obtain⟨p,q,r⟩:=b.rcells;obtain⟨t,u,v,x,y,z⟩:=b.fz)
 have g:=hid (b.st 5 (a:Int) (a:Int));refine bh (cU rfl _ _ (w.heap.size+1+1) 80 _ (0,0) _ rfl (ez g.r _ _ _) underlying80 rfl bk) rfl ?_;exact⟨rfl,g.out.out _ _ _⟩
theorem acJ(c:Bool)(f:aT sh=c)(h:¬(sp<=a∧c=false)):Calls prog 215 #[.pointer (some ⟨s,0,none⟩),frV fr to_ d 5 a yb 5 pr pa,agS sh sp sa] w fun e w'=>e=.returned (.tuple #[agS sh sp sa,.int .i64 6,.bool false])∧Below w.heap.size w w':=by
 have k:=hid f;have l:=hid h;clear f h
 go_enter func215,ntmps215
 go_wp2_with (go_at_call 241;(with_reducible refine(qK sh sp sa 5 a c 5 _ rfl k.out l.out).mono ?_);rintro e m ⟨rfl,g⟩;have b:=hid ((lE w _ _ _ _ _ _ _ _ _ _ _ _).later g);clear g;obtain⟨o,p,q⟩:=b.cells;obtain⟨r,t,u⟩:=b.rcells;obtain⟨v,x,y,z,A,B⟩:=b.fz)
 have i:=hid (b.st (sh:Int) (sp:Int) (sa:Int));refine bh (cU rfl _ _ (w.heap.size+1+1) 80 _ (0,0) _ rfl (ez i.r _ _ _) underlying80 rfl bk) rfl ?_;exact⟨rfl,i.out.out _ _ _⟩
theorem agt:Calls prog 215 #[.pointer (some ⟨s,0,none⟩),frV fr to_ d 2 a yb ph pr pa,agS sh sp sa] w fun e w'=>e=.returned (.tuple #[agS sh sp sa,.int .i64 0,.bool false])∧Below w.heap.size w w':=by
 go_enter func215,ntmps215
 go_wp2_with fail
 refine bh (cU rfl _ _ (w.heap.size+1+1) 80 _ (0,0) _ rfl (oJ w _ _ _) underlying80 rfl bk) rfl ?_;exact⟨rfl,((aD).alloc (by simp) _).alloc (by simp;omega) _⟩
theorem agO:Calls prog 215 #[.pointer (some ⟨s,0,none⟩),frV fr to_ d 4 a yb ph pr pa,agS sh sp sa] w fun e w'=>e=.returned (.tuple #[agS sh sp sa,.int .i64 0,.bool false])∧Below w.heap.size w w':=by
 go_enter func215,ntmps215
 go_wp2_with fail
 refine bh (cU rfl _ _ (w.heap.size+1+1) 80 _ (0,0) _ rfl (oJ w _ _ _) underlying80 rfl bk) rfl ?_;exact⟨rfl,((aD).alloc (by simp) _).alloc (by simp;omega) _⟩
theorem ag3:Calls prog 215 #[.pointer (some ⟨s,0,none⟩),frV fr to_ d 6 a yb ph pr pa,agS sh sp sa] w fun e w'=>e=.returned (.tuple #[agS sh sp sa,.int .i64 0,.bool false])∧Below w.heap.size w w':=by
 go_enter func215,ntmps215
 go_wp2_with fail
 refine bh (cU rfl _ _ (w.heap.size+1+1) 80 _ (0,0) _ rfl (oJ w _ _ _) underlying80 rfl bk) rfl ?_;exact⟨rfl,((aD).alloc (by simp) _).alloc (by simp;omega) _⟩
theorem ahp(k:Nat)(g:HOut)(h:SR w s j mb id R n)(i:d<6)(o:1<=k∧k<=7)(l:aO ⟨sh,sp,sa⟩ (R d) k a ph=g):Calls prog 215 #[.pointer (some ⟨s,0,none⟩),frV fr to_ d k a yb ph pr pa,agS sh sp sa] w fun e w'=>e=.returned (.tuple #[agS g.st.ph g.st.pr g.st.at_,.int .i64 (g.k:Int),.bool g.yes])∧Below w.heap.size w w':=by
 subst l;rcases (by omega:k=1∨k=3∨k=5∨k=7∨k=2∨k=4∨k=6)with rfl|rfl|rfl|rfl|rfl|rfl|rfl
 ·have m:((jf ⟨sh,sp,sa⟩ (R d):Int)!=3)=decide (jf ⟨sh,sp,sa⟩ (R d)≠3):=by
   rw[Bool.eq_iff_iff];simp;omega
  exact aik s j mb n d a ph sh sp sa id fr to_ pr pa yb R w _ _ h i rfl m
 ·by_cases b:sp<a
  ·rw[show aO ⟨sh,sp,sa⟩ (R d) 3 a ph=⟨⟨sh,a,sa⟩,4,true⟩ by simp[aO,b]]
   exact ag2 s d a ph sh sp sa fr to_ pr pa yb w b
  ·rw[show aO ⟨sh,sp,sa⟩ (R d) 3 a ph=⟨⟨sh,sp,sa⟩,4,false⟩ by simp[aO,b]]
   exact ag0 s d a ph sh sp sa fr to_ pr pa yb w b
 ·by_cases c:ph=4∨ph=5
  ·by_cases b:sp<=a∧aT sh=false
   ·rw[show aO ⟨sh,sp,sa⟩ (R d) 5 a ph=⟨⟨ph,a,a⟩,6,true⟩ by simp[aO,c,b]]
    rcases c with rfl|rfl
    ·exact abH s d a sh sp sa fr to_ pr pa yb w b.2 b.1
    ·exact aby s d a sh sp sa fr to_ pr pa yb w b.2 b.1
   ·rw[show aO ⟨sh,sp,sa⟩ (R d) 5 a ph=⟨⟨sh,sp,sa⟩,6,false⟩ by unfold aO;rw[aa (by decide),aa (by decide),af (by decide),af c,aa b]]
    rcases c with rfl|rfl
    ·exact acZ s d a sh sp sa fr to_ pr pa yb w _ rfl b
    ·exact acJ s d a sh sp sa fr to_ pr pa yb w _ rfl b
  ·rw[show aO ⟨sh,sp,sa⟩ (R d) 5 a ph=⟨⟨sh,sp,sa⟩,0,false⟩ by simp[aO,c]]
   exact agM s d a ph sh sp sa fr to_ pr pa yb w c
 ·by_cases f:aT ph=true∧aT sh=false
  ·rw[show aO ⟨sh,sp,sa⟩ (R d) 7 a ph=⟨⟨ph,sp,sa⟩,0,false⟩ by simp[aO,f]]
   exact agr s d a ph sh sp sa fr to_ pr pa yb w f.2 f.1
  ·rw[show aO ⟨sh,sp,sa⟩ (R d) 7 a ph=⟨⟨sh,sp,sa⟩,0,false⟩ by unfold aO;rw[aa (by decide),aa (by decide),aa (by decide),af (by decide),aa f]]
   exact aht s d a ph sh sp sa fr to_ pr pa yb w _ _ rfl rfl f
 ·exact agt s d a ph sh sp sa fr to_ pr pa yb w
 ·exact agO s d a ph sh sp sa fr to_ pr pa yb w
 ·exact ag3 s d a ph sh sp sa fr to_ pr pa yb w
end
theorem zf{w w':World}{b:Nat}(h:w.grownBy w' (some b)):Kept (In1 b) w w':=⟨h.os,h.tape,h.output,h.size,fun a c d=>h.block a c (fun e=>d (bF e))⟩
theorem ajB(A:Nat->Addr)(id:Int)(p q:Nat)(B:ByteArray)(l:Int)(c:Nat)(w:World)(h:Pl w p q B l)(a:HeldE w A)(d:B.size<=1000)(b:rC B l 0 216=c+1)(h0:0<=id)(k:id<7):Calls prog 123 #[.int .i64 id,.pointer (some ⟨p,0,none⟩)] w fun e w'=>e=.returned (.tuple #[.pointer none,.iface 318 (.pointer (some (A c)))])∧w'=w:=by
 have f:=hid h;have g:=hid a;have i:=hid b;clear h a b
 go_enter func123,ntmps123
 go_wp2_with (go_at_call 169;(with_reducible refine(aey A p q B l c _ f.out g.out d i.out).mono ?_);rintro e j ⟨rfl,m⟩;subst j)
 go_ret2
 exact⟨rfl,rfl⟩
theorem yh(A:Nat->Addr)(id:Int)(p q:Nat)(B:ByteArray)(l:Int)(w:World)(h:Pl w p q B l)(d:HeldE w A)(o:B.size<=1000)(r:216<=B.size)(t:¬l=-2)(h0:0<=id)(z:id<7):Calls prog 123 #[.int .i64 id,.pointer (some ⟨p,0,none⟩)] w fun e w'=>∃s j b,e=.returned (.tuple #[.pointer (some ⟨s,0,none⟩),.nilIface])∧JR w' j p (au B.data.toList) false∧SR w' s j b id (fun _=>false) 0∧Below w.heap.size w w'∧w.heap.size<=j∧j<b∧b<s:=by
 have u:=hid h;have v:=hid d;clear h d;have C:=@run_makeMap prog
 go_enter func123,ntmps123
 go_wp2_with (go_at_call 169;(with_reducible refine(xH A p q B l _ u.out v.out o r t).mono ?_);rintro e a ⟨j,rfl,f,g,i⟩;have c:=hid f;have k:=hid g;have x:=hid i;clear f g i)
 go_ret2
 have y:(a.alloc (.map #[] 0)).heap.size=a.heap.size+1:=by simp
 have m:bW a (a.alloc (.map #[] 0)):=aD;have n:=m.alloc m.size (.cells #[pV j,iV id,.map (some a.heap.size)] 160);refine⟨a.heap.size+1,j,a.heap.size,rfl,c.later n c.lt,⟨?_,.map [],(World.ownsMap_made a _ _ _).alloc _,fun D _=>rfl⟩,k.trans (n.mono k.size),x.out,c.lt,Nat.lt_succ_self _⟩;have:=aB (a.alloc (.map #[] 0)) (.cells #[pV j,iV id,.map (some a.heap.size)] 160);rw[y]at this;exact this
section
variable {w0 w w1 w2:World} {s j mb p q n:Nat} {id:Int} {R:Nat→Bool} {E:Nat→Nat×St} {over:Bool} {B:ByteArray} {l:Int} {A:Nat→Addr}
theorem ac5(b:Below w0.heap.size w0 w1)(h:Pl w1 p q B l)(c:w0.heap.size<=p)(d:w0.heap.size<=q)(e:JR w2 j p E over)(f:SR w2 s j mb id R n)(g:Below w1.heap.size w1 w2)(i:w1.heap.size<=j)(o:j<mb)(r:mb<s)(h0:-2<=l)(h1:l<=9223372036854775807)(k:B.size<=1000)(m:216<=B.size):SP w0 w2 s j mb p q id R n E over B l:=by
 have t:=iP h.head;have u:=iP h.row;have v:=b.size;exact⟨ahX b h c d e g i h0 h1 k m,f,fun a=>by unfold In3 at a;omega,fun a=>by unfold In3 at a;omega,by omega,by omega,by omega⟩
theorem abr(d h1 f g:Nat)(i:JR w j p E over)(h:SR w s j mb id R n)(t:d<6)(o:(E d).2=⟨h1,f,g⟩):Calls prog 161 #[.pointer (some ⟨s,0,none⟩),.int .i64 (d:Int)] w fun e w'=>e=.returned (.tuple #[agS h1 f g,.nilIface])∧Below w.heap.size w w':=by
 obtain⟨b,k⟩:=nmd (w.alloc (.cells #[iV 0,iV 0,iV 0] 80));have c:Hid (bW w b):=by rw[<-k.out];exact aD
 have r:Hid (b.heap[w.heap.size]?=some (.cells #[iV 0,iV 0,iV 0] 80 (0,0))):=by rw[<-k.out];exact aB w _
 have u:=hid (i.later c.out i.lt);obtain⟨y,z,C⟩:=(h.later c.out).cells;have v:=hid o;have D:=k.out;clear i h o
 go_enter func161,ntmps161
 go_wp2_with (go_at_call 160;(with_reducible refine(nD j p d E over h1 f g _ u.out t v.out).mono ?_);rintro e w1 ⟨rfl,m⟩;have a:=hid ((m.block _ (ah r.out)).trans r.out);have x:=hid (c.trans (m.mono c.size));clear m;have F:w1.cell? ⟨w.heap.size,0,none⟩=some (iV 0):=(aG _ _ 0 _ _ _ a.out);have G:w1.cell? ⟨w.heap.size,1,none⟩=some (iV 0):=(aG _ _ 1 _ _ _ a.out);have H:w1.cell? ⟨w.heap.size,2,none⟩=some (iV 0):=(aG _ _ 2 _ _ _ a.out);have I:=aK _ _ 0 _ _ a.out;have J:=aK _ _ 1 _ _ a.out;have K:=aK _ _ 2 _ _ a.out)
 refine bh (cH rfl _ _ w.heap.size 80 _ (0,0) _ rfl (ez a.out _ _ _) underlying80 rfl bk) rfl ?_;exact⟨rfl,((x.setCell aj _).setCell aj _).setCell aj _⟩
theorem ahr{a:DataW Unit}{R:Nat->Bool}(c:Maps.IsMap a)(f:∀d:Nat,d<6->Maps.has a (.int .i64 (d:Int))=R d)(x:DataW Unit)(e:Nat):∀d:Nat,d<6->Maps.has (a.put (.int .i64 (e:Int)) x) (.int .i64 (d:Int))=my R e d:=by
 intro d g;unfold my
 by_cases b:d=e
 ·subst b
  rw[af rfl];exact Maps.has_put_same (k:=.int .i64 (d:Int)) c (by unfold WideAt.IsKeyLit;trivial) x
 ·rw[aa b,Maps.has_put_other (fun h=>b (by injection h with _ i;omega))]
  exact f d g
theorem yV(d:Nat)(c:JR w j p E over)(h:SR w s j mb id R n)(f:d<6)(P:n<=1000000):Calls prog 106 #[.pointer (some ⟨s,0,none⟩),.int .i64 (d:Int)] w fun e w'=>e=.returned .nilIface∧SR w' s j mb id (my R d) (n+1)∧Kept (In1 mb) w w'∧s≠mb:=by
 obtain⟨⟨g,i,k⟩,z⟩:∃C,Hid ((E d).2=C):=⟨_,rfl⟩;have D:=hid c;have m:=hid h;obtain⟨F,G,H⟩:=h.cells;have I:=afy f;have o:s≠mb:=by
  obtain⟨J,r,⟨Q,S,t,_⟩,_⟩:=h;intro e;subst e;rw[J]at t
  cases t
 clear c h
 go_enter func106,ntmps106
 go_wp2_with (first|(go_at_call 160;(with_reducible refine(nD j p d E over g i k _ D.out f z.out).mono ?_);rintro e w1 ⟨rfl,a⟩;have b:=hid (m.later a);have K:=hid a;clear a;obtain⟨r,u,v⟩:=b.ref;have x:=hid u;have L:=hid v;clear u v;obtain⟨F,G,H⟩:=b.cells;have T:=b.lts)|(at_mapUpdate;refine wpList_mapUpdate_own _ rfl _ _ _ 158 rfl 3 174 adG underlying158 (unitElem (H:=Unit)) mb n r rfl (x.alloc _) (by unfold maxLen;omega) _ _ _ rfl rfl I _ [] unitElem_mk ?_;intro w2 M N))
 go_ret
 have O:=(Below.refl w1.heap.size w1).alloc aj (.cells #[iV (g:Int),iV (i:Int),iV (k:Int)] 80);have y:=(Kept.of_below (S:=In1 mb) (K.out)).trans ((Kept.of_below O).trans (zf N));exact⟨rfl,⟨y.row m.row o,_,M,ahr x.isMap L.out _ d⟩,y,o⟩
end
end Go.Proofs.YtaehdgemkafinaaGreatDoor
