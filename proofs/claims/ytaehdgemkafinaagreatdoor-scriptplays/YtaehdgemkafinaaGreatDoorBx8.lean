/-
  On the way to SPlaysProof: KA KS S3 W6 O2 TF.
-/
import Derived.Test.YtaehdgemkafinaaGreatDoorBx5
import Derived.Test.YtaehdgemkafinaaGreatDoorBx2
import Derived.Test.YtaehdgemkafinaaGreatDoorBx3
import Derived.Test.YtaehdgemkafinaaGreatDoorBx4
set_option maxHeartbeats 8000000
set_option maxRecDepth 100000
namespace Go.Proofs.YtaehdgemkafinaaGreatDoor
open Go.RowKit
open Go.Proofs.Tryz
theorem dG(n l m:Int)(b:Bool)(w:World)(h:decide (l<=n∧n<=m)=b):Calls prog 237 #[.int .i64 n,.int .i64 l,.int .i64 m] w fun e w'=>e=.returned (.bool b)∧w'=w:=by
 subst h
 by_cases a:l<=n
 ·by_cases c:n<=m
  ·rw[bo ⟨a,c⟩]
   go_enter func237,ntmps237
   go_wp2
   go_ret
   exact⟨rfl,rfl⟩
  ·rw[aS (fun h=>c h.2)]
   go_enter func237,ntmps237
   go_wp2
   go_ret
   exact⟨rfl,rfl⟩
 ·rw[aS (fun h=>a h.1)]
  go_enter func237,ntmps237
  go_wp2
  go_ret
  exact⟨rfl,rfl⟩
abbrev adN(ph pr pa:Int):Prop:=(0<=ph∧ph<=5)∧(0<=pr∧pr<=1048576)∧(0<=pa∧pa<=1048576)
abbrev mA(f t d k a ph pr pa:Int):Prop:=(0<=f∧f<=6)∧(0<=t∧t<=6)∧(0<=d∧d<=5)∧(1<=k∧k<=7)∧(0<=a∧a<=1048576)∧adN ph pr pa
theorem aeW(p q r:Prop)[Decidable p][Decidable q][Decidable r](i:Decidable (p∧q∧r)):@decide _ i=(decide p&&(decide q&&decide r)):=by
 by_cases a:p<;>by_cases b:q<;>by_cases c:r<;>simp[a,b,c]
theorem afl{p:Prop}[Decidable p]{b:Bool}(h:p ↔ b=true)(x y:Nat):(if p then x else y)=if b=true then x else y:=by
 by_cases a:p
 ·rw[af a,af (h.1 a)]
 ·rw[aa a,aa (fun c=>a (h.2 c))]
theorem abJ(a b c:Bool):a=false∨(a=true∧b=false)∨(a=true∧b=true∧c=false)∨(a=true∧b=true∧c=true):=by cases a<;>cases b<;>cases c<;>simp
theorem ah3(a b:Bool):a=false∨(a=true∧b=false)∨(a=true∧b=true):=by cases a<;>cases b<;>simp
theorem ui(ph pr pa:Int)(b:Bool)(w:World)(h:decide (adN ph pr pa)=b):Calls prog 238 #[.agg #[.int .i64 ph,.int .i64 pr,.int .i64 pa]] w fun e w'=>e=.returned (.bool b)∧Below w.heap.size w w':=by
 have l:Hid (bW w (w.alloc (.cells #[iV ph,iV pr,iV pa] 80))):=aD;obtain⟨c,d⟩:∃b:Bool,Hid (decide (0<=ph∧ph<=5)=b):=⟨_,hid (Eq.refl _)⟩;obtain⟨f,g⟩:∃b:Bool,Hid (decide (0<=pr∧pr<=1048576)=b):=⟨_,hid (Eq.refl _)⟩;obtain⟨i,j⟩:∃b:Bool,Hid (decide (0<=pa∧pa<=1048576)=b):=⟨_,hid (Eq.refl _)⟩;have m:Hid (b=(c&&(f&&i))):=by
  unfold Hid;rw[<-h,<-d.out,<-g.out,<-j.out];exact aeW _ _ _ _
 clear h;rcases abJ c f i with rfl|⟨rfl,rfl⟩|⟨rfl,rfl,rfl⟩|⟨rfl,rfl,rfl⟩
 all_goals
  go_enter func238,ntmps238
  go_wp2_with (go_at_call 237;first|(with_reducible refine(dG ph 0 5 _ _ d.out).mono ?_;rintro e a ⟨rfl,k⟩;subst a)|(with_reducible refine(dG pr 0 1048576 _ _ g.out).mono ?_;rintro e a ⟨rfl,k⟩;subst a)|(with_reducible refine(dG pa 0 1048576 _ _ j.out).mono ?_;rintro e a ⟨rfl,k⟩;subst a))
  go_ret
  exact⟨by rw[m.out];rfl,l.out⟩
theorem aev(A:Nat->Addr)(f t d k a:Int)(y:Bool)(ph pr pa:Int)(c:Nat)(w:World)(H:HeldE w A)(h:(if mA f t d k a ph pr pa then 0 else 2)=c):Calls prog 214 #[frV f t d k a y ph pr pa] w fun e w'=>e=.returned (ev A c)∧Below w.heap.size w w':=by
 obtain⟨i,v⟩:=nmd (w.alloc (.cells #[iV f,iV t,iV d,iV k,iV a,.bool y,iV ph,iV pr,iV pa] 125));have u:Hid (bW w i):=by rw[<-v.out];exact aD
 have l:Hid (i.heap[w.heap.size]?=some (.cells #[iV f,iV t,iV d,iV k,iV a,.bool y,iV ph,iV pr,iV pa] 125 (0,0))):=by rw[<-v.out];exact aB w _
 have x:Hid (∀b,bW i b->b.cell? ⟨0,0,none⟩=some (.iface 318 (.pointer (some (A 1))))∧bW w b):=fun b g=>⟨(H.later (u.trans (g.mono u.size))).g1,u.trans (g.mono u.size)⟩
 clear H;obtain⟨n,z⟩:∃j:Bool,Hid (decide (0<=f∧f<=6)=j):=⟨_,hid (Eq.refl _)⟩;obtain⟨o,B⟩:∃j:Bool,Hid (decide (0<=t∧t<=6)=j):=⟨_,hid (Eq.refl _)⟩;obtain⟨p,C⟩:∃j:Bool,Hid (decide (0<=d∧d<=5)=j):=⟨_,hid (Eq.refl _)⟩;obtain⟨q,D⟩:∃j:Bool,Hid (decide (1<=k∧k<=7)=j):=⟨_,hid (Eq.refl _)⟩;obtain⟨r,E⟩:∃j:Bool,Hid (decide (0<=a∧a<=1048576)=j):=⟨_,hid (Eq.refl _)⟩;obtain⟨F,G⟩:∃j:Bool,Hid (decide (adN ph pr pa)=j):=⟨_,hid (Eq.refl _)⟩;have I:Hid (c=if(n&&(o&&(p&&(q&&(r&&F)))))=true then 0 else 2):=by
  unfold Hid;rw[<-h];refine afl ?_ 0 2;rw[<-z.out,<-B.out,<-C.out,<-D.out,<-E.out,<-G.out];simp only[mA,decide_eq_true_eq,Bool.and_eq_true]
 clear h;have O:=v.out;have P:i.cell? ⟨w.heap.size,0,none⟩=some (iV f):=by rw[ai l.out];rfl
 have Q:i.cell? ⟨w.heap.size,1,none⟩=some (iV t):=by rw[ai l.out];rfl
 have R:i.cell? ⟨w.heap.size,2,none⟩=some (iV d):=by rw[ai l.out];rfl
 have S:i.cell? ⟨w.heap.size,3,none⟩=some (iV k):=by rw[ai l.out];rfl
 have T:i.cell? ⟨w.heap.size,4,none⟩=some (iV a):=by rw[ai l.out];rfl
 have U:i.cell? ⟨w.heap.size,6,none⟩=some (iV ph):=by rw[ai l.out];rfl
 have V:i.cell? ⟨w.heap.size,7,none⟩=some (iV pr):=by rw[ai l.out];rfl
 have W:i.cell? ⟨w.heap.size,8,none⟩=some (iV pa):=by rw[ai l.out];rfl
 obtain⟨X,J⟩:=x.out i aF;have K:=hid J;clear J;have m:(n&&(o&&(p&&(q&&r))))=true∨(n&&(o&&(p&&(q&&r))))=false:=by cases (n&&(o&&(p&&(q&&r))))<;>simp
 rcases m with m|m
 ·simp only[Bool.and_eq_true]at m
  obtain⟨rfl,rfl,rfl,rfl,rfl⟩:=m
  cases F
  all_goals
   go_enter func214,ntmps214
   go_wp2_with (first|(go_at_call 237;first|(with_reducible refine(dG f 0 6 _ _ z.out).mono ?_;rintro e b ⟨rfl,g⟩;subst b)|(with_reducible refine(dG t 0 6 _ _ B.out).mono ?_;rintro e b ⟨rfl,g⟩;subst b)|(with_reducible refine(dG d 0 5 _ _ C.out).mono ?_;rintro e b ⟨rfl,g⟩;subst b)|(with_reducible refine(dG k 1 7 _ _ D.out).mono ?_;rintro e b ⟨rfl,g⟩;subst b)|(with_reducible refine(dG a 0 1048576 _ _ E.out).mono ?_;rintro e b ⟨rfl,g⟩;subst b))|(go_at_call 238;(with_reducible refine(ui ph pr pa _ _ G.out).mono ?_);rintro e b ⟨rfl,g⟩;obtain⟨L,s⟩:=x.out b g;have M:=hid s;clear g s))
   go_ret
   refine⟨by rw[I.out];rfl,Hid.out (by assumption)⟩
 ·have N:Hid (c=2):=by unfold Hid;rw[I.out];revert m;cases n<;>cases o<;>cases p<;>cases q<;>cases r<;>cases F<;>decide
  rcases ah3 n o with rfl|⟨rfl,rfl⟩|⟨rfl,rfl⟩
  all_goals rcases abJ p q r with rfl|⟨rfl,rfl⟩|⟨rfl,rfl,rfl⟩|⟨rfl,rfl,rfl⟩
  all_goals try(exact absurd m (by decide))
  all_goals clear m
  all_goals
   go_enter func214,ntmps214
   go_wp2_with (first|(go_at_call 237;first|(with_reducible refine(dG f 0 6 _ _ z.out).mono ?_;rintro e b ⟨rfl,g⟩;subst b)|(with_reducible refine(dG t 0 6 _ _ B.out).mono ?_;rintro e b ⟨rfl,g⟩;subst b)|(with_reducible refine(dG d 0 5 _ _ C.out).mono ?_;rintro e b ⟨rfl,g⟩;subst b)|(with_reducible refine(dG k 1 7 _ _ D.out).mono ?_;rintro e b ⟨rfl,g⟩;subst b)|(with_reducible refine(dG a 0 1048576 _ _ E.out).mono ?_;rintro e b ⟨rfl,g⟩;subst b))|(go_at_call 238;(with_reducible refine(ui ph pr pa _ _ G.out).mono ?_);rintro e b ⟨rfl,g⟩;obtain⟨L,s⟩:=x.out b g;have M:=hid s;clear g s))
   go_ret
   exact⟨by rw[N.out];rfl,K.out⟩
theorem ajh(w:World)(g:Nat)(a b c d e f h i j:Value):Kept (In1 g) w (((((((((w.setCell ⟨g,0,none⟩ a).setCell ⟨g,1,none⟩ b).setCell ⟨g,2,none⟩ c).setCell ⟨g,3,none⟩ d).setCell ⟨g,4,none⟩ e).setCell ⟨g,5,none⟩ f).setCell ⟨g,6,none⟩ h).setCell ⟨g,7,none⟩ i).setCell ⟨g,8,none⟩ j):=
 (((((((((Kept.refl _ _).set1 0 _).set1 1 _).set1 2 _).set1 3 _).set1 4 _).set1 5 _).set1 6 _).set1 7 _).set1 8 _
theorem oL{X:World}{g:Nat}{c e i j l m n o p:Value}(h:X.heap[g]?=some (.cells #[c,e,i,j,l,m,n,o,p] 125 (0,0)))(f t d k a:Int)(y:Bool)(ph pr pa:Int):∃b,Hid ((((((((((X.setCell ⟨g,0,none⟩ (.int .i64 f)).setCell ⟨g,1,none⟩ (.int .i64 t)).setCell ⟨g,2,none⟩ (.int .i64 d)).setCell ⟨g,3,none⟩ (.int .i64 k)).setCell ⟨g,4,none⟩ (.int .i64 a)).setCell ⟨g,5,none⟩ (.bool y)).setCell ⟨g,6,none⟩ (.int .i64 ph)).setCell ⟨g,7,none⟩ (.int .i64 pr)).setCell ⟨g,8,none⟩ (.int .i64 pa))=b)∧Hid (b.heap[g]?=some (.cells #[.int .i64 f,.int .i64 t,.int .i64 d,.int .i64 k,.int .i64 a,.bool y,.int .i64 ph,.int .i64 pr,.int .i64 pa] 125 (0,0)))∧Hid (Kept (In1 g) X b):=
 ⟨_,rfl,ae4 h _ _ _ _ _ _ _ _ _,ajh _ _ _ _ _ _ _ _ _ _ _⟩
theorem rJ{X:World}{g:Nat}{a:Array Value}{t:TypeId}(h:X.heap[g]?=some (.cells a t (0,0))):X.frozen? ⟨g,0,none⟩=false∧X.frozen? ⟨g,1,none⟩=false∧X.frozen? ⟨g,2,none⟩=false∧X.frozen? ⟨g,3,none⟩=false∧X.frozen? ⟨g,4,none⟩=false∧X.frozen? ⟨g,5,none⟩=false∧X.frozen? ⟨g,6,none⟩=false∧X.frozen? ⟨g,7,none⟩=false∧X.frozen? ⟨g,8,none⟩=false:=
 ⟨aK X g 0 _ _ h,aK X g 1 _ _ h,aK X g 2 _ _ h,aK X g 3 _ _ h,aK X g 4 _ _ h,aK X g 5 _ _ h,aK X g 6 _ _ h,aK X g 7 _ _ h,aK X g 8 _ _ h⟩
def aeO(id f d a:Int)(h:HOut):Array Value:=#[.int .i64 id,.int .i64 f,.int .i64 d,.int .i64 (h.k:Int),.int .i64 a,.bool h.yes,.int .i64 (h.st.ph:Int),.int .i64 (h.st.pr:Int),.int .i64 (h.st.at_:Int)]
def AnsV(w:World)(v:Value)(c:Nat)(id f d a:Int)(h:HOut):Prop:=
 if c=0∧h.k≠0 then ∃g cap,v=.slice (some ⟨g,0,none⟩) 1 cap∧w.heap[g]?=some (.cells (aeO id f d a h) 125 (0,0))else v=.slice none 0 0
theorem yA(a:Option Addr)(len cap:Nat)(w:World)(b:len<=maxLen)(h:len<1∨7<len):Calls prog 13 #[.slice a len cap] w fun e w'=>e=.returned (.int .i64 3)∧w'=w:=by
 unfold maxLen at b;rcases h with h|h
 ·have:len=0:=by omega
  subst this
  go_enter func13,ntmps13
  go_wp2
  go_ret
  exact⟨rfl,rfl⟩
 ·go_enter func13,ntmps13
  go_wp2
  go_ret
  exact⟨rfl,rfl⟩
theorem afP(b o cap:Nat)(zs:List Int)(w:World)(h:¬(zs.length<1∨7<zs.length))(g:∀i,i<zs.length->w.cell? ⟨b,o+i,none⟩=some (.int .i64 (zs.getD i 0))):Calls prog 13 #[.slice (some ⟨b,o,none⟩) zs.length cap] w fun e w'=>e=.returned (.int .i64 (bT zs))∧w'=w:=by
 have j:∀a,a<zs.length->(zs.getD a 0<0∨1000<zs.getD a 0)->Hid ((bT zs:Int)=2):=fun a p r=>by unfold Hid;rw[qj h p r];rfl
 have k:eM zs zs.length->tot zs=0->Hid ((bT zs:Int)=4):=fun c e=>by unfold Hid;rw[oN h c,af e];rfl
 have l:eM zs zs.length->¬tot zs=0->Hid ((bT zs:Int)=0):=fun c e=>by unfold Hid;rw[oN h c,aa e];rfl
 have A:¬zs.length<1:=fun c=>h (.inl c)
 have B:¬7<zs.length:=fun c=>h (.inr c)
 clear h
 go_enter func13,ntmps13
 go_wp2
 go_loop [3,4] (fun s i=>∃a:Nat,a<=zs.length∧eM zs a∧i=iV a∧s=iV (ey zs a)) (fun _ i=>zs.length-(intOf i).toNat)
 case atStart=>exact⟨0,Nat.zero_le _,fun i t=>absurd t (by omega),rfl,rfl⟩
 case round =>
  obtain⟨a,p,d,rfl,rfl⟩:=hrel;have C:=jx d
  by_cases f:a<zs.length
  ·have u:=g a f
   have m:=j a f;have v:Hid (ey zs (a+1)=ey zs a+zs.getD a 0):=rfl;have q:0<=zs.getD a 0->zs.getD a 0<=1000->eM zs (a+1):=tu d;clear j k l g;rw[fw zs a f]at m q u
   go_wp2
   ·go_ret
    exact⟨fJ (m (by omega)).out.symm,rfl⟩
   ·go_round
    case rel=>exact⟨a+1,by omega,q (by omega) (by omega),by go_num,eF (by rw[v.out,fw zs a f])⟩
    case measure=>simp[intOf];omega
   ·go_ret
    exact⟨fJ (m (by omega)).out.symm,rfl⟩
  ·have x:a=zs.length:=by omega
   subst x;have y:=k d;have z:=l d;clear j k l g
   go_wp2
   ·have n:(ey zs zs.length==0)=true:=by assumption
    go_ret
    exact⟨fJ (y (show ey zs zs.length=0 by simpa using n)).out.symm,rfl⟩
   ·have n:(ey zs zs.length==0)=false:=by assumption
    go_ret
    exact⟨fJ (z (show ¬ey zs zs.length=0 by simpa using n)).out.symm,rfl⟩
theorem ad2(v:Value)(zs:List Int)(w:World)(b:IsSl w v zs):Calls prog 13 #[v] w fun e w'=>e=.returned (.int .i64 (bT zs))∧w'=w:=by
 obtain⟨c,cap,rfl,d,-,f⟩:=b
 by_cases a:zs.length<1∨7<zs.length
 ·rw[rc a];exact yA c zs.length cap w d a
 ·obtain⟨g,h,rfl,i⟩:=f (by omega)
  exact afP g h cap zs w a i
theorem aej(s:Int)(i:Nat)(w:World)(a:i<=30)(h0:0<=s)(h1:s<=1073741824):Calls prog 211 #[.int .i64 s,.int .i64 i] w fun e w'=>e=.returned (.bool (bit s i))∧w'=w:=by
 have d:=pz a;have b:=hid (agb i h0)
 go_enter func211,ntmps211
 go_wp2_with (go_at_call 147;refine(rE i _ a).mono ?_;rintro e w' ⟨rfl,rfl⟩)
 go_ret
 exact⟨congrArg (fun c=>Ending.returned (.bool c)) (by rw[Int.tmod_eq_emod_of_nonneg (Int.ediv_nonneg h0 (by omega))];exact b.out),rfl⟩
theorem yr(s:Int)(i:Nat)(x:Bool)(w:World)(a:i<=30)(h0:0<=s)(h1:s<=1073741824)(b:bit s i=x):Calls prog 211 #[.int .i64 s,.int .i64 i] w fun e w'=>e=.returned (.bool x)∧w'=w:=by
 subst b;exact aej s i w a h0 h1
theorem pK(b j cap:Nat)(zs:List Int)(s:Int)(w:World)(p:zs.length<=7)(g:eM zs zs.length)(h0:0<=s)(h1:s<=1073741824)(k:∀i,i<zs.length->w.cell? ⟨b,j+i,none⟩=some (.int .i64 (zs.getD i 0))):Calls prog 183 #[.slice (some ⟨b,j,none⟩) zs.length cap,.int .i64 s] w fun e w'=>e=.returned (.int .i64 (dx zs s zs.length))∧w'=w:=by
 have l:=hid k;clear k
 go_enter func183,ntmps183
 go_wp2
 go_loop [5,6] (fun m i=>∃a:Nat,a<=zs.length∧i=iV a∧m=iV (dx zs s a)) (fun _ i=>zs.length-(intOf i).toNat)
 case atStart=>exact⟨0,Nat.zero_le _,rfl,rfl⟩
 case round =>
  obtain⟨a,q,rfl,rfl⟩:=hrel
  by_cases d:a<zs.length
  ·have r:=l.out a d
   have t:=kL s (k:=a) (zs:=zs) (fun i n=>g i (by omega));have u:=jx (k:=a) (zs:=zs) (fun i n=>g i (by omega));have o:=g a d;have f:Hid (dx zs s (a+1)=dx zs s a+if bit s a then zs.getD a 0 else 0):=rfl;rw[fw zs a d]at o
   cases c:bit s a with
   | false =>
    rw[c]at f;have h:=hid c;clear c
    go_wp2_with (go_at_call 211;refine(yr s a false _ (by omega) h0 h1 h).mono ?_;rintro e w' ⟨rfl,rfl⟩)
    go_round
    case rel=>exact⟨a+1,by omega,by go_num,eF (by rw[f.out];simp)⟩
    case measure=>simp[intOf];omega
   | true =>
    rw[c]at f;have h:=hid c;clear c
    go_wp2_with (go_at_call 211;refine(yr s a true _ (by omega) h0 h1 h).mono ?_;rintro e w' ⟨rfl,rfl⟩)
    go_round
    case rel=>exact⟨a+1,by omega,by go_num,eF (by rw[f.out,fw zs a d];simp)⟩
    case measure=>simp[intOf];omega
  ·go_wp2
   go_ret
   exact⟨fJ (by rw[show a=zs.length by omega]),rfl⟩
theorem wX(b c cap:Nat)(zs:List Int)(s:Int)(w:World)(f:zs.length<=7)(d:eM zs zs.length)(h0:0<=s)(h1:s<=1073741824)(j:∀i,i<zs.length->w.cell? ⟨b,c+i,none⟩=some (.int .i64 (zs.getD i 0))):Calls prog 149 #[.slice (some ⟨b,c,none⟩) zs.length cap,.int .i64 s] w fun e w'=>e=.returned (.bool (bn zs s))∧w'=w:=by
 have g:=hid j;clear j;have o:=dZ f;have p:=kL s (k:=zs.length) (zs:=zs) d;have k:=jx (k:=zs.length) (zs:=zs) d;have l:Hid (dx zs (2^zs.length-1) zs.length=tot zs):=nH zs aj;have q:0<=tot zs∧tot zs<=1000*zs.length:=k;have m:=hid (vY zs s)
 go_enter func149,ntmps149
 go_wp2_with fail
 refine(pK b c cap zs s _ f d h0 h1 g).mono ?_;rintro e h ⟨rfl,a⟩;subst a
 go_wp2_with fail
 refine(rE zs.length _ (by omega)).mono ?_;rintro e h ⟨rfl,a⟩;subst a
 go_wp2_with fail
 refine(pK b c cap zs (2^zs.length-1) _ f d (by omega) (by omega) g).mono ?_;rintro e h ⟨rfl,a⟩;subst a;rw[l.out]
 go_wp2_with fail
 refine(pK b c cap zs s _ f d h0 h1 g).mono ?_;rintro e h ⟨rfl,a⟩;subst a
 go_wp2_with fail
 go_ret
 exact⟨congrArg (fun n=>Ending.returned (.bool n)) m.out,rfl⟩
theorem qU(b a cap:Nat)(zs:List Int)(s:Int)(x:Bool)(w:World)(c:zs.length<=7)(d:eM zs zs.length)(h0:0<=s)(h1:s<=1073741824)(f:∀i,i<zs.length->w.cell? ⟨b,a+i,none⟩=some (.int .i64 (zs.getD i 0)))(g:bn zs s=x):Calls prog 149 #[.slice (some ⟨b,a,none⟩) zs.length cap,.int .i64 s] w fun e w'=>e=.returned (.bool x)∧w'=w:=by
 subst g;exact wX b a cap zs s w c d h0 h1 f
theorem xD(c:UInt8)(w:World):Calls prog 178 #[.int .u8 (c.toNat:Int)] w fun e w'=>e=.returned (.int .i64 (eU c:Int))∧w'=w:=by
 by_cases a:c=78
 ·subst a
  go_enter func178,ntmps178
  go_wp2_with fail
  go_ret
  exact⟨rfl,rfl⟩
 ·have d:¬(c.toNat:Int)=78:=fun e=>a (UInt8.toNat_inj.1 (show c.toNat=78 by omega))
  have b:eU c=1:=by unfold eU;rw[aa a]
  rw[b]
  go_enter func178,ntmps178
  go_wp2_with fail
  go_ret
  exact⟨rfl,rfl⟩
def rF:Option Nat->Value
 | none=>.tuple #[.int .i64 0,.bool false]
 | some n=>.tuple #[.int .i64 (n:Int),.bool true]
theorem sg(s:ByteArray)(k:Nat)(w:World)(K:k<=5)(h1:¬k<s.size)(L:s.toList.isEmpty=false)(E:eX k s.data.toList=dA s.data.toList 0)(F:¬1<s.size∨(1<s.size∧∃x:UInt8,(∀w',(Instr.index 9 (.string s) (.int .i64 0)).run prog w'=.ok (.int .u8 (x.toNat:Int)) w')∧((x.toNat:Int)==48)=false)):Calls prog 177 #[.string s,.int .i64 (k:Int)] w fun e w'=>e=.returned (rF (eX k s.data.toList))∧w'=w:=by
 have o:=hid E;obtain⟨d,h⟩:=nmd (s.size);have M:d<=5:=by rw[<-h.out];omega
 clear E;rcases F with p|⟨p,x,N,O⟩
 ·go_enter func177,ntmps177
  go_wp2_with fail
  rw[h.out]
  go_loopw [4,5,27] (fun y z i wr=>∃a c:Nat,a<=d∧y=iV (c:Int)∧z=.bool false∧i=iV (a:Int)∧wr=w∧Hid (dA (s.data.toList.take a) 0=some c)) (fun _ _ i _=>d-(intOf i).toNat)
  case atStart=>exact⟨0,0,Nat.zero_le _,rfl,rfl,rfl,rfl,rfl⟩
  case round =>
   obtain⟨a,c,G,rfl,rfl,rfl,A,f⟩:=hrel;subst A;have H:c<100000:=by
    have h1:=ml _ 0 c f;have p:(s.data.toList.take a).length<=5:=by rw[bI];omega
    have I:=Nat.pow_le_pow_right (n:=10) (by omega) p;omega
   by_cases B:a<d
   ·have j:a<s.size:=by rw[h.out];exact B
    have J:(a:Int)<(d:Int):=by omega
    obtain⟨b,q⟩:=nmd ((s[a]'j));have C:∀w',(Instr.index 9 (.string s) (iV (a:Int))).run prog w'=.ok (.int .u8 (b.toNat:Int)) w':=fun w'=>by rw[eV s a a j rfl w',q.out]
    have l:Hid (s.data.toList.take (a+1)=s.data.toList.take a++[b]):=by
     rw[List.take_succ_eq_append_getElem (by simpa using j)];rw[<-q.out];exact rfl
    by_cases r:b.toNat<48
    ·have t:(b.toNat:Int)<48:=by omega
     have m:Hid (dA s.data.toList 0=none):=by
      rw[<-List.take_append_drop (a+1) s.data.toList];refine jQ _ _ _ ?_;rw[l.out,fV _ _ _ _ f.out,af (.inl r)]
     go_wp2_with fail
     go_ret2
     exact⟨by rw[o.out,m.out];rfl,rfl⟩
    ·have t:¬(b.toNat:Int)<48:=by omega
     by_cases u:57<b.toNat
     ·have v:(57:Int)<(b.toNat:Int):=by omega
      have m:Hid (dA s.data.toList 0=none):=by
       rw[<-List.take_append_drop (a+1) s.data.toList];refine jQ _ _ _ ?_;rw[l.out,fV _ _ _ _ f.out,af (.inr u)]
      go_wp2_with fail
      go_ret2
      exact⟨by rw[o.out,m.out];rfl,rfl⟩
     ·have v:¬(57:Int)<(b.toNat:Int):=by omega
      have g:Hid (dA (s.data.toList.take (a+1)) 0=some (10*c+(b.toNat-48))):=by
       change _=_;rw[l.out,fV _ _ _ _ f.out,aa (by omega)]
      obtain⟨n,D⟩:∃n:Nat,Hid (b.toNat=n):=⟨_,rfl⟩;rw[D.out]at C t v g r u
      go_wp2_with fail
      go_roundw
      case rel=>exact⟨a+1,10*c+(n-48),by omega,by go_num,rfl,by go_num,trivial,g⟩
      case measure=>simp[intOf];omega
   ·obtain rfl:a=d:=by omega
    have g:Hid (dA s.data.toList 0=some c):=by
     have:=f.out;rw[List.take_of_length_le (by simpa using Nat.le_of_eq h)]at this;exact this
    go_wp2_with fail
    go_ret2
    exact⟨by rw[o.out,g.out];rfl,rfl⟩
 ·go_enter func177,ntmps177
  go_wp2_with fail
  rw[h.out]
  go_loopw [4,5,27] (fun y z i wr=>∃a c:Nat,a<=d∧y=iV (c:Int)∧z=.bool false∧i=iV (a:Int)∧wr=w∧Hid (dA (s.data.toList.take a) 0=some c)) (fun _ _ i _=>d-(intOf i).toNat)
  case atStart=>exact⟨0,0,Nat.zero_le _,rfl,rfl,rfl,rfl,rfl⟩
  case round =>
   obtain⟨a,c,G,rfl,rfl,rfl,A,f⟩:=hrel;subst A;have H:c<100000:=by
    have h1:=ml _ 0 c f;have p:(s.data.toList.take a).length<=5:=by rw[bI];omega
    have I:=Nat.pow_le_pow_right (n:=10) (by omega) p;omega
   by_cases B:a<d
   ·have j:a<s.size:=by rw[h.out];exact B
    have J:(a:Int)<(d:Int):=by omega
    obtain⟨b,q⟩:=nmd ((s[a]'j));have C:∀w',(Instr.index 9 (.string s) (iV (a:Int))).run prog w'=.ok (.int .u8 (b.toNat:Int)) w':=fun w'=>by rw[eV s a a j rfl w',q.out]
    have l:Hid (s.data.toList.take (a+1)=s.data.toList.take a++[b]):=by
     rw[List.take_succ_eq_append_getElem (by simpa using j)];rw[<-q.out];exact rfl
    by_cases r:b.toNat<48
    ·have t:(b.toNat:Int)<48:=by omega
     have m:Hid (dA s.data.toList 0=none):=by
      rw[<-List.take_append_drop (a+1) s.data.toList];refine jQ _ _ _ ?_;rw[l.out,fV _ _ _ _ f.out,af (.inl r)]
     go_wp2_with fail
     go_ret2
     exact⟨by rw[o.out,m.out];rfl,rfl⟩
    ·have t:¬(b.toNat:Int)<48:=by omega
     by_cases u:57<b.toNat
     ·have v:(57:Int)<(b.toNat:Int):=by omega
      have m:Hid (dA s.data.toList 0=none):=by
       rw[<-List.take_append_drop (a+1) s.data.toList];refine jQ _ _ _ ?_;rw[l.out,fV _ _ _ _ f.out,af (.inr u)]
      go_wp2_with fail
      go_ret2
      exact⟨by rw[o.out,m.out];rfl,rfl⟩
     ·have v:¬(57:Int)<(b.toNat:Int):=by omega
      have g:Hid (dA (s.data.toList.take (a+1)) 0=some (10*c+(b.toNat-48))):=by
       change _=_;rw[l.out,fV _ _ _ _ f.out,aa (by omega)]
      obtain⟨n,D⟩:∃n:Nat,Hid (b.toNat=n):=⟨_,rfl⟩;rw[D.out]at C t v g r u
      go_wp2_with fail
      go_roundw
      case rel=>exact⟨a+1,10*c+(n-48),by omega,by go_num,rfl,by go_num,trivial,g⟩
      case measure=>simp[intOf];omega
   ·obtain rfl:a=d:=by omega
    have g:Hid (dA s.data.toList 0=some c):=by
     have:=f.out;rw[List.take_of_length_le (by simpa using Nat.le_of_eq h)]at this;exact this
    go_wp2_with fail
    go_ret2
    exact⟨by rw[o.out,g.out];rfl,rfl⟩
theorem sD(s:ByteArray)(k:Nat)(w:World)(o:k<=5):Calls prog 177 #[.string s,.int .i64 (k:Int)] w fun e w'=>e=.returned (rF (eX k s.data.toList))∧w'=w:=by
 have d:s.data.toList.length=s.size:=rfl;have g:s.toList.isEmpty=decide (s.size=0):=by
  rw[Lib.toList_data,<-d]
  cases s.data.toList<;>simp
 by_cases h:s.size=0
 ·have i:s.data.toList=[]:=List.length_eq_zero_iff.1 (d.trans h)
  have n:s.toList.isEmpty=true:=by rw[g];simpa using h
  have b:Hid (eX k s.data.toList=none):=by change _=_;unfold eX;rw[af (.inl i)]
  clear g
  go_enter func177,ntmps177
  go_wp2_with fail
  go_ret2
  exact⟨by rw[b.out];rfl,rfl⟩
 ·have n:s.toList.isEmpty=false:=by rw[g];simpa using h
  have i:s.data.toList≠[]:=fun e=>h (by rw[<-d,e];rfl)
  clear g
  by_cases f:k<s.size
  ·have b:Hid (eX k s.data.toList=none):=by change _=_;unfold eX;rw[af (.inr (.inl (by rw[d];exact f)))]
   go_enter func177,ntmps177
   go_wp2_with fail
   go_ret2
   exact⟨by rw[b.out];rfl,rfl⟩
  ·by_cases j:1<s.size
   ·have p:0<s.size:=by omega
    obtain⟨c,q⟩:=nmd ((s[0]'p));have v:∀w',(Instr.index 9 (.string s) (iV 0)).run prog w'=.ok (.int .u8 (c.toNat:Int)) w':=fun w'=>by rw[eV s 0 0 p rfl w',q.out]
    have r:s.data.toList.getD 0 0=c:=by
     rw[List.getD,cG (by omega),Option.getD_some,<-q.out];exact rfl
    by_cases l:c=48
    ·have b:Hid (eX k s.data.toList=none):=by change _=_;unfold eX;rw[af (.inr (.inr ⟨by rw[d];exact j,by rw[r,l]⟩))]
     have m:(c.toNat:Int)=48:=by rw[l];rfl
     have t:((c.toNat:Int)==48)=true:=by rw[m];rfl
     clear m
     go_enter func177,ntmps177
     go_wp2_with fail
     go_ret2
     exact⟨by rw[b.out];rfl,rfl⟩
    ·have m:¬(c.toNat:Int)=48:=fun e=>l (UInt8.toNat_inj.1 (show c.toNat=48 by omega))
     have t:((c.toNat:Int)==48)=false:=by simpa using m
     have b:Hid (eX k s.data.toList=dA s.data.toList 0):=by
      change _=_;unfold eX;rw[aa];rintro(a|a|⟨-,a⟩)
      ·exact i a
      ·rw[d]at a;exact f a
      ·rw[r]at a;exact l a
     exact sg s k w o f n b (.inr ⟨j,c,v,t⟩)
   ·have b:Hid (eX k s.data.toList=dA s.data.toList 0):=by
     change _=_;unfold eX;rw[aa];rintro(a|a|⟨a,-⟩)
     ·exact i a
     ·rw[d]at a;exact f a
     ·rw[d]at a;exact j a
    exact sg s k w o f n b (.inl j)
theorem acd(p:Int)(L:List S3)(k:Nat)(h:k<L.length):gv p (L.take (k+1))=(gv p (L.take k)||decide (L[k].p=p)):=by
 unfold gv;rw[iv L k h,List.any_append];simp
theorem agk(p:Int)(L:List S3)(k:Nat)(h:k<L.length)(e:L[k].p=p):gv p L=true:=(je p L).2 ⟨_,List.getElem_mem h,e⟩
theorem acx(b:Int)(L:List S3)(k:Nat)(h:k<L.length):ie b (L.take (k+1))=(ie b (L.take k)||decide (L[k].p=4∧L[k].a=b)):=by
 unfold ie;rw[iv L k h,List.any_append];simp
theorem afI(b:Int)(L:List S3)(k:Nat)(h:k<L.length)(e:L[k].p=4)(a:L[k].a=b):ie b L=true:=(uL b L).2 ⟨_,List.getElem_mem h,e,a⟩
theorem afM(L:List S3)(k:Nat)(h:k<L.length):be (L.take (k+1))=beS (be (L.take k)) L[k]:=by rw[iv L k h,xJ]
theorem adD(a:Option Addr)(cap:Nat)(L:List S3)(ph:Int)(w:World)(x:L.length<=200)(j:SL w a L):Calls prog 184 #[.slice a L.length cap,.int .i64 ph] w fun e w'=>e=.returned (.bool (gv ph L))∧w'=w:=by
 have o:=hid j;have p:Hid (gv ph (L.take L.length)=gv ph L):=by unfold Hid;rw[List.take_length]
 obtain⟨c,h⟩:=nmd (gv ph L);rw[h.out];clear j
 go_enter func184,ntmps184
 go_wp2_with fail
 go_loop [5] (fun i=>∃b:Nat,b<=L.length∧i=iV (b:Int)∧gv ph (L.take b)=false) (fun i=>L.length-(intOf i).toNat)
 case atStart=>exact⟨0,Nat.zero_le _,rfl,rfl⟩
 case round =>
  obtain⟨b,y,rfl,k⟩:=hrel;have l:=hid k;clear k
  by_cases d:b<L.length
  ·have f:=hid (acd ph L b d)
   have g:=hid (agk ph L b d);obtain⟨z,A,rfl,q,r,s⟩:=o.out b d;obtain⟨⟨t,B,C⟩,m⟩:∃u,Hid (L[b]'d=u):=⟨_,rfl⟩;rw[m.out]at q r s f g;clear m
   by_cases n:t=ph
   ·subst n
    obtain rfl:true=c:=(g rfl).symm.trans h;clear f g
    go_wp2_with fail
    go_ret
    exact⟨rfl,rfl⟩
   ·have v:Hid (gv ph (L.take (b+1))=false):=by unfold Hid;rw[f.out,l.out];simpa using n
    clear f g
    go_wp2_with fail
    go_round
    case rel=>exact⟨b+1,by omega,by go_num,v.out⟩
    case measure=>simp[intOf];omega
  ·obtain rfl:b=L.length:=by omega
   obtain rfl:false=c:=l.symm.trans (p.trans h)
   go_wp2_with fail
   go_ret
   exact⟨rfl,rfl⟩
theorem lT(a:Option Addr)(cap:Nat)(L:List S3)(ph:Int)(r:Bool)(w:World)(b:L.length<=200)(c:SL w a L)(h:gv ph L=r):Calls prog 184 #[.slice a L.length cap,.int .i64 ph] w fun e w'=>e=.returned (.bool r)∧w'=w:=by subst h;exact adD a cap L ph w b c
theorem wO(a:Option Addr)(cap:Nat)(L:List S3)(w:World)(t:L.length<=200)(M:SL w a L):Calls prog 151 #[.slice a L.length cap] w fun e w'=>e=.returned (.tuple #[.int .i64 (gc L).1,.bool (gc L).2])∧w'=w:=by
 have l:=hid M;obtain⟨⟨o,p⟩,E⟩:∃i,Hid (gc L=i):=⟨_,rfl⟩;rw[E.out];obtain⟨N,z⟩:=nmd (gv 2 L);obtain⟨O,F⟩:=nmd (gv 3 L);have q:Hid ((if N=true then((2:Int),true)else if O=true then(3,true)else if ie (be L).2 L=true then(4,false)else(5,false))=(o,p)):=by
  unfold Hid;rw[<-E.out];unfold gc;rw[z.out,F.out]
 have P:Hid (be (L.take L.length)=be L):=by unfold Hid;rw[List.take_length]
 clear M E
 cases N with
 | true =>
  obtain⟨rfl,rfl⟩:(2:Int)=o∧true=p:=by simpa using q.out
  clear q
  go_enter func151,ntmps151
  go_wp2_with (go_at_call 184;(with_reducible refine(lT a cap L 2 true _ t l.out z.out).mono ?_);rintro e A ⟨rfl,rfl⟩)
  go_ret2
  exact⟨rfl,rfl⟩
 | false =>
  cases O with
  | true =>
   obtain⟨rfl,rfl⟩:(3:Int)=o∧true=p:=by simpa using q.out
   clear q
   go_enter func151,ntmps151
   go_wp2_with (go_at_call 184;first|((with_reducible refine(lT a cap L 2 false _ t l.out z.out).mono ?_);rintro e A ⟨rfl,rfl⟩)|((with_reducible refine(lT a cap L 3 true _ t l.out F.out).mono ?_);rintro e A ⟨rfl,rfl⟩))
   go_ret2
   exact⟨rfl,rfl⟩
  | false =>
   have r:Hid ((if ie (be L).2 L=true then((4:Int),false)else(5,false))=(o,p)):=by unfold Hid;simpa using q.out
   clear q
   go_enter func151,ntmps151
   go_wp2_with (go_at_call 184;first|((with_reducible refine(lT a cap L 2 false _ t l.out z.out).mono ?_);rintro e A ⟨rfl,rfl⟩)|((with_reducible refine(lT a cap L 3 false _ t l.out F.out).mono ?_);rintro e A ⟨rfl,rfl⟩))
   go_loop [4,5,6] (fun j G m=>∃b:Nat,b<=L.length∧j=.bool (be (L.take b)).1∧G=iV (be (L.take b)).2∧m=iV (b:Int)) (fun _ _ m=>L.length-(intOf m).toNat)
   case atStart=>exact⟨0,Nat.zero_le _,rfl,rfl,rfl⟩
   case round =>
    obtain⟨b,T,rfl,rfl,rfl⟩:=hrel
    by_cases k:b<L.length
    ·have f:=hid (afM L b k)
     obtain⟨G,U,rfl,B,C,D⟩:=l.out b k;obtain⟨⟨s,V,h⟩,u⟩:∃H,Hid (L[b]'k=H):=⟨_,rfl⟩;rw[u.out]at B C D f;obtain⟨⟨j,d⟩,v⟩:∃i,Hid (be (L.take b)=i):=⟨_,rfl⟩;rw[v.out]at f ⊢;clear u v r
     by_cases I:s=4
     ·subst I
      have g:Hid (be (L.take (b+1))=(false,if j=true∨d<h then h else d)):=by unfold Hid;rw[f.out];unfold beS;exact af (.inl rfl)
      clear f
      cases j with
      | true =>
       have c:Hid (be (L.take (b+1))=(false,h)):=by unfold Hid;rw[g.out,af (.inl rfl)]
       clear g
       go_wp2_with fail
       go_round
       case rel=>exact⟨b+1,by omega,by rw[c.out],by rw[c.out],by go_num⟩
       case measure=>simp[intOf];omega
      | false =>
       by_cases x:d<h
       ·have c:Hid (be (L.take (b+1))=(false,h)):=by unfold Hid;rw[g.out,af (.inr x)]
        clear g
        go_wp2_with fail
        go_round
        case rel=>exact⟨b+1,by omega,by rw[c.out],by rw[c.out],by go_num⟩
        case measure=>simp[intOf];omega
       ·have c:Hid (be (L.take (b+1))=(false,d)):=by unfold Hid;rw[g.out,aa (by simpa using x)]
        clear g
        go_wp2_with fail
        go_round
        case rel=>exact⟨b+1,by omega,by rw[c.out],by rw[c.out],by go_num⟩
        case measure=>simp[intOf];omega
     ·by_cases J:s=5
      ·subst J
       have g:Hid (be (L.take (b+1))=(false,if j=true∨d<h then h else d)):=by unfold Hid;rw[f.out];unfold beS;exact af (.inr rfl)
       clear f
       cases j with
       | true =>
        have c:Hid (be (L.take (b+1))=(false,h)):=by unfold Hid;rw[g.out,af (.inl rfl)]
        clear g
        go_wp2_with fail
        go_round
        case rel=>exact⟨b+1,by omega,by rw[c.out],by rw[c.out],by go_num⟩
        case measure=>simp[intOf];omega
       | false =>
        by_cases x:d<h
        ·have c:Hid (be (L.take (b+1))=(false,h)):=by unfold Hid;rw[g.out,af (.inr x)]
         clear g
         go_wp2_with fail
         go_round
         case rel=>exact⟨b+1,by omega,by rw[c.out],by rw[c.out],by go_num⟩
         case measure=>simp[intOf];omega
        ·have c:Hid (be (L.take (b+1))=(false,d)):=by unfold Hid;rw[g.out,aa (by simpa using x)]
         clear g
         go_wp2_with fail
         go_round
         case rel=>exact⟨b+1,by omega,by rw[c.out],by rw[c.out],by go_num⟩
         case measure=>simp[intOf];omega
      ·have c:Hid (be (L.take (b+1))=(j,d)):=by unfold Hid;rw[f.out];unfold beS;exact aa (fun W=>W.elim I J)
       clear f;have Y:(s==4)=false:=beq_eq_false_iff_ne.2 I;have Z:(s==5)=false:=beq_eq_false_iff_ne.2 J;simp only at B C D
       go_wp2_with fail
       go_round
       case rel=>exact⟨b+1,by omega,by rw[c.out],by rw[c.out],by go_num⟩
       case measure=>simp[intOf];omega
    ·obtain rfl:b=L.length:=by omega
     rw[P.out];obtain⟨⟨j,d⟩,v⟩:∃i,Hid (be L=i):=⟨_,rfl⟩;rw[v.out]at r ⊢;have X:Hid (ie d (L.take L.length)=ie d L):=by unfold Hid;rw[List.take_length]
     clear P v
     go_wp2_with fail
     go_loop [7] (fun m=>∃b:Nat,b<=L.length∧m=iV (b:Int)∧ie d (L.take b)=false) (fun m=>L.length-(intOf m).toNat)
     case atStart=>exact⟨0,Nat.zero_le _,rfl,rfl⟩
     case round =>
      obtain⟨b,T,rfl,Q⟩:=hrel;have K:=hid Q;clear Q
      by_cases k:b<L.length
      ·have f:=hid (acx d L b k)
       have y:=hid (afI d L b k);obtain⟨G,U,rfl,B,C,D⟩:=l.out b k;obtain⟨⟨s,V,h⟩,u⟩:∃H,Hid (L[b]'k=H):=⟨_,rfl⟩;rw[u.out]at B C D f y;clear u
       by_cases R:s=4
       ·subst R
        by_cases S:h=d
        ·subst S
         have n:=r.out;rw[af (y.out rfl rfl)]at n;obtain⟨rfl,rfl⟩:(4:Int)=o∧false=p:=by simpa using n
         clear n r f y
         go_wp2_with fail
         go_ret2
         exact⟨rfl,rfl⟩
        ·have c:Hid (ie d (L.take (b+1))=false):=by unfold Hid;rw[f.out,K.out];simpa using S
         clear f y
         go_wp2_with fail
         go_round
         case rel=>exact⟨b+1,by omega,by go_num,c.out⟩
         case measure=>simp[intOf];omega
       ·have c:Hid (ie d (L.take (b+1))=false):=by unfold Hid;rw[f.out,K.out];simp[R]
        clear f y
        go_wp2_with fail
        go_round
        case rel=>exact⟨b+1,by omega,by go_num,c.out⟩
        case measure=>simp[intOf];omega
      ·obtain rfl:b=L.length:=by omega
       have n:=r.out;rw[aa (by rw[<-X.out,K.out];decide)]at n;obtain⟨rfl,rfl⟩:(5:Int)=o∧false=p:=by simpa using n
       clear n r
       go_wp2_with fail
       go_ret2
       exact⟨rfl,rfl⟩
end Go.Proofs.YtaehdgemkafinaaGreatDoor
