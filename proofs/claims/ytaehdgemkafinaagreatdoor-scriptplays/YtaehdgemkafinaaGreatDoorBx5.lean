/-
  On the way to SPlaysProof: S0 KV L1 L2 L3.
-/
import Derived.Test.YtaehdgemkafinaaGreatDoorBx1
import Derived.Laws.Rows
import Derived.BigRegion
import Derived.RegionTactic
import Derived.Laws.StructEq
import Derived.Laws.AppendOwn
import Derived.Laws.OwnMore
import Derived.Deep.AppendLies
import Derived.Deep.RegionHeldLaw
import Derived.Deep.RegionLawGrows
import Derived.Laws.ResultCell
set_option maxHeartbeats 8000000
set_option maxRecDepth 100000
namespace Go.Proofs.YtaehdgemkafinaaGreatDoor
open Go.Proofs.Tryz
structure HOut where
 st:St
 k:Nat
 yes:Bool
def aT(p:Nat):Bool:=decide (p=2∨p=3)
def jf(s:St)(ref:Bool):Nat:=if s.ph=0 then(if ref=true then 3 else 1)else s.ph
def aO(s:St)(ref:Bool)(k a ph:Nat):HOut:=
 if k=1 then⟨⟨jf s ref,s.pr,s.at_⟩,2,decide (jf s ref≠3)⟩
 else if k=3 then(if s.pr<a then⟨⟨s.ph,a,s.at_⟩,4,true⟩else⟨s,4,false⟩)
 else if k=5 then(if ph=4∨ph=5 then(if s.pr<=a∧aT s.ph=false then⟨⟨ph,a,a⟩,6,true⟩else⟨s,6,false⟩)else⟨s,0,false⟩)
 else if k=7 then(if aT ph=true∧aT s.ph=false then⟨⟨ph,s.pr,s.at_⟩,0,false⟩else⟨s,0,false⟩)
 else⟨s,0,false⟩
def St.good(s:St):Prop:=s.ph<=5∧s.pr<=1048576∧s.at_<=s.pr
def jv(a b:Nat):Prop:=a<=5∧b<=5∧(a=b∨a=0∨(a=1∧b≠0)∨((a=4∨a=5)∧b≠0∧b≠1))
theorem tg(s:St)(e:Bool)(k a ph:Nat)(h:s.good)(j:a<=1048576)(f:ph<=5):(aO s e k a ph).st.good∧s.pr<=(aO s e k a ph).st.pr∧s.at_<=(aO s e k a ph).st.at_∧jv s.ph (aO s e k a ph).st.ph:=by
 obtain⟨b,c,d⟩:=h;unfold aO
 repeat' split
 ·unfold jf St.good jv
  simp only;refine⟨⟨?_,c,d⟩,aj,aj,b,?_,?_⟩
  ·repeat' split
   all_goals omega
  ·repeat' split
   all_goals omega
  ·repeat' split
   all_goals omega
 ·rename_i l
  exact⟨⟨b,j,by show s.at_<=a;omega⟩,by show s.pr<=a;omega,aj,b,b,.inl rfl⟩
 ·exact⟨⟨b,c,d⟩,aj,aj,b,b,.inl rfl⟩
 ·rename_i m i
  obtain⟨i,g⟩:=i;have n:=of_decide_eq_false g;refine⟨⟨f,j,aj⟩,i,by show s.at_<=a;omega,b,f,?_⟩;show s.ph=ph∨s.ph=0∨(s.ph=1∧ph≠0)∨((s.ph=4∨s.ph=5)∧ph≠0∧ph≠1);omega
 ·exact⟨⟨b,c,d⟩,aj,aj,b,b,.inl rfl⟩
 ·exact⟨⟨b,c,d⟩,aj,aj,b,b,.inl rfl⟩
 ·rename_i g
  have o:=cK g.1;have p:=of_decide_eq_false g.2;refine⟨⟨f,c,d⟩,aj,aj,b,f,?_⟩;show s.ph=ph∨s.ph=0∨(s.ph=1∧ph≠0)∨((s.ph=4∨s.ph=5)∧ph≠0∧ph≠1);omega
 ·exact⟨⟨b,c,d⟩,aj,aj,b,b,.inl rfl⟩
 ·exact⟨⟨b,c,d⟩,aj,aj,b,b,.inl rfl⟩
end Go.Proofs.YtaehdgemkafinaaGreatDoor
namespace Go.Proofs.YtaehdgemkafinaaGreatDoor
open Go.RowKit
open Go.Proofs.Tryz
abbrev frV(f t d k a:Int)(y:Bool)(ph pr pa:Int):Value:=.agg #[.int .i64 f,.int .i64 t,.int .i64 d,.int .i64 k,.int .i64 a,.bool y,.int .i64 ph,.int .i64 pr,.int .i64 pa]
theorem bH{w:World}{g:Nat}{f t d k a:Int}{y:Bool}{ph pr pa:Int}{ty:TypeId}{fr:Nat×Nat}(h:w.heap[g]?=some (.cells #[.int .i64 f,.int .i64 t,.int .i64 d,.int .i64 k,.int .i64 a,.bool y,.int .i64 ph,.int .i64 pr,.int .i64 pa] ty fr)):w.cell? ⟨g,0,none⟩=some (.int .i64 f)∧w.cell? ⟨g,1,none⟩=some (.int .i64 t)∧w.cell? ⟨g,2,none⟩=some (.int .i64 d)∧w.cell? ⟨g,3,none⟩=some (.int .i64 k)∧w.cell? ⟨g,4,none⟩=some (.int .i64 a)∧w.cell? ⟨g,5,none⟩=some (.bool y)∧w.cell? ⟨g,6,none⟩=some (.int .i64 ph)∧w.cell? ⟨g,7,none⟩=some (.int .i64 pr)∧w.cell? ⟨g,8,none⟩=some (.int .i64 pa):=by
 refine⟨?_,?_,?_,?_,?_,?_,?_,?_,?_⟩<;>rw[ai h]<;>rfl
theorem ae4{w:World}{g:Nat}{u r p o m k j f d:Value}{t:TypeId}(h:w.heap[g]?=some (.cells #[u,r,p,o,m,k,j,f,d] t (0,0)))(a b c e i l n q s:Value):(((((((((w.setCell ⟨g,0,none⟩ a).setCell ⟨g,1,none⟩ b).setCell ⟨g,2,none⟩ c).setCell ⟨g,3,none⟩ e).setCell ⟨g,4,none⟩ i).setCell ⟨g,5,none⟩ l).setCell ⟨g,6,none⟩ n).setCell ⟨g,7,none⟩ q).setCell ⟨g,8,none⟩ s).heap[g]?=some (.cells #[a,b,c,e,i,l,n,q,s] t (0,0)):=by
 have v:(w.setCell ⟨g,0,none⟩ a).heap[g]?=some (.cells #[a,r,p,o,m,k,j,f,d] t (0,0)):=aE _ g 0 #[u,r,p,o,m,k,j,f,d] t a h;have x:((w.setCell ⟨g,0,none⟩ a).setCell ⟨g,1,none⟩ b).heap[g]?=some (.cells #[a,b,p,o,m,k,j,f,d] t (0,0)):=aE _ g 1 #[a,r,p,o,m,k,j,f,d] t b v;have y:(((w.setCell ⟨g,0,none⟩ a).setCell ⟨g,1,none⟩ b).setCell ⟨g,2,none⟩ c).heap[g]?=some (.cells #[a,b,c,o,m,k,j,f,d] t (0,0)):=aE _ g 2 #[a,b,p,o,m,k,j,f,d] t c x;have z:((((w.setCell ⟨g,0,none⟩ a).setCell ⟨g,1,none⟩ b).setCell ⟨g,2,none⟩ c).setCell ⟨g,3,none⟩ e).heap[g]?=some (.cells #[a,b,c,e,m,k,j,f,d] t (0,0)):=aE _ g 3 #[a,b,c,o,m,k,j,f,d] t e y;have A:(((((w.setCell ⟨g,0,none⟩ a).setCell ⟨g,1,none⟩ b).setCell ⟨g,2,none⟩ c).setCell ⟨g,3,none⟩ e).setCell ⟨g,4,none⟩ i).heap[g]?=some (.cells #[a,b,c,e,i,k,j,f,d] t (0,0)):=aE _ g 4 #[a,b,c,e,m,k,j,f,d] t i z;have B:((((((w.setCell ⟨g,0,none⟩ a).setCell ⟨g,1,none⟩ b).setCell ⟨g,2,none⟩ c).setCell ⟨g,3,none⟩ e).setCell ⟨g,4,none⟩ i).setCell ⟨g,5,none⟩ l).heap[g]?=some (.cells #[a,b,c,e,i,l,j,f,d] t (0,0)):=aE _ g 5 #[a,b,c,e,i,k,j,f,d] t l A;have C:(((((((w.setCell ⟨g,0,none⟩ a).setCell ⟨g,1,none⟩ b).setCell ⟨g,2,none⟩ c).setCell ⟨g,3,none⟩ e).setCell ⟨g,4,none⟩ i).setCell ⟨g,5,none⟩ l).setCell ⟨g,6,none⟩ n).heap[g]?=some (.cells #[a,b,c,e,i,l,n,f,d] t (0,0)):=aE _ g 6 #[a,b,c,e,i,l,j,f,d] t n B;have D:((((((((w.setCell ⟨g,0,none⟩ a).setCell ⟨g,1,none⟩ b).setCell ⟨g,2,none⟩ c).setCell ⟨g,3,none⟩ e).setCell ⟨g,4,none⟩ i).setCell ⟨g,5,none⟩ l).setCell ⟨g,6,none⟩ n).setCell ⟨g,7,none⟩ q).heap[g]?=some (.cells #[a,b,c,e,i,l,n,q,d] t (0,0)):=aE _ g 7 #[a,b,c,e,i,l,n,f,d] t q C;exact aE _ g 8 #[a,b,c,e,i,l,n,q,d] t s D
structure F9 where
 f:Int
 t:Int
 d:Int
 k:Int
 a:Int
 y:Bool
 ph:Int
 pr:Int
 pa:Int
def f9L(x:F9):List Value:=[.int .i64 x.f,.int .i64 x.t,.int .i64 x.d,.int .i64 x.k,.int .i64 x.a,.bool x.y,.int .i64 x.ph,.int .i64 x.pr,.int .i64 x.pa]
def am(L:List F9):List Value:=L.flatMap f9L
theorem bJ(x:F9):(f9L x).length=9:=rfl
theorem cE(L M:List F9):am (L++M)=am L++am M:=by simp[am,List.flatMap_append]
theorem iS(x:F9)(L:List F9):am (x::L)=f9L x++am L:=rfl
theorem ba:∀L:List F9,(am L).length=L.length*9
 | []=>rfl
 | x::L=>by rw[iS,aR,bJ,ba L,bq];omega
theorem gJ:∀(L:List F9) (i j:Nat) (h:i<L.length),j<9->(am L)[i*9+j]?=(f9L (L[i]'h))[j]?
 | [],i,_,h,_=>absurd h (Nat.not_lt_zero _)
 | x::L,0,j,_,a=>by
  rw[iS,Nat.zero_mul,Nat.zero_add,List.getElem?_append_left (by rw[bJ];exact a)];rfl
 | x::L,i+1,j,h,a=>by
  rw[iS,List.getElem?_append_right (by rw[bJ];omega),bJ,show(i+1)*9+j-9=i*9+j by omega];exact gJ L i j (by simpa using h) a
theorem gK(L:List F9):∀a∈am L,a.oneCell'=true:=by
 intro a c;obtain⟨d,-,b⟩:=List.mem_flatMap.1 c;simp[f9L]at b;rcases b with rfl|rfl|rfl|rfl|rfl|rfl|rfl|rfl|rfl<;>rfl
def FL(w:World)(ad:Option Addr)(L:List F9):Prop:=∀i (h:i<L.length),∃b off,ad=some ⟨b,off,none⟩∧∀j,j<9->w.cell? ⟨b,off+i*9+j,none⟩=(f9L (L[i]'h))[j]?
theorem FL.later{w w':World}{d:Option Addr}{L:List F9}(h:FL w d L)(g:Below w.heap.size w w'):FL w' d L:=fun a b=>by
 obtain⟨i,j,k,l⟩:=h a b;refine⟨i,j,k,fun c e=>?_⟩;have f:=l c e;have m:(f9L (L[a]'b))[c]?=some ((f9L (L[a]'b))[c]'(by rw[bJ];exact e)):=cG _;rw[m]at f ⊢;exact ag g f
theorem FL.nil(w:World)(a:Option Addr):FL w a []:=fun _ b=>absurd b (Nat.not_lt_zero _)
theorem mH{w:World}{b o:Nat}{x:F9}(h:∀j,j<9->w.cell? ⟨b,o+j,none⟩=(f9L x)[j]?):w.cell? ⟨b,o,none⟩=some (.int .i64 x.f)∧w.cell? ⟨b,o+1,none⟩=some (.int .i64 x.t)∧w.cell? ⟨b,o+2,none⟩=some (.int .i64 x.d)∧w.cell? ⟨b,o+3,none⟩=some (.int .i64 x.k)∧w.cell? ⟨b,o+4,none⟩=some (.int .i64 x.a)∧w.cell? ⟨b,o+5,none⟩=some (.bool x.y)∧w.cell? ⟨b,o+6,none⟩=some (.int .i64 x.ph)∧w.cell? ⟨b,o+7,none⟩=some (.int .i64 x.pr)∧w.cell? ⟨b,o+8,none⟩=some (.int .i64 x.pa):=
 ⟨h 0 (by omega),h 1 (by omega),h 2 (by omega),h 3 (by omega),h 4 (by omega),h 5 (by omega),h 6 (by omega),h 7 (by omega),h 8 (by omega)⟩
def IsFr(w:World)(v:Value)(L:List F9):Prop:=∃ad cap,v=.slice ad L.length cap∧FL w ad L
theorem IsFr.later{w w':World}{v:Value}{L:List F9}(h:IsFr w v L)(a:Below w.heap.size w w'):IsFr w' v L:=by
 obtain⟨b,cap,c,d⟩:=h;exact⟨b,cap,c,d.later a⟩
theorem IsFr.zero(w:World):IsFr w (.slice none 0 0) []:=⟨none,0,rfl,FL.nil _ _⟩
theorem IsFr.owned{w:World}{base:Nat}{v:Value}{L:List F9}(h:w.ownsRow base 125 9 v L.length (am L)):IsFr w v L:=by
 have c:=h;rcases h.2 with⟨rfl,d⟩|⟨e,cap,j,rfl,k,l,m,n,o,p⟩
 ·have f:L=[]:=List.length_eq_zero_iff.1 d
  subst f;exact IsFr.zero w
 ·refine⟨_,cap,rfl,fun a g=>⟨e,0,rfl,fun b i=>?_⟩⟩
  have:=c.cellAt (a*9+b) (by omega);rw[Nat.zero_add,this,gJ L a b g i]
theorem Tryz.infoFr:(prog.info? 125).map (fun i=>(i.zero,i.size,i.bytes))=some (some (frV 0 0 0 0 0 false 0 0 0),9,72):=by kernel_rfl
def dz(id:Nat)(deal kind att ph:Int)(itself:Bool):Nat->List F9
 | 0=>[]
 | k+1=>if k=id∧itself=false then dz id deal kind att ph itself k else dz id deal kind att ph itself k++[⟨id,k,deal,kind,att,false,ph,0,0⟩]
theorem tZ(id:Nat)(deal kind att ph:Int)(itself:Bool):∀k,(dz id deal kind att ph itself k).length<=k
 | 0=>aj
 | k+1=>by
  have:=tZ id deal kind att ph itself k;unfold dz
  split
  ·omega
  ·rw[aR];simp;omega
def rlC(id deal att:Int)(vw:Value)(st:ByteArray)(wait:Int)(vh:Value)(ph seen:Int):Array Value:=#[.int .i64 id,.int .i64 deal,.int .i64 att,vw,.string st,.int .i64 wait,vh,.int .i64 ph,.int .i64 seen]
theorem ro(w:World)(t:TypeId)(L:List Value):∀j a,L[j]?=some a->(w.alloc (.cells L.toArray t)).cell? ((⟨w.heap.size,0,none⟩:Addr).add j)=some a:=by
 intro j a b;rw[cZ,ai (aB w _),List.getElem?_toArray,Nat.zero_add];exact b
theorem abX(x:F9):∀a∈f9L x,a.oneCell'=true:=by
 intro a b;simp[f9L]at b;rcases b with rfl|rfl|rfl|rfl|rfl|rfl|rfl|rfl|rfl<;>rfl
theorem jb(lb id n cap:Nat)(deal kind att ph:Int)(itself:Bool)(aw:Option Addr)(st:ByteArray)(wait:Int)(vh:Value)(I seen:Int)(w:World)(h:w.heap[lb]?=some (.cells (rlC id deal att (.slice aw n cap) st wait vh I seen) 121 (0,0)))(M:n<=30):Calls prog 86 #[.pointer (some ⟨lb,0,none⟩),.int .i64 kind,.int .i64 ph,.bool itself] w fun e w'=>∃v,e=.returned v∧w'.ownsRow w.heap.size 125 9 v (dz id deal kind att ph itself n).length (am (dz id deal kind att ph itself n))∧Below w.heap.size w w':=by
 obtain⟨C,D,E,F,G⟩:=info_parts Tryz.infoFr;have o:=hid h;clear h;unfold rlC at o;obtain⟨b,i⟩:=nmd (dz id deal kind att ph itself);rw[i.out];have J:Hid (∀a,(b a).length<=a):=by rw[<-i.out];exact tZ _ _ _ _ _ _
 have K:Hid (b 0=[]):=by rw[<-i.out];rfl
 go_enter func86,ntmps86
 go_wp2_with fail
 go_loopw [9,10] (fun v p wr=>∃a:Nat,a<=n∧p=iV (a:Int)∧wr.ownsRow w.heap.size 125 9 v (b a).length (am (b a))∧bW w wr) (fun _ p _=>n-(intOf p).toNat)
 case atStart=>exact⟨0,Nat.zero_le _,rfl,by rw[K.out];exact World.ownsRow_nil _ _ _ _,aF⟩
 case round =>
  obtain⟨a,N,rfl,H,q⟩:=hrel;have f:=hid H;have d:=hid q;have g:=(q.block _ (ah o)).trans o;have O:wr.cell? ⟨lb,0,none⟩=some (iV (id:Int)):=by rw[ai g];rfl
  have P:wr.cell? ⟨lb,1,none⟩=some (iV deal):=by rw[ai g];rfl
  have Q:wr.cell? ⟨lb,2,none⟩=some (iV att):=by rw[ai g];rfl
  have R:wr.cell? ⟨lb,3,none⟩=some (.slice aw n cap):=by rw[ai g];rfl
  have S:lb<wr.heap.size:=ah g;have T:=J.out a;clear H q g
  by_cases U:a<n
  ·by_cases j:a=id∧itself=false
   ·obtain⟨rfl,rfl⟩:=j
    have r:Hid (b (a+1)=b a):=by rw[<-i.out];unfold Hid;exact af ⟨rfl,rfl⟩
    go_wp2_with fail
    go_roundw
    case rel=>exact⟨a+1,by omega,by go_num,by rw[r.out];exact f,d⟩
    case measure=>simp[intOf];omega
   ·have r:Hid (b (a+1)=b a++[⟨id,a,deal,kind,att,false,ph,0,0⟩]):=by rw[<-i.out];unfold Hid;exact aa j
    have m:Hid ((b (a+1)).length=(b a).length+1∧am (b (a+1))=am (b a)++f9L ⟨id,a,deal,kind,att,false,ph,0,0⟩):=by
     rw[r.out];exact⟨by simp,by rw[cE];rfl⟩
    by_cases e:a=id
    ·have hit:itself=true:=by
      cases itself with
      | true=>rfl
      | false=>exact absurd ⟨e,rfl⟩ j
     subst hit;clear j;subst e;have s:=World.ownsRow.alloc f;have t:=d.size
     go_wp2_with fail
     go_region_law ((refine step_append_lies _ (by rfl) _ _ _ (by rfl) w.heap.size 125 C (frV 0 0 0 0 0 false 0 0 0) 9 72 underlying55 D E F G (by rfl) (by decide) _ (b a).length (am (b a)) (by rfl) (by exact s _) ⟨wr.heap.size,0,none⟩ 1 1 (f9L ⟨a,a,deal,kind,att,false,ph,0,0⟩) (by rfl) (by rfl) (by exact ro wr 125 (f9L ⟨a,a,deal,kind,att,false,ph,0,0⟩)) (by exact abX _) (by decide) (by unfold maxLen;omega) (by omega) (by exact bc t (by simp)) (wr.heap.size+1) (by simp) ?_;intro u x y k l z L;have c:=hid (And.intro (show y.ownsRow w.heap.size 125 9 (.slice (some ⟨u,0,none⟩) ((b a).length+1) x) (b (a+1)).length (am (b (a+1))) by rw[m.out.1,m.out.2];exact k) ((d.alloc d.size (.cells (f9L ⟨a,a,deal,kind,att,false,ph,0,0⟩).toArray 125)).drew.grown l (by simp;omega) (fun A B=>(f.lt A B).1)));clear k l z))
     all_goals go_wp2_with fail
     all_goals go_roundw
     all_goals first|exact⟨a+1,by omega,by go_num,c.1,c.2⟩|exact⟨a+1,by omega,by go_num,c.1,c.2.drew⟩|(simp[intOf];omega)
    ·have V:¬(a:Int)=(id:Int):=by omega
     clear j;have s:=World.ownsRow.alloc f;have t:=d.size
     go_wp2_with fail
     go_region_law ((refine step_append_lies _ (by rfl) _ _ _ (by rfl) w.heap.size 125 C (frV 0 0 0 0 0 false 0 0 0) 9 72 underlying55 D E F G (by rfl) (by decide) _ (b a).length (am (b a)) (by rfl) (by exact s _) ⟨wr.heap.size,0,none⟩ 1 1 (f9L ⟨id,a,deal,kind,att,false,ph,0,0⟩) (by rfl) (by rfl) (by exact ro wr 125 (f9L ⟨id,a,deal,kind,att,false,ph,0,0⟩)) (by exact abX _) (by decide) (by unfold maxLen;omega) (by omega) (by exact bc t (by simp)) (wr.heap.size+1) (by simp) ?_;intro u x y k l z L;have c:=hid (And.intro (show y.ownsRow w.heap.size 125 9 (.slice (some ⟨u,0,none⟩) ((b a).length+1) x) (b (a+1)).length (am (b (a+1))) by rw[m.out.1,m.out.2];exact k) ((d.alloc d.size (.cells (f9L ⟨id,a,deal,kind,att,false,ph,0,0⟩).toArray 125)).drew.grown l (by simp;omega) (fun A B=>(f.lt A B).1)));clear k l z))
     all_goals go_wp2_with fail
     all_goals go_roundw
     all_goals first|exact⟨a+1,by omega,by go_num,c.1,c.2⟩|exact⟨a+1,by omega,by go_num,c.1,c.2.drew⟩|(simp[intOf];omega)
  ·obtain rfl:a=n:=by omega
   go_wp2_with fail
   go_ret
   exact⟨_,rfl,f,d⟩
theorem afB{P:Program}{c:Func}{p e:Tmp}{ty:TypeId}(h:c.results=#[.cell p ty,.tmp e])(b:Array Value)(w:World)(g:Nat)(t:TypeId)(a:Array Value)(fr:Nat×Nat)(d:TypeDesc)(f:b.getD p undef=.pointer (some ⟨g,0,none⟩))(i:w.heap[g]?=some (.cells a t fr))(j:P.underlying ty=some d)(k:(match d with|.struct _|.array _ _=>true|_=>false)=true)(l:(P.info? ty).map (·.size)=some a.size):(results c b).run P w=.ok (.tuple #[.agg a,b.getD e undef]) w:=by
 rw[results_cell_tmp h,f];simp[asAddr,run_loadVar_row w g t ty a fr d i j k l]
theorem ada:(prog.info? 125).map (·.size)=some 9:=by kernel_rfl
theorem FL.owned{w:World}{base:Nat}{v:Value}{L:List F9}(h:w.ownsRow base 125 9 v L.length (am L)):∃a cap,v=.slice a L.length cap∧FL w a L:=IsFr.owned h
structure RLd (w:World) (lb id n cap:Nat) (deal att:Int) (aw:Option Addr) (st:ByteArray) (wait:Int) (vh:Value) (hs:List F9) (ph seen:Int):Prop where
 row:w.heap[lb]?=some (.cells (rlC id deal att (.slice aw n cap) st wait vh ph seen) 121 (0,0))
 own:w.ownsRow (lb+1) 125 9 vh hs.length (am hs)
section
variable {w w':World} {lb id n cap:Nat} {deal att:Int} {aw:Option Addr} {st:ByteArray} {wait:Int} {vh:Value} {hs:List F9} {ph seen:Int}
theorem RLd.later(h:RLd w lb id n cap deal att aw st wait vh hs ph seen)(a:Below w.heap.size w w'):RLd w' lb id n cap deal att aw st wait vh hs ph seen:=
 ⟨(a.block _ (ah h.row)).trans h.row,dC h.own a aj⟩
theorem RLd.cells(h:RLd w lb id n cap deal att aw st wait vh hs ph seen):w.cell? ⟨lb,0,none⟩=some (.int .i64 (id:Int))∧w.cell? ⟨lb,1,none⟩=some (.int .i64 deal)∧w.cell? ⟨lb,2,none⟩=some (.int .i64 att)∧w.cell? ⟨lb,3,none⟩=some (.slice aw n cap)∧w.cell? ⟨lb,4,none⟩=some (.string st)∧w.cell? ⟨lb,5,none⟩=some (.int .i64 wait)∧w.cell? ⟨lb,6,none⟩=some vh∧w.cell? ⟨lb,7,none⟩=some (.int .i64 ph)∧w.cell? ⟨lb,8,none⟩=some (.int .i64 seen):=by
 refine⟨?_,?_,?_,?_,?_,?_,?_,?_,?_⟩<;>rw[ai h.row]<;>rfl
theorem RLd.fz(h:RLd w lb id n cap deal att aw st wait vh hs ph seen)(i:Nat):w.frozen? ⟨lb,i,none⟩=false:=aK w lb i _ _ h.row
end
theorem abb{w W:World}(h:Below w.heap.size w W)(a b c d e f g i j:Value):Below w.heap.size w (((((((((W.setCell ⟨w.heap.size,0,none⟩ a).setCell ⟨w.heap.size,1,none⟩ b).setCell ⟨w.heap.size,2,none⟩ c).setCell ⟨w.heap.size,3,none⟩ d).setCell ⟨w.heap.size,4,none⟩ e).setCell ⟨w.heap.size,5,none⟩ f).setCell ⟨w.heap.size,6,none⟩ g).setCell ⟨w.heap.size,7,none⟩ i).setCell ⟨w.heap.size,8,none⟩ j):=
 ((((((((h.setCell aj _).setCell aj _).setCell aj _).setCell aj _).setCell aj _).setCell aj _).setCell aj _).setCell aj _).setCell aj _
def bi(hs:List F9)(i:Int):Option F9:=hs.find? fun x=>decide (x.f=i)
theorem zM{a:List F9}{i:Int}(h:∀k (b:k<a.length),(a[k]'b).f≠i):bi a i=none:=by
 unfold bi;rw[List.find?_eq_none];intro d c;obtain⟨k,b,rfl⟩:=List.getElem_of_mem c
 simpa using h k b
theorem aa3{a:List F9}{i:Int}{k:Nat}(b:k<a.length)(h:(a[k]'b).f=i)(d:∀j (c:j<k),(a[j]'(Nat.lt_trans c b)).f≠i):bi a i=some (a[k]'b):=by
 unfold bi;rw[List.find?_eq_some_iff_getElem];exact⟨by simpa using h,k,b,rfl,fun j c=>by simpa using d j c⟩
def frO(x:Option F9):Value:=match x with
 | none=>frV 0 0 0 0 0 false 0 0 0
 | some y=>frV y.f y.t y.d y.k y.a y.y y.ph y.pr y.pa
theorem pU:frO none=frV 0 0 0 0 0 false 0 0 0:=rfl
theorem kg(lb id n cap:Nat)(deal att:Int)(aw:Option Addr)(st:ByteArray)(wait:Int)(vh:Value)(b:List F9)(ph seen i:Int)(w:World)(h:RLd w lb id n cap deal att aw st wait vh b ph seen)(R:b.length<=1000):Calls prog 145 #[.pointer (some ⟨lb,0,none⟩),.int .i64 i] w fun e w'=>e=.returned (.tuple #[frO (bi b i),.bool (bi b i).isSome])∧Below w.heap.size w w':=by
 obtain⟨a,m⟩:=nmd (w.alloc (.cells #[iV 0,iV 0,iV 0,iV 0,iV 0,.bool false,iV 0,iV 0,iV 0] 125));have o:Hid (bW w a):=by rw[<-m.out];exact aD
 have c:Hid (a.heap[w.heap.size]?=some (.cells #[iV 0,iV 0,iV 0,iV 0,iV 0,.bool false,iV 0,iV 0,iV 0] 125 (0,0))):=by rw[<-m.out];exact aB w _
 have S:lb<w.heap.size:=ah h.row;have u:=hid (h.later o);clear h;obtain⟨T,U,rfl,v⟩:=FL.owned u.own;have z:=hid v;clear v;obtain⟨V,W,X,Y,Z,c5,c6,c7,c8⟩:=u.cells;obtain⟨r0,r1,r2,r3,r4,r5,r6,r7,r8⟩:=bH c;have z0:=aK a w.heap.size 0 _ _ c;have z1:=aK a w.heap.size 1 _ _ c;have z2:=aK a w.heap.size 2 _ _ c;have z3:=aK a w.heap.size 3 _ _ c;have z4:=aK a w.heap.size 4 _ _ c;have z5:=aK a w.heap.size 5 _ _ c;have z6:=aK a w.heap.size 6 _ _ c;have z7:=aK a w.heap.size 7 _ _ c;have z8:=aK a w.heap.size 8 _ _ c;have hW:=m.out
 go_enter func145,ntmps145
 go_wp2_with fail
 go_loopw [6] (fun p wr=>∃g:Nat,g<=b.length∧p=iV (g:Int)∧a=wr∧∀d (f:d<b.length),d<g->(b[d]'f).f≠i) (fun p _=>b.length-(intOf p).toNat)
 case atStart=>exact⟨0,Nat.zero_le _,rfl,rfl,fun d _ f=>absurd f (Nat.not_lt_zero _)⟩
 case round =>
  obtain⟨g,hk,rfl,rfl,x⟩:=hrel;have q:=hid x;clear x
  by_cases j:g<b.length
  ·obtain⟨a0,a1,rfl,r⟩:=z.out g j
   obtain⟨s,k⟩:=nmd (b[g]'j);rw[k.out]at r;obtain⟨l,A,B,C,D,E,F,G,H⟩:=s;obtain⟨I,J,K,L,M,N,O,P,Q⟩:=mH r;simp only at I J K L M N O P Q;clear r
   by_cases y:l=i
   ·subst y
    have t:Hid (bi b l=some ⟨l,A,B,C,D,E,F,G,H⟩):=by
     have:=aa3 (i:=l) j (by rw[k.out]) (fun d f=>q d (Nat.lt_trans f j) f);rw[k.out]at this;exact this
    go_wp2_with fail
    refine bh (afB rfl _ _ w.heap.size 125 _ (0,0) _ rfl (ae4 c _ _ _ _ _ _ _ _ _) underlying125 rfl ada) rfl ?_;exact⟨by rw[t.out];rfl,abb o _ _ _ _ _ _ _ _ _⟩
   ·go_wp2_with fail
    go_roundw
    case rel =>
     refine⟨g+1,by omega,by go_num,by first|rfl|trivial,fun d f a2=>?_⟩
     by_cases e:d=g
     ·subst e;rw[k.out];exact y
     ·exact q d f (by omega)
    case measure=>simp[intOf];omega
  ·obtain rfl:g=b.length:=by omega
   have t:Hid (bi b i=none):=zM (fun d f=>q d f f)
   go_wp2_with fail
   refine bh (afB rfl _ _ w.heap.size 125 _ (0,0) _ rfl (ae4 c _ _ _ _ _ _ _ _ _) underlying125 rfl ada) rfl ?_;exact⟨by rw[t.out];rfl,abb o _ _ _ _ _ _ _ _ _⟩
end Go.Proofs.YtaehdgemkafinaaGreatDoor
