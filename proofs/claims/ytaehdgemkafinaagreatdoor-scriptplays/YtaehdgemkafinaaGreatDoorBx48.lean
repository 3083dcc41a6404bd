/-
  On the way to SPlaysProof: O34 LnIn O35.
-/
import Derived.Test.YtaehdgemkafinaaGreatDoorBx44
import Derived.ChangeShapes
import Derived.WideShapes
import Derived.RowKit
set_option maxHeartbeats 8000000
set_option maxRecDepth 100000
namespace Go.Proofs.YtaehdgemkafinaaGreatDoor
open Go.RowKit
open Go.Proofs.Tryz
structure Ln where
 wd:ByteArray
 ns:List Int
 v:Value
def IsLn(w:World)(ad:Option Addr)(ls:List Ln):Prop:=∀i (h:i<ls.length),IsSl w (ls[i]'h).v (ls[i]'h).ns∧∃b o,ad=some ⟨b,o,none⟩∧w.cell? ⟨b,o+i*2,none⟩=some (.string (ls[i]'h).wd)∧w.cell? ⟨b,o+i*2+1,none⟩=some (ls[i]'h).v
theorem IsLn.later{w w':World}{b:Option Addr}{ls:List Ln}(h:IsLn w b ls)(a:Below w.heap.size w w'):IsLn w' b ls:=fun c d=>by
 obtain⟨e,f,g,i,j,k⟩:=h c d;exact⟨e.later a,f,g,i,ag a j,ag a k⟩
theorem pS(L:List Bs):eT L=(L.map bB).map Value.string:=by
 unfold eT;rw[List.map_map];rfl
theorem abm(L:List Bs):(L.map bB).map eZ=L.map eL:=by
 rw[List.map_map];refine List.map_congr_left fun a _=>?_
 show eZ (bB a)=eL a;rw[sq]
end Go.Proofs.YtaehdgemkafinaaGreatDoor
namespace Go.Proofs.YtaehdgemkafinaaGreatDoor
open Go.ChangeShapes Go.WideShapes Go.RowKit
open Go.Proofs.Tryz
theorem nR:prog.cellsOf 36=2:=by kernel_rfl
theorem ab7:prog.cellsOf 9=1:=by kernel_rfl
theorem aaK:prog.cellsOf 34=1:=by kernel_rfl
theorem xz{α:Type}:∀(l:List α),l.length=2->∃a b,l=[a,b]
 | [a,b],_=>⟨a,b,rfl⟩
theorem nk{H:Type}{enc:TypeId×Value->H}{W:World}{fuel:Nat}{g:List Value}{x:DataW H×List MemPlace}{c:Nat->Bool}{held:Bool}(h:DataW.trod enc prog W 0 c held fuel 36 g=some x):∃t:Ln,g=[.string t.wd,t.v]∧IsSl W t.v t.ns:=by
 obtain⟨r,d,_,_,k,s,l⟩:=DataW.trod_struct underlying36 h;rw[nR]at k;obtain⟨m,e,rfl⟩:=xz g k;obtain⟨u,i,rfl⟩:=xz r s;have n:DataW.trod enc prog W 0 c held d 9 (([m,e].drop 0).take (prog.cellsOf 9))=some u:=l 0 _ rfl;have o:DataW.trod enc prog W 0 c held d 34 (([m,e].drop 1).take (prog.cellsOf 34))=some i:=l 1 _ rfl;rw[ab7]at n;rw[aaK]at o;obtain⟨v,p,_,_⟩:=DataW.trod_string underlying9 n;simp at p;subst p;have q:DataW.trod enc prog W 0 c held d 34 [e]=some i:=o;obtain⟨z,A⟩:=i;obtain⟨f,a,b,rfl⟩:∃f a b,e=.slice f a b:=by
  rcases Deep.open_slice underlying34 q with⟨j,_⟩|⟨x,a,b,B,d,C,D,j,_⟩
  ·exact⟨none,0,0,by simpa using j⟩
  ·exact⟨some x,a,b,by simpa using j⟩
 obtain⟨w,y⟩:=ur (a:=f) (len:=a) (cap:=b) q;exact⟨⟨v,w,.slice f a b⟩,rfl,y⟩
theorem wk{H:Type}{enc:TypeId×Value->H}{W:World}{a:Option Addr}{len cap fuel:Nat}{d:DataW H}{p:List MemPlace}{u:Nat->Bool}{held:Bool}(h:DataW.trod enc prog W 0 u held fuel 33 (Value.slice a len cap).cells.toList=some (d,p)):∃xs:List Ln,xs.length=len∧IsLn W a xs:=by
 rcases Deep.open_slice underlying33 h with⟨e,_⟩|⟨k,D,E,v,F,G,I,e,_,J,K,w,_,l⟩
 ·simp[Value.cells]at e
  obtain⟨rfl,rfl,rfl⟩:=e;exact⟨[],rfl,fun b i=>absurd i (Nat.not_lt_zero _)⟩
 ·simp[Value.cells]at e
  obtain⟨rfl,rfl,rfl⟩:=e;have L:len<=v:=by rw[w];split<;>omega
  have each:∀b,b<len->∃c:Ln,IsSl W c.v c.ns∧∃f g,some k=some ⟨f,g,none⟩∧W.cell? ⟨f,g+b*2,none⟩=some (.string c.wd)∧W.cell? ⟨f,g+b*2+1,none⟩=some c.v:=by
   intro b m;obtain⟨M,n,x⟩:=l b (by omega);obtain⟨c,rfl,y⟩:=nk x;rw[nR]at n;obtain⟨_,_,o⟩:=World.cells?_some n;have q:=o 0 (by omega);have r:=o 1 (by omega);obtain⟨f,g,s⟩:=k;obtain⟨N,t,z⟩:=l 0 (by omega);obtain⟨O,rfl,_⟩:=nk z;rw[nR]at t;obtain⟨_,_,A⟩:=World.cells?_some t;have j:=A 0 (by omega);have B:s=none:=by
    cases s with
    | none=>rfl
    | some P=>unfold World.cell? Addr.add at j;simp at j;revert j;split<;>simp
   subst B;simp only[Addr.add_lit]at q r;exact⟨c,y,f,g,rfl,by simpa using q,by simpa using r⟩
  have:Inhabited Ln:=⟨⟨⟨#[]⟩,[],.slice none 0 0⟩⟩;obtain⟨C,h⟩:=Deep.choose_lt each;refine⟨(List.range len).map C,by simp,fun b i=>?_⟩;have m:b<len:=by simpa using i
  simpa using h b m
end Go.Proofs.YtaehdgemkafinaaGreatDoor
namespace Go.Proofs.YtaehdgemkafinaaGreatDoor
open Go.RowKit
open Go.Proofs.Tryz
def BxL(w W:World)(wd:ByteArray)(v:Value):Prop:=W.cell? ⟨w.heap.size,0,none⟩=some (.string wd)∧W.cell? ⟨w.heap.size,1,none⟩=some v
theorem xB(w:World)(wd:ByteArray)(v:Value):BxL w (w.alloc (.cells #[.string wd,v] 36)) wd v:=by
 have a:=aB w (.cells #[.string wd,v] 36);exact⟨by rw[ai a];rfl,by rw[ai a];rfl⟩
abbrev bxW(w:World)(wd:ByteArray)(v:Value):World:=w.alloc (.cells #[.string wd,v] 36)
theorem bxO(w:World)(wd:ByteArray)(v:Value):∃W,w.alloc (.cells #[.string wd,v] 36)=W∧BxL w W wd v∧Hid (Below w.heap.size w W):=⟨_,rfl,xB w wd v,aD⟩
def aeD(xb:Nat)(a b:Int)(i f:Nat)(ar:Array Value):Prop:=(i=1∧f=22∧ar=#[.pointer (some ⟨xb,0,none⟩),.int .i64 a,.int .i64 b])∨(i=2∧f=23∧ar=#[.pointer (some ⟨xb,0,none⟩),.int .i64 a,.int .i64 b])∨(i=7∧f=30∧ar=#[.pointer (some ⟨xb,0,none⟩),.int .i64 a,.int .i64 b,.bool true])∨(i=8∧f=30∧ar=#[.pointer (some ⟨xb,0,none⟩),.int .i64 a,.int .i64 b,.bool false])∨(i=9∧f=31∧ar=#[.pointer (some ⟨xb,0,none⟩),.int .i64 a,.int .i64 b])
def ae8(xb:Nat)(a:Int)(i f:Nat)(ar:Array Value):Prop:=(i=3∧f=24∧ar=#[.pointer (some ⟨xb,0,none⟩),.int .i64 a])∨(i=10∧f=25∧ar=#[.pointer (some ⟨xb,0,none⟩),.int .i64 a])∨(i=11∧f=26∧ar=#[.pointer (some ⟨xb,0,none⟩),.int .i64 a])∨(i=4∧f=27∧ar=#[.pointer (some ⟨xb,0,none⟩),.int .i64 a])∨(i=5∧f=28∧ar=#[.pointer (some ⟨xb,0,none⟩),.int .i64 a])∨(i=6∧f=29∧ar=#[.pointer (some ⟨xb,0,none⟩),.int .i64 a])
section
variable {w:World} {wd:ByteArray} {xb g o cap c i f:Nat} {ar:Array Value} {a b:Int} {R:World→Prop}
theorem ai4(t:aeD xb a b i f ar)(h:fD wd i)(h0:w.cell? ⟨g,o,none⟩=some (.int .i64 a))(h1:w.cell? ⟨g,o+1,none⟩=some (.int .i64 b))(u:c<=9)(p:Calls prog f ar (bxW w wd (.slice (some ⟨g,o,none⟩) 2 cap)).drew fun e w'=>e=.returned (.int .i64 (c:Int))∧R w')(q:∀W,R W->BxL w W wd (.slice (some ⟨g,o,none⟩) 2 cap)∧W.cell? ⟨g,o,none⟩=some (.int .i64 a)∧W.cell? ⟨g,o+1,none⟩=some (.int .i64 b)):Calls prog 16 #[.pointer (some ⟨xb,0,none⟩),.agg #[.string wd,.slice (some ⟨g,o,none⟩) 2 cap]] w fun e w'=>e=.returned (.string (bB (gu (c,[111,107]))))∧∃w1,R w1∧Below w1.heap.size w1 w':=by
 have r:=hid p;have v:=hid q;obtain⟨W,x,⟨C,D⟩,m⟩:=bxO w wd (.slice (some ⟨g,o,none⟩) 2 cap);have E:=ag m.out h0;have F:=ag m.out h1;rw[show bxW w wd (.slice (some ⟨g,o,none⟩) 2 cap)=W from x]at r;clear p q h0 h1 m;rcases t with⟨rfl,rfl,rfl⟩|⟨rfl,rfl,rfl⟩|⟨rfl,rfl,rfl⟩|⟨rfl,rfl,rfl⟩|⟨rfl,rfl,rfl⟩<;>as_aux_lemma =>
  obtain⟨G,H,I,J,K,L,M,N,O,P,Q,S,T,U,V,X,Y,Z,a0⟩:=gm h;clear h
  go_enter func16,ntmps16
  go_wp2_with fail
  go_region_held3 (fun k=>k.cell? ⟨w.heap.size,0,none⟩=some (.string wd)∧k.cell? ⟨w.heap.size,1,none⟩=some (.slice (some ⟨g,o,none⟩) 2 cap)∧k.cell? ⟨g,o,none⟩=some (.int .i64 a)∧k.cell? ⟨g,o+1,none⟩=some (.int .i64 b)) (first|exact j|exact y|go_keep) (first
   | ((first|go_at_call 22|go_at_call 23|go_at_call 30|go_at_call 31);(with_reducible refine r.out.mono ?_);rintro e s ⟨rfl,n⟩;have z:=hid n;have l:=v.out _ n;have j:=And.intro l.1.1 (And.intro l.1.2 l.2);clear l;have A:=hid (kC c u s);clear n)
   | (go_at_call 15;(with_reducible refine A.out.mono ?_);rintro e w3 ⟨rfl,d⟩;have B:=hid d;have y:=And.intro (ag d j.1) (And.intro (ag d j.2.1) (And.intro (ag d j.2.2.1) (ag d j.2.2.2)));clear d))
  go_wp2_with fail
  go_ret
  exact⟨rfl,s,z.out,B.out⟩
theorem aiR(p:ae8 xb a i f ar)(h:fD wd i)(h0:w.cell? ⟨g,o,none⟩=some (.int .i64 a))(q:c<=9)(d:Calls prog f ar (bxW w wd (.slice (some ⟨g,o,none⟩) 1 cap)) fun e w'=>e=.returned (.int .i64 (c:Int))∧R w'):Calls prog 16 #[.pointer (some ⟨xb,0,none⟩),.agg #[.string wd,.slice (some ⟨g,o,none⟩) 1 cap]] w fun e w'=>e=.returned (.string (bB (gu (c,[111,107]))))∧∃w1,R w1∧Below w1.heap.size w1 w':=by
 have j:=hid d;obtain⟨r,s,⟨x,y⟩,k⟩:=bxO w wd (.slice (some ⟨g,o,none⟩) 1 cap);have z:=ag k h0;rw[show bxW w wd (.slice (some ⟨g,o,none⟩) 1 cap)=r from s]at j;clear d h0 k;rcases p with⟨rfl,rfl,rfl⟩|⟨rfl,rfl,rfl⟩|⟨rfl,rfl,rfl⟩|⟨rfl,rfl,rfl⟩|⟨rfl,rfl,rfl⟩|⟨rfl,rfl,rfl⟩<;>as_aux_lemma =>
  obtain⟨A,B,C,D,E,F,G,H,I,J,K,L,M,N,O,P,Q,S,T⟩:=gm h;clear h
  go_enter func16,ntmps16
  go_wp2_with fail
  refine j.mono ?_;rintro e l ⟨rfl,m⟩;have t:=hid m;have u:=hid (kC c q l);clear m
  go_wp2_with fail
  refine u.mono ?_;rintro e U ⟨rfl,n⟩;have v:=hid n;clear n
  go_wp2_with fail
  go_ret
  exact⟨rfl,l,t,v⟩
end
end Go.Proofs.YtaehdgemkafinaaGreatDoor
