/-
  On the way to SPlaysProof: O34 LnIn.
-/
import Derived.Test.YtaehdgemkafinaaGreatDoorBw45
import Derived.ChangeShapes
import Derived.WideShapes
import Derived.RowKit
set_option maxHeartbeats 8000000
set_option maxRecDepth 100000
namespace Go.Proofs.YtaehdgemkafinaaGreatDoor
open Go.RowKit
structure Ln where
 wd:ByteArray
 ns:List Int
 v:Value
def IsLn (w:World) (ad:Option Addr) (ls:List Ln):Prop:=∀ i (h:i<ls.length),IsSl w (ls[i]'h).v (ls[i]'h).ns∧∃ b o,ad=some ⟨b,o,none⟩∧w.cell? ⟨b,o+i * 2,none⟩=some (.string (ls[i]'h).wd)∧w.cell? ⟨b,o+i * 2+1,none⟩=some (ls[i]'h).v
theorem IsLn.later {w w':World} {ad:Option Addr} {ls:List Ln} (h:IsLn w ad ls) (hb:Below w.heap.size w w'):IsLn w' ad ls:=fun i hi=>by
 obtain ⟨h1,b,o,h2,h3,h4⟩:=h i hi
 exact ⟨h1.later hb,b,o,h2,cell_later hb h3,cell_later hb h4⟩
theorem strV_map (L:List Bs):strV L=(L.map bB).map Value.string:=by
 unfold strV
 rw [List.map_map]
 rfl
theorem words_map (L:List Bs):(L.map bB).map wordsL=L.map splO:=by
 rw [List.map_map]
 refine List.map_congr_left fun x _=>?_
 show wordsL (bB x)=splO x
 rw [words_spl]
end Go.Proofs.YtaehdgemkafinaaGreatDoor
namespace Go.Proofs.YtaehdgemkafinaaGreatDoor
open Go.ChangeShapes Go.WideShapes Go.RowKit
theorem cellsLine:Tryz.prog.cellsOf 36=2:=by kernel_rfl
theorem cellsStrL:Tryz.prog.cellsOf 9=1:=by kernel_rfl
theorem cellsInts1:Tryz.prog.cellsOf 34=1:=by kernel_rfl
theorem listOf2 {α:Type}:∀ (l:List α),l.length=2→∃ a b,l=[a,b]
 | [a,b],_=>⟨a,b,rfl⟩
theorem line_of_trod {H:Type} {enc:TypeId×Value→H} {W:World} {fuel:Nat} {cs:List Value} {x:DataW H×List MemPlace} {sp:Nat→Bool} {held:Bool}
  (h:DataW.trod enc Tryz.prog W 0 sp held fuel 36 cs=some x):∃ t:Ln,cs=[.string t.wd,t.v]∧IsSl W t.v t.ns:=by
 obtain ⟨ys,n,_,_,hl,hlen,hf⟩:=DataW.trod_struct Tryz.underlying36 h
 rw [cellsLine] at hl
 obtain ⟨c0,c1,rfl⟩:=listOf2 cs hl
 obtain ⟨y0,y1,rfl⟩:=listOf2 ys hlen
 have f0:DataW.trod enc Tryz.prog W 0 sp held n 9 (([c0,c1].drop 0).take (Tryz.prog.cellsOf 9))=some y0:=hf 0 _ rfl
 have f1:DataW.trod enc Tryz.prog W 0 sp held n 34 (([c0,c1].drop 1).take (Tryz.prog.cellsOf 34))=some y1:=hf 1 _ rfl
 rw [cellsStrL] at f0
 rw [cellsInts1] at f1
 obtain ⟨s0,e0,_,_⟩:=DataW.trod_string Tryz.underlying9 f0
 simp at e0
 subst e0
 have f2:DataW.trod enc Tryz.prog W 0 sp held n 34 [c1]=some y1:=f1
 obtain ⟨d1,p1⟩:=y1
 obtain ⟨a,l,c,rfl⟩:∃ a l c,c1=.slice a l c:=by
  rcases Deep.open_slice Tryz.underlying34 f2 with ⟨hcs,_⟩|⟨x,l,c,m,n,D,Pl,hcs,_⟩
  ·exact ⟨none,0,0,by simpa using hcs⟩
  ·exact ⟨some x,l,c,by simpa using hcs⟩
 obtain ⟨zs,hz⟩:=isSl_of_trod (a:=a) (len:=l) (cap:=c) f2
 exact ⟨⟨s0,zs,.slice a l c⟩,rfl,hz⟩
theorem lns_of_trod {H:Type} {enc:TypeId×Value→H} {W:World} {a:Option Addr} {len cap fuel:Nat} {d:DataW H} {p:List MemPlace} {sp:Nat→Bool} {held:Bool}
  (hf:DataW.trod enc Tryz.prog W 0 sp held fuel 33 (Value.slice a len cap).cells.toList=some (d,p)):∃ xs:List Ln,xs.length=len∧IsLn W a xs:=by
 rcases Deep.open_slice Tryz.underlying33 hf with ⟨hcs,_⟩|⟨x,l,c,m,n,D,Pl,hcs,_,hl,hm,hmm,_,hx⟩
 ·simp [Value.cells] at hcs
  obtain ⟨rfl,rfl,rfl⟩:=hcs
  exact ⟨[],rfl,fun i h=>absurd h (Nat.not_lt_zero _)⟩
 ·simp [Value.cells] at hcs
  obtain ⟨rfl,rfl,rfl⟩:=hcs
  have hlm:len≤m:=by rw [hmm]; split <;> omega
  have each:∀ i,i<len→∃ t:Ln,IsSl W t.v t.ns∧∃ b off,some x=some ⟨b,off,none⟩∧W.cell? ⟨b,off+i * 2,none⟩=some (.string t.wd)∧W.cell? ⟨b,off+i * 2+1,none⟩=some t.v:=by
   intro i hi
   obtain ⟨cs,h1,h2⟩:=hx i (by omega)
   obtain ⟨t,rfl,g1⟩:=line_of_trod h2
   rw [cellsLine] at h1
   obtain ⟨_,_,h3⟩:=World.cells?_some h1
   have q0:=h3 0 (by omega)
   have q1:=h3 1 (by omega)
   obtain ⟨b,off,spot⟩:=x
   obtain ⟨cs0,g3,g4⟩:=hx 0 (by omega)
   obtain ⟨t0,rfl,_⟩:=line_of_trod g4
   rw [cellsLine] at g3
   obtain ⟨_,_,g5⟩:=World.cells?_some g3
   have hz:=g5 0 (by omega)
   have hsp:spot=none:=by
    cases spot with
    | none=>rfl
    | some k=>unfold World.cell? Addr.add at hz; simp at hz; revert hz; split <;> simp
   subst hsp
   simp only [Addr.add_lit] at q0 q1
   exact ⟨t,g1,b,off,rfl,by simpa using q0,by simpa using q1⟩
  have:Inhabited Ln:=⟨⟨⟨#[]⟩,[],.slice none 0 0⟩⟩
  obtain ⟨f,hf⟩:=Deep.choose_lt each
  refine ⟨(List.range len).map f,by simp,fun i h=>?_⟩
  have hi:i<len:=by simpa using h
  simpa using hf i hi
end Go.Proofs.YtaehdgemkafinaaGreatDoor
