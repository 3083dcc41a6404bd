/-
  On the way to WStepsProof, WAgreesProof, WEndsProof, WWaitsProof: JX YK.
-/
import Derived.Test.YtadhpkopkkjmfaaGreatDoorBz9
import Derived.ChangeShapes
import Derived.WideShapes
import Derived.RowKit
set_option maxHeartbeats 8000000
set_option maxRecDepth 100000
namespace Go.Proofs.YtadhpkopkkjmfaaGreatDoor
open Go.ChangeShapes Go.WideShapes Go.RowKit
theorem cellsInt1:Tryz.prog.cellsOf 3=1:=by kernel_rfl
theorem listOf4 {α:Type}:∀ (l:List α),l.length=4→∃ a b c d,l=[a,b,c,d]
 | [a,b,c,d],_=>⟨a,b,c,d,rfl⟩
theorem cellsStep:Tryz.prog.cellsOf 51=4:=by kernel_rfl
theorem cellsStr1:Tryz.prog.cellsOf 9=1:=by kernel_rfl
theorem step_of_trod {H:Type} {enc:TypeId×Value→H} {W:World} {base fuel:Nat} {cs:List Value} {x:DataW H×List MemPlace} {sp:Nat→Bool} {held:Bool}
  (h:DataW.trod enc Tryz.prog W base sp held fuel 51 cs=some x):∃ t:Step4,cs=[.string t.k,.int .i64 t.s,.int .i64 t.d,.int .i64 t.n]∧t.n≤9223372036854775807:=by
 obtain ⟨ys,n,_,_,hl,hlen,hf⟩:=DataW.trod_struct Tryz.underlying51 h
 rw [cellsStep] at hl
 obtain ⟨c0,c1,c2,c3,rfl⟩:=listOf4 cs hl
 obtain ⟨y0,y1,y2,y3,rfl⟩:=listOf4 ys hlen
 ··have f0:DataW.trod enc Tryz.prog W base sp held n 9 (([c0,c1,c2,c3].drop 0).take (Tryz.prog.cellsOf 9))=some y0:=hf 0 _ rfl
   have f1:DataW.trod enc Tryz.prog W base sp held n 3 (([c0,c1,c2,c3].drop 1).take (Tryz.prog.cellsOf 3))=some y1:=hf 1 _ rfl
   have f2:DataW.trod enc Tryz.prog W base sp held n 3 (([c0,c1,c2,c3].drop 2).take (Tryz.prog.cellsOf 3))=some y2:=hf 2 _ rfl
   have f3:DataW.trod enc Tryz.prog W base sp held n 3 (([c0,c1,c2,c3].drop 3).take (Tryz.prog.cellsOf 3))=some y3:=hf 3 _ rfl
   rw [cellsStr1] at f0
   rw [cellsInt1] at f1 f2 f3
   obtain ⟨s0,e0,_,_⟩:=DataW.trod_string Tryz.underlying9 f0
   obtain ⟨s1,e1,_,_⟩:=DataW.trod_int Tryz.underlying3 f1
   obtain ⟨i2,e2,_,_⟩:=DataW.trod_int Tryz.underlying3 f2
   obtain ⟨i3,e3,_,w3⟩:=DataW.trod_int Tryz.underlying3 f3
   simp at e0 e1 e2 e3
   subst e0 e1 e2 e3
   refine ⟨⟨s0,s1,i2,i3⟩,rfl,?_⟩
   show i3≤9223372036854775807
   have hmx:IntKind.i64.max=9223372036854775807:=by decide
   have hw:decide (IntKind.i64.min≤i3)=true∧decide (i3≤IntKind.i64.max)=true:=by simpa only [Lit.wf,Bool.and_eq_true] using w3
   have h2:=of_decide_eq_true hw.2
   rw [hmx] at h2
   exact h2
theorem steps_of_trod {H:Type} {enc:TypeId×Value→H} {W:World} {a:Option Addr} {len cap fuel:Nat} {d:DataW H} {p:List MemPlace} {sp:Nat→Bool} {held:Bool}
  (hf:DataW.trod enc Tryz.prog W 0 sp held fuel 48 (Value.slice a len cap).cells.toList=some (d,p)):∃ xs:List Step4,xs.length=len∧xs.length≤maxLen∧SIn W a xs:=by
 rcases Deep.open_slice Tryz.underlying48 hf with ⟨hcs,_⟩|⟨x,l,c,m,n,D,Pl,hcs,_,hl,hm,hmm,_,hx⟩
 ·simp [Value.cells] at hcs
  obtain ⟨rfl,rfl,rfl⟩:=hcs
  exact ⟨[],rfl,Nat.zero_le _,fun i h=>absurd h (Nat.not_lt_zero _)⟩
 ·simp [Value.cells] at hcs
  obtain ⟨rfl,rfl,rfl⟩:=hcs
  have hlm:len≤m:=by rw [hmm]; split <;> omega
  have each:∀ i,i<len→∃ t:Step4,t.n≤9223372036854775807∧∃ b off,some x=some ⟨b,off,none⟩∧W.cell? ⟨b,off+i * 4,none⟩=some (.string t.k)∧W.cell? ⟨b,off+i * 4+1,none⟩=some (.int .i64 t.s) ∧
    W.cell? ⟨b,off+i * 4+2,none⟩=some (.int .i64 t.d)∧W.cell? ⟨b,off+i * 4+3,none⟩=some (.int .i64 t.n):=by
   intro i hi
   obtain ⟨cs,h1,h2⟩:=hx i (by omega)
   obtain ⟨t,rfl,g1⟩:=step_of_trod h2
   rw [cellsStep] at h1
   obtain ⟨_,_,h3⟩:=World.cells?_some h1
   have q0:=h3 0 (by omega)
   have q1:=h3 1 (by omega)
   have q2:=h3 2 (by omega)
   have q3:=h3 3 (by omega)
   obtain ⟨b,off,spot⟩:=x
   obtain ⟨cs0,g3,g4⟩:=hx 0 (by omega)
   obtain ⟨t0,rfl,_⟩:=step_of_trod g4
   rw [cellsStep] at g3
   obtain ⟨_,_,g5⟩:=World.cells?_some g3
   have hz:=g5 0 (by omega)
   have hsp:spot=none:=by
    cases spot with
    | none=>rfl
    | some k=>unfold World.cell? Addr.add at hz; simp at hz; revert hz; split <;> simp
   subst hsp
   simp only [Addr.add_lit] at q0 q1 q2 q3
   exact ⟨t,g1,b,off,rfl,by simpa using q0,by simpa using q1,by simpa using q2,by simpa using q3⟩
  have:Inhabited Step4:=⟨⟨⟨#[]⟩,0,0,0⟩⟩
  obtain ⟨f,hf⟩:=Deep.choose_lt each
  refine ⟨(List.range len).map f,by simp,by simp; omega,fun i h=>?_⟩
  have hi:i<len:=by simpa using h
  simpa using hf i hi
end Go.Proofs.YtadhpkopkkjmfaaGreatDoor
