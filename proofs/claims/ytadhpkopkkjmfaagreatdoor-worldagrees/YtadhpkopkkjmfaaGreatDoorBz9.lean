/-
  On the way to WStepsProof, WCommitsProof, WAgreesProof, WEndsProof, WWaitsProof: TG SX.
-/
import Derived.Test.YtadhpkopkkjmfaaGreatDoorBz3
import Derived.Laws.AppendOwnNone
set_option maxHeartbeats 8000000
set_option maxRecDepth 100000
namespace Go.Proofs.YtadhpkopkkjmfaaGreatDoor
open Go.RowKit
theorem Tryz.infoS3:(Tryz.prog.info? 43).map (fun i=>(i.zero,i.size,i.bytes))=some (some (.agg #[.int .i64 0,.int .i64 0,.int .i64 0]),3,24):=by kernel_rfl
def stCells (L:List S3):List Value:=L.flatMap fun s=>[.int .i64 s.p,.int .i64 s.r,.int .i64 s.a]
theorem stCells_cons (s:S3) (L:List S3):stCells (s :: L)=.int .i64 s.p :: .int .i64 s.r :: .int .i64 s.a :: stCells L:=rfl
theorem stCells_append (L M:List S3):stCells (L ++ M)=stCells L ++ stCells M:=by simp [stCells,List.flatMap_append]
theorem stCells_length:∀ L:List S3,(stCells L).length=L.length * 3
 | []=>rfl
 | s :: L=>by rw [stCells_cons]; simp [stCells_length L]; omega
theorem stCells_get:∀ (L:List S3) (i:Nat) (h:i<L.length),(stCells L)[i * 3]? = some (.int .i64 (L[i]'h).p)∧(stCells L)[i * 3+1]? = some (.int .i64 (L[i]'h).r)∧(stCells L)[i * 3+2]? = some (.int .i64 (L[i]'h).a)
 | [],i,h=>absurd h (Nat.not_lt_zero _)
 | s :: L,0,_=>⟨rfl,rfl,rfl⟩
 | s :: L,i+1,h=>by
  have ih:=stCells_get L i (by simpa using h)
  rw [stCells_cons,show (i+1) * 3=i * 3+1+1+1 by omega]
  simpa using ih
theorem stCells_one (L:List S3):∀ u∈stCells L,u.oneCell'=true:=by
 intro u hu
 obtain ⟨s,-,hs⟩:=List.mem_flatMap.1 hu
 simp at hs
 rcases hs with rfl|rfl|rfl <;> rfl
theorem SL.cells {w:World} {ad:Addr} {L:List S3} (h:SL w (some ad) L):∀ j u,(stCells L)[j]? = some u→w.cell? (ad.add j)=some u:=by
 intro j u hj
 have hlt:j<(stCells L).length:=(List.getElem?_eq_some_iff.1 hj).1
 rw [stCells_length] at hlt
 have hi:j / 3<L.length:=by omega
 obtain ⟨b,off,e,h0,h1,h2⟩:=h (j / 3) hi
 obtain ⟨g0,g1,g2⟩:=stCells_get L (j / 3) hi
 obtain rfl:=Option.some.inj e
 rw [addr_add]
 rcases (by omega:j=j / 3 * 3 ∨ j=j / 3 * 3+1 ∨ j=j / 3 * 3+2) with e|e|e
 ·rw [← e] at g0 h0; rw [g0] at hj; rw [← hj]; exact h0
 ·rw [← e] at g1; rw [Nat.add_assoc,← e] at h1; rw [g1] at hj; rw [← hj]; exact h1
 ·rw [← e] at g2; rw [Nat.add_assoc,← e] at h2; rw [g2] at hj; rw [← hj]; exact h2
theorem SL.owned {w:World} {base:Nat} {v:Value} {L:List S3} (h:w.ownsRow base 43 3 v L.length (stCells L)):∃ a cap,v=.slice a L.length cap∧(a=none→cap=0)∧SL w a L:=by
 have hc:=h
 rcases h.2 with ⟨rfl,h0⟩|⟨g,cap,cur,rfl,hb,hg,hle,hcap,hsz,htk⟩
 ·have e:L=[]:=List.length_eq_zero_iff.1 h0
  subst e
  exact ⟨none,0,rfl,fun _=>rfl,SL.nil _ _⟩
 ·refine ⟨_,cap,rfl,(fun h=>by cases h),fun i hi=>⟨g,0,rfl,?_,?_,?_⟩⟩
  ·have:=hc.cellAt (i * 3) (by omega)
   rw [Nat.zero_add,this]; exact (stCells_get L i hi).1
  ·have:=hc.cellAt (i * 3+1) (by omega)
   rw [Nat.zero_add,this]; exact (stCells_get L i hi).2.1
  ·have:=hc.cellAt (i * 3+2) (by omega)
   rw [Nat.zero_add,this]; exact (stCells_get L i hi).2.2
theorem wp_append_states {ops:Array Oper} {rest:List Oper} {o:Oper} {a:Act} {Q:Exit→Act→World→Prop} {w:World} (hgd:o.guard=none) (s x:Operand)
  (ho:o.op=.call { callee:=.builtin .append,args:=#[s,x],argTypes:=#[37,37] }) (base:Nat)
  (v:Value) (M:List S3) (hs:a.eval s=v) (hown:w.ownsRow base 43 3 v M.length (stCells M)) (ad:Option Addr) (n cap:Nat) (L:List S3) (hx:a.eval x=.slice ad n cap) (hn:n=L.length) (hno:ad=none→cap=0)
  (hL:SL w ad L) (h1:M.length≤100) (h2:L.length≤100) (hbase:base≤w.heap.size)
  (h:∀ v' w',w'.ownsRow base 43 3 v' (M ++ L).length (stCells (M ++ L))→Below base w w'→wpList Tryz.prog ops Q rest (a.put o.dst v') w'):wpList Tryz.prog ops Q (o :: rest) a w:=by
 obtain ⟨i0,hi,hz0,hz1,hz2⟩:=info_parts Tryz.infoS3
 subst hn
 cases ad with
 | none =>
  have hc:=hno rfl
  subst hc
  have hz:L=[]:=by
   cases L with
   | nil=>rfl
   | cons y r=>obtain ⟨b,off,e,_⟩:=hL 0 (by simp); cases e
  subst hz
  refine wpList_append_own_none hgd s x 37 ho base 43 i0 3 Tryz.underlying37 hi v M.length (stCells M) hs hown hx ?_
  exact h v w (by rw [List.append_nil]; exact hown) (Below.refl _ _)
 | some ad =>
  refine wpList_append_own _ hgd s x 37 ho base 43 i0 _ 3 24 Tryz.underlying37 hi hz0 hz1 hz2 rfl (by decide) v M.length (stCells M) hs hown ad L.length cap (stCells L) hx (stCells_length L) hL.cells (stCells_one L) (by unfold maxLen; omega) (by omega) hbase ?_
  intro v' w' h3 h4 _
  refine h v' w' (by rw [List.length_append,stCells_append]; exact h3) ((Below.refl _ _).grown h4 hbase fun k hk=>?_)
  rcases hown.2 with ⟨rfl,_⟩|⟨g,cap',cur,rfl,hb,_⟩
  ·cases hk
  ·simp [Value.ownBlock] at hk; omega
structure Step4 where
 k:ByteArray
 s:Int
 d:Int
 n:Int
def SIn (w:World) (a:Option Addr) (L:List Step4):Prop :=
 ∀ i (h:i<L.length),(L[i]'h).n≤9223372036854775807∧∃ b off,a=some ⟨b,off,none⟩∧w.cell? ⟨b,off+i * 4,none⟩=some (.string (L[i]'h).k)∧w.cell? ⟨b,off+i * 4+1,none⟩=some (.int .i64 (L[i]'h).s)∧w.cell? ⟨b,off+i * 4+2,none⟩=some (.int .i64 (L[i]'h).d)∧w.cell? ⟨b,off+i * 4+3,none⟩=some (.int .i64 (L[i]'h).n)
theorem SIn.later {w w':World} {a:Option Addr} {L:List Step4} (h:SIn w a L) (hb:Below w.heap.size w w'):SIn w' a L:=fun i hi=>by
 obtain ⟨hn,b,off,ha,h0,h1,h2,h3⟩:=h i hi
 exact ⟨hn,b,off,ha,cell_later hb h0,cell_later hb h1,cell_later hb h2,cell_later hb h3⟩
end Go.Proofs.YtadhpkopkkjmfaaGreatDoor
