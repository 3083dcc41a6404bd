/-
  On the way to ActsProof: Z0 Z1 ZK RTE JX.
-/
import Derived.Test.YtkbbjkiinpimiaaDoorProg
import Derived.WalkKit
import Derived.WalkLawsBesides
import Derived.WalkSpells
import Derived.OwnWalk
import Derived.BigQuiet
import Derived.Deep.QuietTactic
import Derived.Deep.RegionWith
import Derived.Deep.RegionHeld3
import Derived.Laws.EntriesVeiled
import Derived.ChangeShapes
import Derived.WideShapes
import Derived.RowKit
import Derived.Deep.Slices
set_option maxHeartbeats 8000000
set_option maxRecDepth 100000
namespace Go.Proofs.YtkbbjkiinpimiaaDoor
open Go.RowKit
theorem hid {p:Prop} (h:p):Hid p:=h
theorem ret_int {k:IntKind} {a b:Int} (h:a=b):Ending.returned (.int k a)=.returned (.int k b):=by rw [h]
theorem val_int {k:IntKind} {a b:Int} (h:a=b):Value.int k a=.int k b:=by rw [h]
theorem cell_lt {w:World} {p:Addr} {v:Value} (h:w.cell? p=some v):p.block<w.heap.size:=by
 rcases Nat.lt_or_ge p.block w.heap.size with h'|h'
 ·exact h'
 ·simp [World.cell?,Array.getElem?_eq_none h'] at h
theorem row_ltJ {w:World} {b:Nat} {o:Obj} (h:w.heap[b]? = some o):b<w.heap.size:=(Array.getElem?_eq_some_iff.1 h).1
theorem own_later {w w':World} {e:TypeId} {size n base B:Nat} {v:Value} {xs:List Value} (h:w.ownsRow base e size v n xs) (hb:Below B w w') (hB:w.heap.size≤B):w'.ownsRow base e size v n xs:=by
 refine ⟨h.1,?_⟩
 rcases h.2 with hn|⟨g,cap,cur,rfl,hb',hgg,rest⟩
 ·exact .inl hn
 ·exact .inr ⟨g,cap,cur,rfl,hb',(hb.block g (Nat.lt_of_lt_of_le (row_ltJ hgg) hB)).trans hgg,rest⟩
def ev (A:Nat→Addr):Nat→Value
 | 0=>.nilIface
 | c+1=>.iface 107 (.pointer (some (A c)))
structure Kept (S:Nat→Prop) (w w':World):Prop where
 os:w'.os=w.os
 tape:w'.tape=w.tape
 output:w'.output=w.output
 size:w.heap.size≤w'.heap.size
 block:∀ k,k<w.heap.size→¬ S k→w'.heap[k]? = w.heap[k]?
theorem Kept.refl (S:Nat→Prop) (w:World):Kept S w w:=⟨rfl,rfl,rfl,Nat.le_refl _,fun _ _ _=>rfl⟩
theorem Kept.trans {S:Nat→Prop} {a b c:World} (h:Kept S a b) (k:Kept S b c):Kept S a c :=
 ⟨k.os.trans h.os,k.tape.trans h.tape,k.output.trans h.output,Nat.le_trans h.size k.size,fun i hi hs=>(k.block i (Nat.lt_of_lt_of_le hi h.size) hs).trans (h.block i hi hs)⟩
theorem Kept.drew {S:Nat→Prop} {a w:World} (h:Kept S a w):Kept S a w.drew:=⟨h.os,h.tape,h.output,h.size,h.block⟩
theorem Kept.setCell {S:Nat→Prop} {a w:World} (h:Kept S a w) {p:Addr} (hp:S p.block) (u:Value):Kept S a (w.setCell p u) :=
 h.trans ⟨rfl,rfl,rfl,by simp,fun k _ hk=>Below.heap_setCell w p u k (fun e=>hk (e ▸ hp))⟩
theorem Kept.below {S:Nat→Prop} {B:Nat} {w0 w w':World} (h:Kept S w w') (hB:B≤w.heap.size) (hS:∀ k,S k→B≤k) (hb:Below B w0 w):Below B w0 w' :=
 hb.trans ⟨h.os,h.tape,h.output,h.size,fun k hk=>h.block k (by omega) (fun hs=>by have:=hS k hs; omega)⟩
theorem Kept.of_below {S:Nat→Prop} {w w':World} (h:Below w.heap.size w w'):Kept S w w':=⟨h.os,h.tape,h.output,h.size,fun k hk _=>h.block k hk⟩
theorem row_lt {w:World} {b:Nat} {o:Obj} (h:w.heap[b]? = some o):b<w.heap.size:=(Array.getElem?_eq_some_iff.1 h).1
theorem Kept.row {S:Nat→Prop} {w w':World} {b:Nat} {o:Obj} (h:Kept S w w') (hb:w.heap[b]? = some o) (hs:¬ S b):w'.heap[b]? = some o:=(h.block b (row_lt hb) hs).trans hb
def In1 (r:Nat) (k:Nat):Prop:=k=r
theorem Kept.set1 {r:Nat} {a w:World} (h:Kept (In1 r) a w) (i:Nat) (v:Value):Kept (In1 r) a (w.setCell ⟨r,i,none⟩ v):=h.setCell (show In1 r r from rfl) v
theorem Kept.mono {S T:Nat→Prop} {a b:World} (h:Kept S a b) (hs:∀ k,S k→T k):Kept T a b:=⟨h.os,h.tape,h.output,h.size,fun k hk ht=>h.block k hk (fun g=>ht (hs k g))⟩
theorem kept_alloc (S:Nat→Prop) (w:World) (o:Obj):Kept S w (w.alloc o):=Kept.of_below ((Below.refl _ _).alloc (Nat.le_refl _) o)
theorem keptC {g:Nat} {w w':World} {a:Addr} {v:Value} (h:Kept (In1 g) w w') (hc:w.cell? a=some v) (hs:a.block≠g):w'.cell? a=some v:=by
 rw [World.cell?_of_block (h.block _ (cell_lt hc) (fun e=>hs e))]; exact hc
theorem keptF {g b:Nat} {w w':World} {i:Nat} {o:Obj} (h:Kept (In1 g) w w') (hr:w.heap[b]? = some o) (hs:b≠g):w'.frozen? ⟨b,i,none⟩=w.frozen? ⟨b,i,none⟩:=World.frozen?_of_block (h.block b (row_ltJ hr) (fun e=>hs e))
theorem st_eql (x0 x1 x2 y0 y1 y2:Int) (b:Bool) (h:decide (x0=y0∧x1=y1∧x2=y2)=b) (w:World) :
  (binOp .eql 74 (.agg #[.int .i64 x0,.int .i64 x1,.int .i64 x2]) (.agg #[.int .i64 y0,.int .i64 y1,.int .i64 y2])).run Tryd.prog w=.ok (.bool b) w:=by
 subst h
 by_cases h0:x0=y0 <;> by_cases h1:x1=y1 <;> by_cases h2:x2=y2
 all_goals
  simp only [h0,h1,h2,and_true,and_self,and_false,decide_true,decide_false]
  go_simp
end Go.Proofs.YtkbbjkiinpimiaaDoor
namespace Go.Proofs.YtkbbjkiinpimiaaDoor
open Go.ChangeShapes Go.WideShapes Go.RowKit
theorem cellsSt3:Tryd.prog.cellsOf 74=3:=by kernel_rfl
theorem cellsInt1:Tryd.prog.cellsOf 3=1:=by kernel_rfl
theorem cellsBool1:Tryd.prog.cellsOf 4=1:=by kernel_rfl
theorem listOf3 {α:Type}:∀ (l:List α),l.length=3→∃ a b c,l=[a,b,c]
 | [a,b,c],_=>⟨a,b,c,rfl⟩
theorem listOf4 {α:Type}:∀ (l:List α),l.length=4→∃ a b c d,l=[a,b,c,d]
 | [a,b,c,d],_=>⟨a,b,c,d,rfl⟩
theorem listOf6 {α:Type}:∀ (l:List α),l.length=6→∃ a b c d e f,l=[a,b,c,d,e,f]
 | [a,b,c,d,e,f],_=>⟨a,b,c,d,e,f,rfl⟩
theorem int_le_of_wf {n:Int} (w3:(Lit.int .i64 n).wf=true):n≤9223372036854775807:=by
 have hmx:IntKind.i64.max=9223372036854775807:=by decide
 have hw:decide (IntKind.i64.min≤n)=true∧decide (n≤IntKind.i64.max)=true:=by simpa only [Lit.wf,Bool.and_eq_true] using w3
 have h2:=of_decide_eq_true hw.2
 rw [hmx] at h2
 exact h2
theorem st_of_trod {H:Type} {enc:TypeId×Value→H} {W:World} {base fuel:Nat} {cs:List Value} {x:DataW H×List MemPlace} {sp:Nat→Bool} {held:Bool}
  (h:DataW.trod enc Tryd.prog W base sp held fuel 74 cs=some x):∃ a b c:Int,cs=[.int .i64 a,.int .i64 b,.int .i64 c]:=by
 obtain ⟨ys,n,_,_,hl,hlen,hf⟩:=DataW.trod_struct Tryd.underlying74 h
 rw [cellsSt3] at hl
 obtain ⟨c0,c1,c2,rfl⟩:=listOf3 cs hl
 obtain ⟨y0,y1,y2,rfl⟩:=listOf3 ys hlen
 have f0:DataW.trod enc Tryd.prog W base sp held n 3 (([c0,c1,c2].drop 0).take (Tryd.prog.cellsOf 3))=some y0:=hf 0 _ rfl
 have f1:DataW.trod enc Tryd.prog W base sp held n 3 (([c0,c1,c2].drop 1).take (Tryd.prog.cellsOf 3))=some y1:=hf 1 _ rfl
 have f2:DataW.trod enc Tryd.prog W base sp held n 3 (([c0,c1,c2].drop 2).take (Tryd.prog.cellsOf 3))=some y2:=hf 2 _ rfl
 rw [cellsInt1] at f0 f1 f2
 obtain ⟨i0,e0,_,_⟩:=DataW.trod_int Tryd.underlying3 f0
 obtain ⟨i1,e1,_,_⟩:=DataW.trod_int Tryd.underlying3 f1
 obtain ⟨i2,e2,_,_⟩:=DataW.trod_int Tryd.underlying3 f2
 simp at e0 e1 e2
 subst e0 e1 e2
 exact ⟨i0,i1,i2,rfl⟩
end Go.Proofs.YtkbbjkiinpimiaaDoor
