/-
  On the way to SActsProof: Z0 Z1 ZK RTE KV JX KJ SB.
-/
import Derived.Test.YtkopfpaldmapdaaDoorProg
import Derived.WalkKit
import Derived.WalkLawsBesides
import Derived.WalkSpells
import Derived.OwnWalk
import Derived.BigQuiet
import Derived.Deep.QuietTactic
import Derived.Deep.RegionWith
import Derived.Deep.RegionHeld3
import Derived.Laws.EntriesVeiled
import Derived.Laws.Rows
import Derived.ChangeShapes
import Derived.WideShapes
import Derived.RowKit
import Derived.Deep.Slices
set_option maxHeartbeats 8000000
set_option maxRecDepth 100000
namespace Go.Proofs.YtkopfpaldmapdaaDoor
open Go.RowKit
theorem hid {p:Prop} (h:p):Hid p:=h
theorem ret_int {k:IntKind} {a b:Int} (h:a=b):Ending.returned (.int k a)=.returned (.int k b):=by rw [h]
theorem val_int {k:IntKind} {a b:Int} (h:a=b):Value.int k a=.int k b:=by rw [h]
theorem cell_lt {w:World} {p:Addr} {v:Value} (h:w.cell? p=some v):p.block<w.heap.size:=by
 rcases Nat.lt_or_ge p.block w.heap.size with h'|h'
 ·exact h'
 ·simp [World.cell?,Array.getElem?_eq_none h'] at h
theorem row_ltJ {w:World} {b:Nat} {o:Obj} (h:w.heap[b]? = some o):b<w.heap.size:=(Array.getElem?_eq_some_iff.1 h).1
theorem own_later {w w':World} {e:TypeId} {size n base B:Nat} {v:Value} {xs:List Value} (h:w.ownsRow base e size v n xs) (hb:Below B w w') (hB:w.heap.size≤B):w'.ownsRow base e size v n xs:=by
 refine ⟨h.1,?_⟩
 rcases h.2 with hn|⟨g,cap,cur,rfl,hb',hgg,rest⟩
 ·exact .inl hn
 ·exact .inr ⟨g,cap,cur,rfl,hb',(hb.block g (Nat.lt_of_lt_of_le (row_ltJ hgg) hB)).trans hgg,rest⟩
def ev (A:Nat→Addr):Nat→Value
 | 0=>.nilIface
 | c+1=>.iface 189 (.pointer (some (A c)))
structure Kept (S:Nat→Prop) (w w':World):Prop where
 os:w'.os=w.os
 tape:w'.tape=w.tape
 output:w'.output=w.output
 size:w.heap.size≤w'.heap.size
 block:∀ k,k<w.heap.size→¬ S k→w'.heap[k]? = w.heap[k]?
theorem Kept.refl (S:Nat→Prop) (w:World):Kept S w w:=⟨rfl,rfl,rfl,Nat.le_refl _,fun _ _ _=>rfl⟩
theorem Kept.trans {S:Nat→Prop} {a b c:World} (h:Kept S a b) (k:Kept S b c):Kept S a c :=
 ⟨k.os.trans h.os,k.tape.trans h.tape,k.output.trans h.output,Nat.le_trans h.size k.size,fun i hi hs=>(k.block i (Nat.lt_of_lt_of_le hi h.size) hs).trans (h.block i hi hs)⟩
theorem Kept.drew {S:Nat→Prop} {a w:World} (h:Kept S a w):Kept S a w.drew:=⟨h.os,h.tape,h.output,h.size,h.block⟩
theorem Kept.setCell {S:Nat→Prop} {a w:World} (h:Kept S a w) {p:Addr} (hp:S p.block) (u:Value):Kept S a (w.setCell p u) :=
 h.trans ⟨rfl,rfl,rfl,by simp,fun k _ hk=>Below.heap_setCell w p u k (fun e=>hk (e ▸ hp))⟩
theorem Kept.below {S:Nat→Prop} {B:Nat} {w0 w w':World} (h:Kept S w w') (hB:B≤w.heap.size) (hS:∀ k,S k→B≤k) (hb:Below B w0 w):Below B w0 w' :=
 hb.trans ⟨h.os,h.tape,h.output,h.size,fun k hk=>h.block k (by omega) (fun hs=>by have:=hS k hs; omega)⟩
theorem Kept.of_below {S:Nat→Prop} {w w':World} (h:Below w.heap.size w w'):Kept S w w':=⟨h.os,h.tape,h.output,h.size,fun k hk _=>h.block k hk⟩
theorem row_lt {w:World} {b:Nat} {o:Obj} (h:w.heap[b]? = some o):b<w.heap.size:=(Array.getElem?_eq_some_iff.1 h).1
theorem Kept.row {S:Nat→Prop} {w w':World} {b:Nat} {o:Obj} (h:Kept S w w') (hb:w.heap[b]? = some o) (hs:¬ S b):w'.heap[b]? = some o:=(h.block b (row_lt hb) hs).trans hb
def In1 (r:Nat) (k:Nat):Prop:=k=r
theorem Kept.set1 {r:Nat} {a w:World} (h:Kept (In1 r) a w) (i:Nat) (v:Value):Kept (In1 r) a (w.setCell ⟨r,i,none⟩ v):=h.setCell (show In1 r r from rfl) v
theorem Kept.mono {S T:Nat→Prop} {a b:World} (h:Kept S a b) (hs:∀ k,S k→T k):Kept T a b:=⟨h.os,h.tape,h.output,h.size,fun k hk ht=>h.block k hk (fun g=>ht (hs k g))⟩
theorem kept_alloc (S:Nat→Prop) (w:World) (o:Obj):Kept S w (w.alloc o):=Kept.of_below ((Below.refl _ _).alloc (Nat.le_refl _) o)
theorem keptC {g:Nat} {w w':World} {a:Addr} {v:Value} (h:Kept (In1 g) w w') (hc:w.cell? a=some v) (hs:a.block≠g):w'.cell? a=some v:=by
 rw [World.cell?_of_block (h.block _ (cell_lt hc) (fun e=>hs e))]; exact hc
theorem keptF {g b:Nat} {w w':World} {i:Nat} {o:Obj} (h:Kept (In1 g) w w') (hr:w.heap[b]? = some o) (hs:b≠g):w'.frozen? ⟨b,i,none⟩=w.frozen? ⟨b,i,none⟩:=World.frozen?_of_block (h.block b (row_ltJ hr) (fun e=>hs e))
theorem st_eql (x0 x1 x2 y0 y1 y2:Int) (b:Bool) (h:decide (x0=y0∧x1=y1∧x2=y2)=b) (w:World) :
  (binOp .eql 34 (.agg #[.int .i64 x0,.int .i64 x1,.int .i64 x2]) (.agg #[.int .i64 y0,.int .i64 y1,.int .i64 y2])).run Tryd.prog w=.ok (.bool b) w:=by
 subst h
 by_cases h0:x0=y0 <;> by_cases h1:x1=y1 <;> by_cases h2:x2=y2
 all_goals
  simp only [h0,h1,h2,and_true,and_self,and_false,decide_true,decide_false]
  go_simp
abbrev frV (f t d k a:Int) (y:Bool) (ph pr pa:Int):Value:=.agg #[.int .i64 f,.int .i64 t,.int .i64 d,.int .i64 k,.int .i64 a,.bool y,.int .i64 ph,.int .i64 pr,.int .i64 pa]
theorem nine {w:World} {g:Nat} {f t d k a:Int} {y:Bool} {ph pr pa:Int} {ty:TypeId} {fr:Nat×Nat} (h:w.heap[g]? = some (.cells #[.int .i64 f,.int .i64 t,.int .i64 d,.int .i64 k,.int .i64 a,.bool y,.int .i64 ph,.int .i64 pr,.int .i64 pa] ty fr)) :
  w.cell? ⟨g,0,none⟩=some (.int .i64 f)∧w.cell? ⟨g,1,none⟩=some (.int .i64 t)∧w.cell? ⟨g,2,none⟩=some (.int .i64 d)∧w.cell? ⟨g,3,none⟩=some (.int .i64 k)∧w.cell? ⟨g,4,none⟩=some (.int .i64 a)∧w.cell? ⟨g,5,none⟩=some (.bool y)∧w.cell? ⟨g,6,none⟩=some (.int .i64 ph)∧w.cell? ⟨g,7,none⟩=some (.int .i64 pr)∧w.cell? ⟨g,8,none⟩=some (.int .i64 pa):=by
 refine ⟨?_,?_,?_,?_,?_,?_,?_,?_,?_⟩ <;> rw [cell_of_row _ _ _ _ _ _ h] <;> rfl
end Go.Proofs.YtkopfpaldmapdaaDoor
namespace Go.Proofs.YtkopfpaldmapdaaDoor
open Go.ChangeShapes Go.WideShapes Go.RowKit
theorem cellsSt3:Tryd.prog.cellsOf 34=3:=by kernel_rfl
theorem cellsInt1:Tryd.prog.cellsOf 3=1:=by kernel_rfl
theorem cellsBool1:Tryd.prog.cellsOf 4=1:=by kernel_rfl
theorem listOf3 {α:Type}:∀ (l:List α),l.length=3→∃ a b c,l=[a,b,c]
 | [a,b,c],_=>⟨a,b,c,rfl⟩
theorem listOf4 {α:Type}:∀ (l:List α),l.length=4→∃ a b c d,l=[a,b,c,d]
 | [a,b,c,d],_=>⟨a,b,c,d,rfl⟩
theorem int_le_of_wf {n:Int} (w3:(Lit.int .i64 n).wf=true):n≤9223372036854775807:=by
 have hmx:IntKind.i64.max=9223372036854775807:=by decide
 have hw:decide (IntKind.i64.min≤n)=true∧decide (n≤IntKind.i64.max)=true:=by simpa only [Lit.wf,Bool.and_eq_true] using w3
 have h2:=of_decide_eq_true hw.2
 rw [hmx] at h2
 exact h2
theorem st_of_trod {H:Type} {enc:TypeId×Value→H} {W:World} {base fuel:Nat} {cs:List Value} {x:DataW H×List MemPlace} {sp:Nat→Bool} {held:Bool}
  (h:DataW.trod enc Tryd.prog W base sp held fuel 34 cs=some x):∃ a b c:Int,cs=[.int .i64 a,.int .i64 b,.int .i64 c]:=by
 obtain ⟨ys,n,_,_,hl,hlen,hf⟩:=DataW.trod_struct Tryd.underlying34 h
 rw [cellsSt3] at hl
 obtain ⟨c0,c1,c2,rfl⟩:=listOf3 cs hl
 obtain ⟨y0,y1,y2,rfl⟩:=listOf3 ys hlen
 have f0:DataW.trod enc Tryd.prog W base sp held n 3 (([c0,c1,c2].drop 0).take (Tryd.prog.cellsOf 3))=some y0:=hf 0 _ rfl
 have f1:DataW.trod enc Tryd.prog W base sp held n 3 (([c0,c1,c2].drop 1).take (Tryd.prog.cellsOf 3))=some y1:=hf 1 _ rfl
 have f2:DataW.trod enc Tryd.prog W base sp held n 3 (([c0,c1,c2].drop 2).take (Tryd.prog.cellsOf 3))=some y2:=hf 2 _ rfl
 rw [cellsInt1] at f0 f1 f2
 obtain ⟨i0,e0,_,_⟩:=DataW.trod_int Tryd.underlying3 f0
 obtain ⟨i1,e1,_,_⟩:=DataW.trod_int Tryd.underlying3 f1
 obtain ⟨i2,e2,_,_⟩:=DataW.trod_int Tryd.underlying3 f2
 simp at e0 e1 e2
 subst e0 e1 e2
 exact ⟨i0,i1,i2,rfl⟩
theorem cellsFr9:Tryd.prog.cellsOf 36=9:=by kernel_rfl
theorem listOf7 {α:Type}:∀ (l:List α),l.length=7→∃ a b c d e f g,l=[a,b,c,d,e,f,g]
 | [a,b,c,d,e,f,g],_=>⟨a,b,c,d,e,f,g,rfl⟩
theorem listOf9 {α:Type}:∀ (l:List α),l.length=9→∃ a b c d e f g h i,l=[a,b,c,d,e,f,g,h,i]
 | [a,b,c,d,e,f,g,h,i],_=>⟨a,b,c,d,e,f,g,h,i,rfl⟩
theorem fr_of_trod {H:Type} {enc:TypeId×Value→H} {W:World} {base fuel:Nat} {cs:List Value} {x:DataW H×List MemPlace} {sp:Nat→Bool} {held:Bool}
  (h:DataW.trod enc Tryd.prog W base sp held fuel 36 cs=some x):∃ (f t d k a:Int) (y:Bool) (ph pr pa:Int),cs=[.int .i64 f,.int .i64 t,.int .i64 d,.int .i64 k,.int .i64 a,.bool y,.int .i64 ph,.int .i64 pr,.int .i64 pa]:=by
 obtain ⟨ys,n,_,_,hl,hlen,hf⟩:=DataW.trod_struct Tryd.underlying36 h
 rw [cellsFr9] at hl
 obtain ⟨c0,c1,c2,c3,c4,c5,c6,c7,c8,rfl⟩:=listOf9 cs hl
 obtain ⟨y0,y1,y2,y3,y4,y5,y6,rfl⟩:=listOf7 ys hlen
 have f0:DataW.trod enc Tryd.prog W base sp held n 3 (([c0,c1,c2,c3,c4,c5,c6,c7,c8].drop 0).take (Tryd.prog.cellsOf 3))=some y0:=hf 0 _ rfl
 have f1:DataW.trod enc Tryd.prog W base sp held n 3 (([c0,c1,c2,c3,c4,c5,c6,c7,c8].drop 1).take (Tryd.prog.cellsOf 3))=some y1:=hf 1 _ rfl
 have f2:DataW.trod enc Tryd.prog W base sp held n 3 (([c0,c1,c2,c3,c4,c5,c6,c7,c8].drop 2).take (Tryd.prog.cellsOf 3))=some y2:=hf 2 _ rfl
 have f3:DataW.trod enc Tryd.prog W base sp held n 3 (([c0,c1,c2,c3,c4,c5,c6,c7,c8].drop 3).take (Tryd.prog.cellsOf 3))=some y3:=hf 3 _ rfl
 have f4:DataW.trod enc Tryd.prog W base sp held n 3 (([c0,c1,c2,c3,c4,c5,c6,c7,c8].drop 4).take (Tryd.prog.cellsOf 3))=some y4:=hf 4 _ rfl
 have f5:DataW.trod enc Tryd.prog W base sp held n 4 (([c0,c1,c2,c3,c4,c5,c6,c7,c8].drop 5).take (Tryd.prog.cellsOf 4))=some y5:=hf 5 _ rfl
 have f6:DataW.trod enc Tryd.prog W base sp held n 34 (([c0,c1,c2,c3,c4,c5,c6,c7,c8].drop 6).take (Tryd.prog.cellsOf 34))=some y6:=hf 6 _ rfl
 rw [cellsInt1] at f0 f1 f2 f3 f4
 rw [cellsBool1] at f5
 rw [cellsSt3] at f6
 obtain ⟨i0,e0,_,_⟩:=DataW.trod_int Tryd.underlying3 f0
 obtain ⟨i1,e1,_,_⟩:=DataW.trod_int Tryd.underlying3 f1
 obtain ⟨i2,e2,_,_⟩:=DataW.trod_int Tryd.underlying3 f2
 obtain ⟨i3,e3,_,_⟩:=DataW.trod_int Tryd.underlying3 f3
 obtain ⟨i4,e4,_,_⟩:=DataW.trod_int Tryd.underlying3 f4
 obtain ⟨b5,e5,_⟩:=DataW.trod_bool Tryd.underlying4 f5
 obtain ⟨s0,s1,s2,es⟩:=st_of_trod f6
 simp at e0 e1 e2 e3 e4 e5 es
 obtain ⟨es0,es1,es2⟩:=es
 subst e0 e1 e2 e3 e4 e5 es0 es1 es2
 exact ⟨i0,i1,i2,i3,i4,b5,s0,s1,s2,rfl⟩
structure Act12 where
 kind:ByteArray
 f:Int
 t:Int
 d:Int
 k:Int
 a:Int
 y:Bool
 ph:Int
 pr:Int
 pa:Int
 deal:Int
 n:Int
def act12L (x:Act12):List Value:=[.string x.kind,.int .i64 x.f,.int .i64 x.t,.int .i64 x.d,.int .i64 x.k,.int .i64 x.a,.bool x.y,.int .i64 x.ph,.int .i64 x.pr,.int .i64 x.pa,.int .i64 x.deal,.int .i64 x.n]
def SActsIn (w:World) (ad:Option Addr) (xs:List Act12):Prop:=∀ i (h:i<xs.length),∃ b off,ad=some ⟨b,off,none⟩∧(∀ j,j<12→w.cell? ⟨b,off+i * 12+j,none⟩=(act12L (xs[i]'h))[j]?)∧(xs[i]'h).n≤9223372036854775807
theorem twelve {w:World} {b o:Nat} {x:Act12} (h:∀ j,j<12→w.cell? ⟨b,o+j,none⟩=(act12L x)[j]?) :
  w.cell? ⟨b,o,none⟩=some (.string x.kind)∧w.cell? ⟨b,o+1,none⟩=some (.int .i64 x.f)∧w.cell? ⟨b,o+2,none⟩=some (.int .i64 x.t)∧w.cell? ⟨b,o+3,none⟩=some (.int .i64 x.d)∧w.cell? ⟨b,o+4,none⟩=some (.int .i64 x.k)∧w.cell? ⟨b,o+5,none⟩=some (.int .i64 x.a) ∧
  w.cell? ⟨b,o+6,none⟩=some (.bool x.y)∧w.cell? ⟨b,o+7,none⟩=some (.int .i64 x.ph)∧w.cell? ⟨b,o+8,none⟩=some (.int .i64 x.pr)∧w.cell? ⟨b,o+9,none⟩=some (.int .i64 x.pa)∧w.cell? ⟨b,o+10,none⟩=some (.int .i64 x.deal)∧w.cell? ⟨b,o+11,none⟩=some (.int .i64 x.n) :=
 ⟨h 0 (by omega),h 1 (by omega),h 2 (by omega),h 3 (by omega),h 4 (by omega),h 5 (by omega),h 6 (by omega),h 7 (by omega),h 8 (by omega),h 9 (by omega),h 10 (by omega),h 11 (by omega)⟩
theorem twelveR {w:World} {g:Nat} {k:ByteArray} {f t d kk a:Int} {y:Bool} {ph pr pa dl n:Int} {ty:TypeId} {fr:Nat×Nat} (h:w.heap[g]? = some (.cells #[.string k,.int .i64 f,.int .i64 t,.int .i64 d,.int .i64 kk,.int .i64 a,.bool y,.int .i64 ph,.int .i64 pr,.int .i64 pa,.int .i64 dl,.int .i64 n] ty fr)) :
  w.cell? ⟨g,0,none⟩=some (.string k)∧w.cell? ⟨g,1,none⟩=some (.int .i64 f)∧w.cell? ⟨g,2,none⟩=some (.int .i64 t)∧w.cell? ⟨g,3,none⟩=some (.int .i64 d)∧w.cell? ⟨g,4,none⟩=some (.int .i64 kk)∧w.cell? ⟨g,5,none⟩=some (.int .i64 a) ∧
  w.cell? ⟨g,6,none⟩=some (.bool y)∧w.cell? ⟨g,7,none⟩=some (.int .i64 ph)∧w.cell? ⟨g,8,none⟩=some (.int .i64 pr)∧w.cell? ⟨g,9,none⟩=some (.int .i64 pa)∧w.cell? ⟨g,10,none⟩=some (.int .i64 dl)∧w.cell? ⟨g,11,none⟩=some (.int .i64 n):=by
 refine ⟨?_,?_,?_,?_,?_,?_,?_,?_,?_,?_,?_,?_⟩ <;> rw [cell_of_row _ _ _ _ _ _ h] <;> rfl
theorem cellsSAct:Tryd.prog.cellsOf 38=12:=by kernel_rfl
theorem cellsStr1:Tryd.prog.cellsOf 9=1:=by kernel_rfl
theorem listOf12 {α:Type}:∀ (l:List α),l.length=12→∃ a b c d e f g h i j k m,l=[a,b,c,d,e,f,g,h,i,j,k,m]
 | [a,b,c,d,e,f,g,h,i,j,k,m],_=>⟨a,b,c,d,e,f,g,h,i,j,k,m,rfl⟩
theorem sact_of_trod {H:Type} {enc:TypeId×Value→H} {W:World} {base fuel:Nat} {cs:List Value} {x:DataW H×List MemPlace} {sp:Nat→Bool} {held:Bool}
  (h:DataW.trod enc Tryd.prog W base sp held fuel 38 cs=some x):∃ t:Act12,cs=act12L t∧t.n≤9223372036854775807:=by
 obtain ⟨ys,n,_,_,hl,hlen,hf⟩:=DataW.trod_struct Tryd.underlying38 h
 rw [cellsSAct] at hl
 obtain ⟨c0,c1,c2,c3,c4,c5,c6,c7,c8,c9,c10,c11,rfl⟩:=listOf12 cs hl
 obtain ⟨y0,y1,y2,y3,rfl⟩:=listOf4 ys hlen
 have f0:DataW.trod enc Tryd.prog W base sp held n 9 (([c0,c1,c2,c3,c4,c5,c6,c7,c8,c9,c10,c11].drop 0).take (Tryd.prog.cellsOf 9))=some y0:=hf 0 _ rfl
 have f1:DataW.trod enc Tryd.prog W base sp held n 36 (([c0,c1,c2,c3,c4,c5,c6,c7,c8,c9,c10,c11].drop 1).take (Tryd.prog.cellsOf 36))=some y1:=hf 1 _ rfl
 have f2:DataW.trod enc Tryd.prog W base sp held n 3 (([c0,c1,c2,c3,c4,c5,c6,c7,c8,c9,c10,c11].drop 10).take (Tryd.prog.cellsOf 3))=some y2:=hf 2 _ rfl
 have f3:DataW.trod enc Tryd.prog W base sp held n 3 (([c0,c1,c2,c3,c4,c5,c6,c7,c8,c9,c10,c11].drop 11).take (Tryd.prog.cellsOf 3))=some y3:=hf 3 _ rfl
 rw [cellsInt1] at f2 f3
 rw [cellsFr9] at f1
 rw [cellsStr1] at f0
 obtain ⟨s0,e0,_,_⟩:=DataW.trod_string Tryd.underlying9 f0
 obtain ⟨i1,i2,i3,i4,i5,b6,i7,i8,i9,e1⟩:=fr_of_trod f1
 obtain ⟨i10,e2,_,_⟩:=DataW.trod_int Tryd.underlying3 f2
 obtain ⟨i11,e3,_,w3⟩:=DataW.trod_int Tryd.underlying3 f3
 simp at e0 e1 e2 e3
 obtain ⟨g1,g2,g3,g4,g5,g6,g7,g8,g9⟩:=e1
 subst e0 g1 g2 g3 g4 g5 g6 g7 g8 g9 e2 e3
 exact ⟨⟨s0,i1,i2,i3,i4,i5,b6,i7,i8,i9,i10,i11⟩,rfl,int_le_of_wf w3⟩
theorem sacts_of_trod {H:Type} {enc:TypeId×Value→H} {W:World} {a:Option Addr} {len cap fuel:Nat} {d:DataW H} {p:List MemPlace} {sp:Nat→Bool} {held:Bool}
  (hf:DataW.trod enc Tryd.prog W 0 sp held fuel 22 (Value.slice a len cap).cells.toList=some (d,p)):∃ xs:List Act12,xs.length=len∧xs.length≤maxLen∧SActsIn W a xs:=by
 rcases Deep.open_slice Tryd.underlying22 hf with ⟨hcs,_⟩|⟨x,l,c,m,n,D,Pl,hcs,_,hl,hm,hmm,_,hx⟩
 ·simp [Value.cells] at hcs
  obtain ⟨rfl,rfl,rfl⟩:=hcs
  exact ⟨[],rfl,Nat.zero_le _,fun i h=>absurd h (Nat.not_lt_zero _)⟩
 ·simp [Value.cells] at hcs
  obtain ⟨rfl,rfl,rfl⟩:=hcs
  have hlm:len≤m:=by rw [hmm]; split <;> omega
  have each:∀ i,i<len→∃ t:Act12,∃ b off,some x=some ⟨b,off,none⟩∧(∀ j,j<12→W.cell? ⟨b,off+i * 12+j,none⟩=(act12L t)[j]?)∧t.n≤9223372036854775807:=by
   intro i hi
   obtain ⟨cs,h1,h2⟩:=hx i (by omega)
   obtain ⟨t,rfl,g1⟩:=sact_of_trod h2
   rw [cellsSAct] at h1
   obtain ⟨_,_,h3⟩:=World.cells?_some h1
   obtain ⟨b,off,spot⟩:=x
   obtain ⟨cs0,g3,g4⟩:=hx 0 (by omega)
   obtain ⟨t0,rfl,_⟩:=sact_of_trod g4
   rw [cellsSAct] at g3
   obtain ⟨_,_,g5⟩:=World.cells?_some g3
   have hz:=g5 0 (by omega)
   have hsp:spot=none:=by
    cases spot with
    | none=>rfl
    | some k=>unfold World.cell? Addr.add at hz; simp [act12L] at hz; revert hz; split <;> simp
   subst hsp
   refine ⟨t,b,off,rfl,fun j hj=>?_,g1⟩
   have q:=h3 j hj
   simp only [Addr.add_lit] at q
   exact q
  have:Inhabited Act12:=⟨⟨⟨#[]⟩,0,0,0,0,0,false,0,0,0,0,0⟩⟩
  obtain ⟨f,hf⟩:=Deep.choose_lt each
  refine ⟨(List.range len).map f,by simp,by simp; omega,fun i h=>?_⟩
  have hi:i<len:=by simpa using h
  simpa using hf i hi
end Go.Proofs.YtkopfpaldmapdaaDoor
