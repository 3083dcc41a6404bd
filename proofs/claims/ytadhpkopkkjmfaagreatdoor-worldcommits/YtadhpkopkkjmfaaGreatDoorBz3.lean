/-
  On the way to WStepsProof, WCommitsProof, WAgreesProof, WEndsProof, WWaitsProof, JTampersProof, PAgreesProof, PAgainProof: Z0 KV L1 ZK TA TS Z1 RTE TO TB EV.
-/
import Derived.Test.YtadhpkopkkjmfaaGreatDoorProg
import Derived.WalkKit
import Derived.WalkLawsBesides
import Derived.WalkSpells
import Derived.OwnWalk
import Derived.Laws.Rows
import Derived.BigRegion
import Derived.RegionTactic
import Derived.Laws.StructEq
import Derived.Laws.AppendOwn
import Derived.Laws.OwnMore
import Derived.Deep.AppendLies
import Derived.Deep.RegionHeldLaw
import Derived.Deep.RegionLawGrows
import Derived.BigQuiet
import Derived.Deep.QuietTactic
import Derived.Deep.RegionWith
import Derived.Deep.RegionHeld3
import Derived.Laws.EntriesVeiled
import Derived.Deep.Slices
set_option maxHeartbeats 8000000
set_option maxRecDepth 100000
namespace Go.Proofs.YtadhpkopkkjmfaaGreatDoor
open Go.RowKit
theorem hid {p:Prop} (h:p):Hid p:=h
theorem ret_int {k:IntKind} {a b:Int} (h:a=b):Ending.returned (.int k a)=.returned (.int k b):=by rw [h]
theorem val_int {k:IntKind} {a b:Int} (h:a=b):Value.int k a=.int k b:=by rw [h]
theorem cell_alloc {w:World} {p:Addr} {v:Value} (o:Obj) (h:w.cell? p=some v):(w.alloc o).cell? p=some v :=
 cell_later ((Below.refl _ _).alloc (Nat.le_refl _) o) h
theorem cell_lt {w:World} {p:Addr} {v:Value} (h:w.cell? p=some v):p.block<w.heap.size:=by
 rcases Nat.lt_or_ge p.block w.heap.size with h'|h'
 ·exact h'
 ·simp [World.cell?,Array.getElem?_eq_none h'] at h
theorem addr_add (b off j:Nat):(⟨b,off,none⟩:Addr).add j=⟨b,off+j,none⟩:=by
 unfold Addr.add; split <;> simp_all
theorem below_trans {a b c:World} (h:Below a.heap.size a b) (k:Below b.heap.size b c):Below a.heap.size a c:=h.trans (k.mono h.size)
theorem row_ltJ {w:World} {b:Nat} {o:Obj} (h:w.heap[b]? = some o):b<w.heap.size:=(Array.getElem?_eq_some_iff.1 h).1
theorem own_later {w w':World} {e:TypeId} {size n base B:Nat} {v:Value} {xs:List Value} (h:w.ownsRow base e size v n xs) (hb:Below B w w') (hB:w.heap.size≤B):w'.ownsRow base e size v n xs:=by
 refine ⟨h.1,?_⟩
 rcases h.2 with hn|⟨g,cap,cur,rfl,hb',hgg,rest⟩
 ·exact .inl hn
 ·exact .inr ⟨g,cap,cur,rfl,hb',(hb.block g (Nat.lt_of_lt_of_le (row_ltJ hgg) hB)).trans hgg,rest⟩
abbrev frV (f t d k a:Int) (y:Bool) (ph pr pa:Int):Value:=.agg #[.int .i64 f,.int .i64 t,.int .i64 d,.int .i64 k,.int .i64 a,.bool y,.int .i64 ph,.int .i64 pr,.int .i64 pa]
theorem nine {w:World} {g:Nat} {f t d k a:Int} {y:Bool} {ph pr pa:Int} {ty:TypeId} {fr:Nat×Nat} (h:w.heap[g]? = some (.cells #[.int .i64 f,.int .i64 t,.int .i64 d,.int .i64 k,.int .i64 a,.bool y,.int .i64 ph,.int .i64 pr,.int .i64 pa] ty fr)) :
  w.cell? ⟨g,0,none⟩=some (.int .i64 f)∧w.cell? ⟨g,1,none⟩=some (.int .i64 t)∧w.cell? ⟨g,2,none⟩=some (.int .i64 d)∧w.cell? ⟨g,3,none⟩=some (.int .i64 k)∧w.cell? ⟨g,4,none⟩=some (.int .i64 a)∧w.cell? ⟨g,5,none⟩=some (.bool y)∧w.cell? ⟨g,6,none⟩=some (.int .i64 ph)∧w.cell? ⟨g,7,none⟩=some (.int .i64 pr)∧w.cell? ⟨g,8,none⟩=some (.int .i64 pa):=by
 refine ⟨?_,?_,?_,?_,?_,?_,?_,?_,?_⟩ <;> rw [cell_of_row _ _ _ _ _ _ h] <;> rfl
theorem set9 {w:World} {g:Nat} {a0 a1 a2 a3 a4 a5 a6 a7 a8:Value} {t:TypeId} (h:w.heap[g]? = some (.cells #[a0,a1,a2,a3,a4,a5,a6,a7,a8] t (0,0))) (x0 x1 x2 x3 x4 x5 x6 x7 x8:Value) :
  (((((((((w.setCell ⟨g,0,none⟩ x0).setCell ⟨g,1,none⟩ x1).setCell ⟨g,2,none⟩ x2).setCell ⟨g,3,none⟩ x3).setCell ⟨g,4,none⟩ x4).setCell ⟨g,5,none⟩ x5).setCell ⟨g,6,none⟩ x6).setCell ⟨g,7,none⟩ x7).setCell ⟨g,8,none⟩ x8).heap[g]? = some (.cells #[x0,x1,x2,x3,x4,x5,x6,x7,x8] t (0,0)):=by
 have h0:(w.setCell ⟨g,0,none⟩ x0).heap[g]? = some (.cells #[x0,a1,a2,a3,a4,a5,a6,a7,a8] t (0,0)):=heap_setCell_same _ g 0 #[a0,a1,a2,a3,a4,a5,a6,a7,a8] t x0 h
 have h1:((w.setCell ⟨g,0,none⟩ x0).setCell ⟨g,1,none⟩ x1).heap[g]? = some (.cells #[x0,x1,a2,a3,a4,a5,a6,a7,a8] t (0,0)):=heap_setCell_same _ g 1 #[x0,a1,a2,a3,a4,a5,a6,a7,a8] t x1 h0
 have h2:(((w.setCell ⟨g,0,none⟩ x0).setCell ⟨g,1,none⟩ x1).setCell ⟨g,2,none⟩ x2).heap[g]? = some (.cells #[x0,x1,x2,a3,a4,a5,a6,a7,a8] t (0,0)):=heap_setCell_same _ g 2 #[x0,x1,a2,a3,a4,a5,a6,a7,a8] t x2 h1
 have h3:((((w.setCell ⟨g,0,none⟩ x0).setCell ⟨g,1,none⟩ x1).setCell ⟨g,2,none⟩ x2).setCell ⟨g,3,none⟩ x3).heap[g]? = some (.cells #[x0,x1,x2,x3,a4,a5,a6,a7,a8] t (0,0)):=heap_setCell_same _ g 3 #[x0,x1,x2,a3,a4,a5,a6,a7,a8] t x3 h2
 have h4:(((((w.setCell ⟨g,0,none⟩ x0).setCell ⟨g,1,none⟩ x1).setCell ⟨g,2,none⟩ x2).setCell ⟨g,3,none⟩ x3).setCell ⟨g,4,none⟩ x4).heap[g]? = some (.cells #[x0,x1,x2,x3,x4,a5,a6,a7,a8] t (0,0)):=heap_setCell_same _ g 4 #[x0,x1,x2,x3,a4,a5,a6,a7,a8] t x4 h3
 have h5:((((((w.setCell ⟨g,0,none⟩ x0).setCell ⟨g,1,none⟩ x1).setCell ⟨g,2,none⟩ x2).setCell ⟨g,3,none⟩ x3).setCell ⟨g,4,none⟩ x4).setCell ⟨g,5,none⟩ x5).heap[g]? = some (.cells #[x0,x1,x2,x3,x4,x5,a6,a7,a8] t (0,0)):=heap_setCell_same _ g 5 #[x0,x1,x2,x3,x4,a5,a6,a7,a8] t x5 h4
 have h6:(((((((w.setCell ⟨g,0,none⟩ x0).setCell ⟨g,1,none⟩ x1).setCell ⟨g,2,none⟩ x2).setCell ⟨g,3,none⟩ x3).setCell ⟨g,4,none⟩ x4).setCell ⟨g,5,none⟩ x5).setCell ⟨g,6,none⟩ x6).heap[g]? = some (.cells #[x0,x1,x2,x3,x4,x5,x6,a7,a8] t (0,0)):=heap_setCell_same _ g 6 #[x0,x1,x2,x3,x4,x5,a6,a7,a8] t x6 h5
 have h7:((((((((w.setCell ⟨g,0,none⟩ x0).setCell ⟨g,1,none⟩ x1).setCell ⟨g,2,none⟩ x2).setCell ⟨g,3,none⟩ x3).setCell ⟨g,4,none⟩ x4).setCell ⟨g,5,none⟩ x5).setCell ⟨g,6,none⟩ x6).setCell ⟨g,7,none⟩ x7).heap[g]? = some (.cells #[x0,x1,x2,x3,x4,x5,x6,x7,a8] t (0,0)):=heap_setCell_same _ g 7 #[x0,x1,x2,x3,x4,x5,x6,a7,a8] t x7 h6
 exact heap_setCell_same _ g 8 #[x0,x1,x2,x3,x4,x5,x6,x7,a8] t x8 h7
structure F9 where
 f:Int
 t:Int
 d:Int
 k:Int
 a:Int
 y:Bool
 ph:Int
 pr:Int
 pa:Int
def f9L (x:F9):List Value:=[.int .i64 x.f,.int .i64 x.t,.int .i64 x.d,.int .i64 x.k,.int .i64 x.a,.bool x.y,.int .i64 x.ph,.int .i64 x.pr,.int .i64 x.pa]
def frCells (L:List F9):List Value:=L.flatMap f9L
theorem f9L_length (x:F9):(f9L x).length=9:=rfl
theorem frCells_append (L M:List F9):frCells (L ++ M)=frCells L ++ frCells M:=by simp [frCells,List.flatMap_append]
theorem frCells_cons (x:F9) (L:List F9):frCells (x :: L)=f9L x ++ frCells L:=rfl
theorem frCells_length:∀ L:List F9,(frCells L).length=L.length * 9
 | []=>rfl
 | x :: L=>by rw [frCells_cons,List.length_append,f9L_length,frCells_length L,List.length_cons]; omega
theorem frCells_get:∀ (L:List F9) (i j:Nat) (h:i<L.length),j<9→(frCells L)[i * 9+j]? = (f9L (L[i]'h))[j]?
 | [],i,_,h,_=>absurd h (Nat.not_lt_zero _)
 | x :: L,0,j,_,hj=>by
  rw [frCells_cons,Nat.zero_mul,Nat.zero_add,List.getElem?_append_left (by rw [f9L_length]; exact hj)]
  rfl
 | x :: L,i+1,j,h,hj=>by
  rw [frCells_cons,List.getElem?_append_right (by rw [f9L_length]; omega),f9L_length,show (i+1) * 9+j - 9=i * 9+j by omega]
  exact frCells_get L i j (by simpa using h) hj
theorem frCells_one (L:List F9):∀ u∈frCells L,u.oneCell'=true:=by
 intro u hu
 obtain ⟨s,-,hs⟩:=List.mem_flatMap.1 hu
 simp [f9L] at hs
 rcases hs with rfl|rfl|rfl|rfl|rfl|rfl|rfl|rfl|rfl <;> rfl
def FL (w:World) (ad:Option Addr) (L:List F9):Prop:=∀ i (h:i<L.length),∃ b off,ad=some ⟨b,off,none⟩∧∀ j,j<9→w.cell? ⟨b,off+i * 9+j,none⟩=(f9L (L[i]'h))[j]?
theorem FL.later {w w':World} {ad:Option Addr} {L:List F9} (h:FL w ad L) (hb:Below w.heap.size w w'):FL w' ad L:=fun i hi=>by
 obtain ⟨b,off,e,hc⟩:=h i hi
 refine ⟨b,off,e,fun j hj=>?_⟩
 have h2:=hc j hj
 have h3:(f9L (L[i]'hi))[j]? = some ((f9L (L[i]'hi))[j]'(by rw [f9L_length]; exact hj)):=List.getElem?_eq_getElem _
 rw [h3] at h2 ⊢
 exact cell_later hb h2
theorem FL.nil (w:World) (ad:Option Addr):FL w ad []:=fun _ h=>absurd h (Nat.not_lt_zero _)
theorem nineO {w:World} {b o:Nat} {x:F9} (h:∀ j,j<9→w.cell? ⟨b,o+j,none⟩=(f9L x)[j]?) :
  w.cell? ⟨b,o,none⟩=some (.int .i64 x.f)∧w.cell? ⟨b,o+1,none⟩=some (.int .i64 x.t)∧w.cell? ⟨b,o+2,none⟩=some (.int .i64 x.d)∧w.cell? ⟨b,o+3,none⟩=some (.int .i64 x.k)∧w.cell? ⟨b,o+4,none⟩=some (.int .i64 x.a)∧w.cell? ⟨b,o+5,none⟩=some (.bool x.y)∧w.cell? ⟨b,o+6,none⟩=some (.int .i64 x.ph)∧w.cell? ⟨b,o+7,none⟩=some (.int .i64 x.pr)∧w.cell? ⟨b,o+8,none⟩=some (.int .i64 x.pa) :=
 ⟨h 0 (by omega),h 1 (by omega),h 2 (by omega),h 3 (by omega),h 4 (by omega),h 5 (by omega),h 6 (by omega),h 7 (by omega),h 8 (by omega)⟩
def IsFr (w:World) (v:Value) (L:List F9):Prop:=∃ ad cap,v=.slice ad L.length cap∧FL w ad L
theorem IsFr.later {w w':World} {v:Value} {L:List F9} (h:IsFr w v L) (hb:Below w.heap.size w w'):IsFr w' v L:=by
 obtain ⟨ad,cap,e,hl⟩:=h
 exact ⟨ad,cap,e,hl.later hb⟩
theorem IsFr.zero (w:World):IsFr w (.slice none 0 0) []:=⟨none,0,rfl,FL.nil _ _⟩
theorem IsFr.owned {w:World} {base:Nat} {v:Value} {L:List F9} (h:w.ownsRow base 104 9 v L.length (frCells L)):IsFr w v L:=by
 have hc:=h
 rcases h.2 with ⟨rfl,h0⟩|⟨g,cap,cur,rfl,hb,hg,hle,hcap,hsz,htk⟩
 ·have e:L=[]:=List.length_eq_zero_iff.1 h0
  subst e
  exact IsFr.zero w
 ·refine ⟨_,cap,rfl,fun i hi=>⟨g,0,rfl,fun j hj=>?_⟩⟩
  have:=hc.cellAt (i * 9+j) (by omega)
  rw [Nat.zero_add,this,frCells_get L i j hi hj]
structure Kept (S:Nat→Prop) (w w':World):Prop where
 os:w'.os=w.os
 tape:w'.tape=w.tape
 output:w'.output=w.output
 size:w.heap.size≤w'.heap.size
 block:∀ k,k<w.heap.size→¬ S k→w'.heap[k]? = w.heap[k]?
theorem Kept.refl (S:Nat→Prop) (w:World):Kept S w w:=⟨rfl,rfl,rfl,Nat.le_refl _,fun _ _ _=>rfl⟩
theorem Kept.trans {S:Nat→Prop} {a b c:World} (h:Kept S a b) (k:Kept S b c):Kept S a c :=
 ⟨k.os.trans h.os,k.tape.trans h.tape,k.output.trans h.output,Nat.le_trans h.size k.size,fun i hi hs=>(k.block i (Nat.lt_of_lt_of_le hi h.size) hs).trans (h.block i hi hs)⟩
theorem Kept.drew {S:Nat→Prop} {a w:World} (h:Kept S a w):Kept S a w.drew:=⟨h.os,h.tape,h.output,h.size,h.block⟩
theorem Kept.setCell {S:Nat→Prop} {a w:World} (h:Kept S a w) {p:Addr} (hp:S p.block) (u:Value):Kept S a (w.setCell p u) :=
 h.trans ⟨rfl,rfl,rfl,by simp,fun k _ hk=>Below.heap_setCell w p u k (fun e=>hk (e ▸ hp))⟩
theorem Kept.below {S:Nat→Prop} {B:Nat} {w0 w w':World} (h:Kept S w w') (hB:B≤w.heap.size) (hS:∀ k,S k→B≤k) (hb:Below B w0 w):Below B w0 w' :=
 hb.trans ⟨h.os,h.tape,h.output,h.size,fun k hk=>h.block k (by omega) (fun hs=>by have:=hS k hs; omega)⟩
theorem Kept.of_below {S:Nat→Prop} {w w':World} (h:Below w.heap.size w w'):Kept S w w':=⟨h.os,h.tape,h.output,h.size,fun k hk _=>h.block k hk⟩
theorem row_lt {w:World} {b:Nat} {o:Obj} (h:w.heap[b]? = some o):b<w.heap.size:=(Array.getElem?_eq_some_iff.1 h).1
theorem Kept.row {S:Nat→Prop} {w w':World} {b:Nat} {o:Obj} (h:Kept S w w') (hb:w.heap[b]? = some o) (hs:¬ S b):w'.heap[b]? = some o:=(h.block b (row_lt hb) hs).trans hb
def In1 (r:Nat) (k:Nat):Prop:=k=r
theorem Kept.set1 {r:Nat} {a w:World} (h:Kept (In1 r) a w) (i:Nat) (v:Value):Kept (In1 r) a (w.setCell ⟨r,i,none⟩ v):=h.setCell (show In1 r r from rfl) v
theorem Kept.mono {S T:Nat→Prop} {a b:World} (h:Kept S a b) (hs:∀ k,S k→T k):Kept T a b:=⟨h.os,h.tape,h.output,h.size,fun k hk ht=>h.block k hk (fun g=>ht (hs k g))⟩
theorem kept_alloc (S:Nat→Prop) (w:World) (o:Obj):Kept S w (w.alloc o):=Kept.of_below ((Below.refl _ _).alloc (Nat.le_refl _) o)
end Go.Proofs.YtadhpkopkkjmfaaGreatDoor
namespace Go.Proofs.YtadhpkopkkjmfaaGreatDoor
structure S3 where
 p:Int
 r:Int
 a:Int
def hasP (p:Int) (L:List S3):Bool:=L.any fun s=>decide (s.p=p)
theorem hasP_iff (p:Int) (L:List S3):hasP p L=true ↔ ∃ s,s∈L∧s.p=p:=by simp [hasP]
def grS (p:Int) (x:Int×Bool) (s:S3):Int×Bool:=if s.p=p∧(x.2=false ∨ x.1<s.a) then (s.a,true) else x
def gr (p:Int) (L:List S3):Int×Bool:=L.foldl (grS p) (0,false)
theorem gr_snoc (p:Int) (L:List S3) (s:S3):gr p (L ++ [s])=grS p (gr p L) s:=by simp [gr,List.foldl_append]
def GrOf (p:Int) (L:List S3) (x:Int×Bool):Prop :=
 (x.2=true∧(∃ s,s∈L∧s.p=p∧s.a=x.1)∧∀ s,s∈L→s.p=p→s.a≤x.1) ∨ (x=(0,false)∧∀ s,s∈L→s.p≠p)
theorem grS_of {p:Int} {L:List S3} {x:Int×Bool} (s:S3) (h:GrOf p L x):GrOf p (L ++ [s]) (grS p x s):=by
 obtain ⟨m,is⟩:=x
 unfold grS
 rcases h with ⟨h1,⟨t,ht,hp,ha⟩,h3⟩|⟨h1,h2⟩
 ·simp only at h1 ha h3
  subst h1
  by_cases hc:s.p=p∧((true:Bool)=false ∨ m<s.a)
  ·rw [if_pos hc]
   refine .inl ⟨rfl,⟨s,by simp,hc.1,rfl⟩,fun u hu hup=>?_⟩
   rcases List.mem_append.1 hu with hu|hu
   ·have:=h3 u hu hup
    rcases hc.2 with h|h
    ·cases h
    ·show u.a≤s.a; omega
   ·obtain rfl:u=s:=by simpa using hu
    exact Int.le_refl _
  ·rw [if_neg hc]
   refine .inl ⟨rfl,⟨t,by simp [ht],hp,ha⟩,fun u hu hup=>?_⟩
   rcases List.mem_append.1 hu with hu|hu
   ·exact h3 u hu hup
   ·obtain rfl:u=s:=by simpa using hu
    have:¬ m<u.a:=fun h=>hc ⟨hup,.inr h⟩
    show u.a≤m; omega
 ·obtain ⟨rfl,rfl⟩:m=0∧is=false:=by simpa using h1
  by_cases hc:s.p=p
  ·rw [if_pos ⟨hc,.inl rfl⟩]
   refine .inl ⟨rfl,⟨s,by simp,hc,rfl⟩,fun u hu hup=>?_⟩
   rcases List.mem_append.1 hu with hu|hu
   ·exact absurd hup (h2 u hu)
   ·obtain rfl:u=s:=by simpa using hu
    exact Int.le_refl _
  ·rw [if_neg (fun h=>hc h.1)]
   refine .inr ⟨rfl,fun u hu=>?_⟩
   rcases List.mem_append.1 hu with hu|hu
   ·exact h2 u hu
   ·obtain rfl:u=s:=by simpa using hu
    exact hc
theorem snoc_rec {α:Type} {C:List α→Prop} (h0:C []) (h1:∀ l x,C l→C (l ++ [x])) (l:List α):C l:=by
 have:∀ n,∀ l:List α,l.length=n→C l:=by
  intro n
  induction n with
  | zero=>intro l hl; cases l with
   | nil=>exact h0
   | cons x r=>simp at hl
  | succ n ih =>
   intro l hl
   have hne:l≠[]:=by intro h; subst h; simp at hl
   have e:=List.dropLast_concat_getLast hne
   rw [← e]
   exact h1 _ _ (ih _ (by rw [List.length_dropLast]; omega))
 exact this _ l rfl
theorem gr_of (p:Int) (L:List S3):GrOf p L (gr p L):=by
 refine snoc_rec (C:=fun L=>GrOf p L (gr p L)) ?_ ?_ L
 ·exact .inr ⟨rfl,fun s hs=>by cases hs⟩
 ·intro l s ih
  rw [gr_snoc]
  exact grS_of s ih
theorem gr_has (p:Int) (L:List S3):(gr p L).2=hasP p L:=by
 rcases gr_of p L with ⟨h1,⟨t,ht,hp,-⟩,-⟩|⟨h1,h2⟩
 ·rw [h1]; exact ((hasP_iff p L).2 ⟨t,ht,hp⟩).symm
 ·rw [h1]
  refine (Bool.eq_false_iff.2 fun h=>?_).symm
  obtain ⟨s,hs,hp⟩:=(hasP_iff p L).1 h
  exact h2 s hs hp
def chooseL (L:List S3):Int×Bool :=
 if (gr 2 L).2=true then (2,true) else if (gr 3 L).2=true then (3,true)
 else if (gr 4 L).2=true∧((gr 5 L).2=false ∨ (gr 5 L).1≤(gr 4 L).1) then (4,false) else (5,false)
def beS (x:Bool×Int) (s:S3):Bool×Int:=if s.p=4 ∨ s.p=5 then (false,if x.1=true ∨ x.2<s.a then s.a else x.2) else x
def be (L:List S3):Bool×Int:=L.foldl beS (true,0)
theorem be_snoc (L:List S3) (s:S3):be (L ++ [s])=beS (be L) s:=by simp [be,List.foldl_append]
def BeOf (L:List S3) (x:Bool×Int):Prop :=
 (x.1=false∧(∃ s,s∈L∧(s.p=4 ∨ s.p=5)∧s.a=x.2)∧∀ s,s∈L→(s.p=4 ∨ s.p=5)→s.a≤x.2) ∨ (x=(true,0)∧∀ s,s∈L→¬ (s.p=4 ∨ s.p=5))
theorem beS_of {L:List S3} {x:Bool×Int} (s:S3) (h:BeOf L x):BeOf (L ++ [s]) (beS x s):=by
 obtain ⟨is,m⟩:=x
 unfold beS
 by_cases hc:s.p=4 ∨ s.p=5
 ·rw [if_pos hc]
  rcases h with ⟨h1,⟨t,ht,hp,ha⟩,h3⟩|⟨h1,h2⟩
  ·simp only at h1 ha h3
   subst h1
   by_cases hm:m<s.a
   ·rw [if_pos (.inr hm)]
    refine .inl ⟨rfl,⟨s,by simp,hc,rfl⟩,fun u hu hup=>?_⟩
    rcases List.mem_append.1 hu with hu|hu
    ·have:=h3 u hu hup
     show u.a≤s.a; omega
    ·obtain rfl:u=s:=by simpa using hu
     exact Int.le_refl _
   ·rw [if_neg (by simpa using hm)]
    refine .inl ⟨rfl,⟨t,by simp [ht],hp,ha⟩,fun u hu hup=>?_⟩
    rcases List.mem_append.1 hu with hu|hu
    ·exact h3 u hu hup
    ·obtain rfl:u=s:=by simpa using hu
     show u.a≤m; omega
  ·obtain ⟨rfl,rfl⟩:is=true∧m=0:=by simpa using h1
   rw [if_pos (.inl rfl)]
   refine .inl ⟨rfl,⟨s,by simp,hc,rfl⟩,fun u hu hup=>?_⟩
   rcases List.mem_append.1 hu with hu|hu
   ·exact absurd hup (h2 u hu)
   ·obtain rfl:u=s:=by simpa using hu
    exact Int.le_refl _
 ·rw [if_neg hc]
  rcases h with ⟨h1,⟨t,ht,hp,ha⟩,h3⟩|⟨h1,h2⟩
  ·refine .inl ⟨h1,⟨t,by simp [ht],hp,ha⟩,fun u hu hup=>?_⟩
   rcases List.mem_append.1 hu with hu|hu
   ·exact h3 u hu hup
   ·obtain rfl:u=s:=by simpa using hu
    exact absurd hup hc
  ·refine .inr ⟨h1,fun u hu=>?_⟩
   rcases List.mem_append.1 hu with hu|hu
   ·exact h2 u hu
   ·obtain rfl:u=s:=by simpa using hu
    exact hc
theorem be_of (L:List S3):BeOf L (be L):=by
 refine snoc_rec (C:=fun L=>BeOf L (be L)) ?_ ?_ L
 ·exact .inr ⟨rfl,fun s hs=>by cases hs⟩
 ·intro l s ih
  rw [be_snoc]
  exact beS_of s ih
def preL (b:Int) (L:List S3):Bool:=L.any fun s=>decide (s.p=4∧s.a=b)
theorem preL_iff (b:Int) (L:List S3):preL b L=true ↔ ∃ s,s∈L∧s.p=4∧s.a=b:=by simp [preL]
def refL (L:List S3):Int×Bool:=if hasP 2 L=true then (2,true) else if hasP 3 L=true then (3,true) else if preL (be L).2 L=true then (4,false) else (5,false)
theorem choose_ref (L:List S3):chooseL L=refL L:=by
 unfold chooseL refL
 rw [gr_has 2,gr_has 3]
 have key:((gr 4 L).2=true∧((gr 5 L).2=false ∨ (gr 5 L).1≤(gr 4 L).1)) ↔ preL (be L).2 L=true:=by
  rw [preL_iff]
  rcases gr_of 4 L with ⟨h1,⟨t,ht,tp,ta⟩,h3⟩|⟨h1,h2⟩
  ·rcases gr_of 5 L with ⟨g1,⟨u,hu,up,ua⟩,g3⟩|⟨g1,g2⟩
   ·rcases be_of L with ⟨-,⟨v,hv,vp,va⟩,b3⟩|⟨-,b2⟩
    ·constructor
     ·rintro ⟨-,h|h⟩
      ·rw [g1] at h; cases h
      ·refine ⟨t,ht,tp,?_⟩
       have e1:=b3 t ht (.inl tp)
       rcases vp with vp|vp
       ·have:=h3 v hv vp; omega
       ·have:=g3 v hv vp; omega
     ·rintro ⟨s,hs,sp,sa⟩
      refine ⟨h1,.inr ?_⟩
      have e1:=b3 u hu (.inr up)
      have e2:=h3 s hs sp
      omega
    ·exact absurd (.inl tp) (b2 t ht)
   ·rcases be_of L with ⟨-,⟨v,hv,vp,va⟩,b3⟩|⟨-,b2⟩
    ·refine ⟨fun _=>⟨v,hv,?_,va⟩,fun _=>⟨h1,.inl (by rw [g1])⟩⟩
     rcases vp with vp|vp
     ·exact vp
     ·exact absurd vp (g2 v hv)
    ·exact absurd (.inl tp) (b2 t ht)
  ·refine ⟨fun h=>?_,fun ⟨s,hs,sp,_⟩=>absurd sp (h2 s hs)⟩
   have:=h.1
   rw [h1] at this
   cases this
 by_cases k2:hasP 2 L=true
 ·rw [if_pos k2,if_pos k2]
 ·rw [if_neg k2,if_neg k2]
  by_cases k3:hasP 3 L=true
  ·rw [if_pos k3,if_pos k3]
  ·rw [if_neg k3,if_neg k3]
   by_cases k4:preL (be L).2 L=true
   ·rw [if_pos k4,if_pos (key.2 k4)]
   ·rw [if_neg k4,if_neg (fun h=>k4 (key.1 h))]
def afterI (a:Int):Int:=if a=4 then 2 else if a=5 then 3 else 0
theorem choose_ways (L:List S3):chooseL L=(2,true) ∨ chooseL L=(3,true) ∨ chooseL L=(4,false) ∨ chooseL L=(5,false):=by
 unfold chooseL
 repeat' split
 ·exact .inl rfl
 ·exact .inr (.inl rfl)
 ·exact .inr (.inr (.inl rfl))
 ·exact .inr (.inr (.inr rfl))
end Go.Proofs.YtadhpkopkkjmfaaGreatDoor
namespace Go.Proofs.YtadhpkopkkjmfaaGreatDoor
open Go.RowKit
def SL (w:World) (a:Option Addr) (L:List S3):Prop :=
 ∀ i (h:i<L.length),∃ b off,a=some ⟨b,off,none⟩∧w.cell? ⟨b,off+i * 3,none⟩=some (.int .i64 (L[i]'h).p)∧w.cell? ⟨b,off+i * 3+1,none⟩=some (.int .i64 (L[i]'h).r)∧w.cell? ⟨b,off+i * 3+2,none⟩=some (.int .i64 (L[i]'h).a)
theorem SL.later {w w':World} {a:Option Addr} {L:List S3} (h:SL w a L) (hb:Below w.heap.size w w'):SL w' a L:=fun i hi=>by
 obtain ⟨b,off,ha,h0,h1,h2⟩:=h i hi
 exact ⟨b,off,ha,cell_later hb h0,cell_later hb h1,cell_later hb h2⟩
theorem SL.nil (w:World) (a:Option Addr):SL w a []:=fun _ h=>absurd h (Nat.not_lt_zero _)
theorem take_snoc {α:Type} (L:List α) (k:Nat) (h:k<L.length):L.take (k+1)=L.take k ++ [L[k]]:=by
 rw [List.take_add_one,List.getElem?_eq_getElem h]; rfl
theorem gr_take (p:Int) (L:List S3) (k:Nat) (h:k<L.length):gr p (L.take (k+1))=grS p (gr p (L.take k)) L[k]:=by rw [take_snoc L k h,gr_snoc]
def ev (A:Nat→Addr):Nat→Value
 | 0=>.nilIface
 | c+1=>.iface 276 (.pointer (some (A c)))
theorem keptC {g:Nat} {w w':World} {a:Addr} {v:Value} (h:Kept (In1 g) w w') (hc:w.cell? a=some v) (hs:a.block≠g):w'.cell? a=some v:=by
 rw [World.cell?_of_block (h.block _ (cell_lt hc) (fun e=>hs e))]; exact hc
theorem keptF {g b:Nat} {w w':World} {i:Nat} {o:Obj} (h:Kept (In1 g) w w') (hr:w.heap[b]? = some o) (hs:b≠g):w'.frozen? ⟨b,i,none⟩=w.frozen? ⟨b,i,none⟩:=World.frozen?_of_block (h.block b (row_ltJ hr) (fun e=>hs e))
theorem st_eql (x0 x1 x2 y0 y1 y2:Int) (b:Bool) (h:decide (x0=y0∧x1=y1∧x2=y2)=b) (w:World) :
  (binOp .eql 43 (.agg #[.int .i64 x0,.int .i64 x1,.int .i64 x2]) (.agg #[.int .i64 y0,.int .i64 y1,.int .i64 y2])).run Tryz.prog w=.ok (.bool b) w:=by
 subst h
 by_cases h0:x0=y0 <;> by_cases h1:x1=y1 <;> by_cases h2:x2=y2
 all_goals
  simp only [h0,h1,h2,and_true,and_self,and_false,decide_true,decide_false]
  go_simp
theorem tafter_any (a:Int) (w:World):Calls Tryz.prog 173 #[.int .i64 a] w fun e w'=>e=.returned (.int .i64 (afterI a))∧w'=w:=by
 unfold afterI
 by_cases h4:a=4
 ·subst h4
  go_enter Tryz.func173,Tryz.ntmps173
  go_wp2
  go_ret
  exact ⟨rfl,rfl⟩
 ·rw [if_neg h4]
  by_cases h5:a=5
  ·subst h5
   go_enter Tryz.func173,Tryz.ntmps173
   go_wp2
   go_ret
   exact ⟨rfl,rfl⟩
  ·rw [if_neg h5]
   go_enter Tryz.func173,Tryz.ntmps173
   go_wp2
   go_ret
   exact ⟨rfl,rfl⟩
theorem greatest_any (pb:Nat) (a:Option Addr) (cap:Nat) (L:List S3) (ph:Int) (w:World) (hp:w.cell? ⟨pb,0,none⟩=some (.slice a L.length cap)) (hl:L.length≤200) (hL:SL w a L) :
  Calls Tryz.prog 190 #[.int .i64 ph,.pointer (some ⟨pb,0,none⟩)] w fun e w'=>e=.returned (.tuple #[.int .i64 (gr ph L).1,.bool (gr ph L).2])∧Below w.heap.size w w':=by
 have HX:=hid hL
 have HT:Hid (gr ph (L.take L.length)=gr ph L):=by unfold Hid; rw [List.take_length]
 clear hL
 go_enter Tryz.func190,Tryz.ntmps190
 go_wp2_with fail
 go_loopw [3,4,9] (fun m is i wr=>∃ k:Nat,k≤L.length∧m=.int .i64 (gr ph (L.take k)).1∧is=.bool (gr ph (L.take k)).2∧i=.int .i64 (k:Int)∧Below w.heap.size w wr) (fun _ _ i _=>L.length - (intOf i).toNat)
 case atStart=>exact ⟨0,Nat.zero_le _,rfl,rfl,rfl,Below.refl _ _⟩
 case round =>
  obtain ⟨k,hk,rfl,rfl,rfl,hb⟩:=hrel
  have HB:=hid hb
  by_cases hlt:k<L.length
  ·have HG:=hid (gr_take ph L k hlt)
   obtain ⟨b,o,rfl,y0,y1,y2⟩:=HX.out k hlt
   obtain ⟨⟨sp,sr,sa⟩,HS⟩:∃ s,Hid (L[k]'hlt=s):=⟨_,rfl⟩
   rw [HS.out] at y0 y1 y2 HG
   replace y0:=cell_later hb y0
   replace y1:=cell_later hb y1
   replace y2:=cell_later hb y2
   obtain ⟨⟨m,is⟩,HM⟩:∃ x,Hid (gr ph (L.take k)=x):=⟨_,rfl⟩
   rw [HM.out] at HG ⊢
   have HBn:∀ o,Hid (Below w.heap.size w (wr.alloc o)):=fun o=>hid (HB.out.alloc HB.out.size o)
   clear hb HS HM
   by_cases h1:sp=ph
   ·subst h1
    cases is with
    | false =>
     have G:Hid (gr sp (L.take (k+1))=(sa,true)):=by unfold Hid; rw [HG.out]; unfold grS; exact if_pos ⟨rfl,.inl rfl⟩
     clear HG
     go_wp2_with fail
     go_roundw
     case rel=>exact ⟨k+1,by omega,by rw [G.out],by rw [G.out],by go_num,(HBn _).out⟩
     case measure=>simp [intOf]; omega
    | true =>
     by_cases h2:m<sa
     ·have G:Hid (gr sp (L.take (k+1))=(sa,true)):=by unfold Hid; rw [HG.out]; unfold grS; exact if_pos ⟨rfl,.inr h2⟩
      clear HG
      go_wp2_with fail
      go_roundw
      case rel=>exact ⟨k+1,by omega,by rw [G.out],by rw [G.out],by go_num,(HBn _).out⟩
      case measure=>simp [intOf]; omega
     ·have G:Hid (gr sp (L.take (k+1))=(m,true)):=by
       unfold Hid; rw [HG.out]; unfold grS
       exact if_neg (fun h=>h.2.elim (fun h=>by cases h) h2)
      clear HG
      go_wp2_with fail
      go_roundw
      case rel=>exact ⟨k+1,by omega,by rw [G.out],by rw [G.out],by go_num,(HBn _).out⟩
      case measure=>simp [intOf]; omega
   ·have G:Hid (gr ph (L.take (k+1))=(m,is)):=by unfold Hid; rw [HG.out]; unfold grS; exact if_neg (fun h=>h1 h.1)
    clear HG
    go_wp2_with fail
    go_roundw
    case rel=>exact ⟨k+1,by omega,by rw [G.out],by rw [G.out],by go_num,(HBn _).out⟩
    case measure=>simp [intOf]; omega
  ·obtain rfl:k=L.length:=by omega
   rw [HT.out]
   go_wp2_with fail
   go_ret2
   exact ⟨rfl,HB.out⟩
structure E3 where
 s:Int
 d:Int
 p:Int
def e3L (x:E3):List Value:=[.int .i64 x.s,.int .i64 x.d,.int .i64 x.p]
def evCells (L:List E3):List Value:=L.flatMap e3L
def EL (w:World) (a:Option Addr) (L:List E3):Prop :=
 ∀ i (h:i<L.length),∃ b off,a=some ⟨b,off,none⟩∧w.cell? ⟨b,off+i * 3,none⟩=some (.int .i64 (L[i]'h).s)∧w.cell? ⟨b,off+i * 3+1,none⟩=some (.int .i64 (L[i]'h).d)∧w.cell? ⟨b,off+i * 3+2,none⟩=some (.int .i64 (L[i]'h).p)
theorem EL.later {w w':World} {a:Option Addr} {L:List E3} (h:EL w a L) (hb:Below w.heap.size w w'):EL w' a L:=fun i hi=>by
 obtain ⟨b,off,ha,h0,h1,h2⟩:=h i hi
 exact ⟨b,off,ha,cell_later hb h0,cell_later hb h1,cell_later hb h2⟩
theorem EL.nil (w:World) (a:Option Addr):EL w a []:=fun _ h=>absurd h (Nat.not_lt_zero _)
theorem evCells_get:∀ (L:List E3) (i j:Nat) (h:i<L.length),j<3→(evCells L)[i * 3+j]? = (e3L (L[i]'h))[j]?
 | [],i,_,h,_=>absurd h (Nat.not_lt_zero _)
 | x :: L,0,j,_,hj=>by
  show (e3L x ++ evCells L)[0 * 3+j]? = _
  rw [Nat.zero_mul,Nat.zero_add,List.getElem?_append_left (by show j<3; exact hj)]
  rfl
 | x :: L,i+1,j,h,hj=>by
  show (e3L x ++ evCells L)[(i+1) * 3+j]? = _
  rw [List.getElem?_append_right (by show 3≤(i+1) * 3+j; omega),show (i+1) * 3+j - (e3L x).length=i * 3+j by show (i+1) * 3+j - 3=i * 3+j; omega]
  exact evCells_get L i j (by simpa using h) hj
theorem own_el {w:World} {base:Nat} {t:TypeId} {v:Value} {L:List E3} (h:w.ownsRow base t 3 v L.length (evCells L)):∃ ad cap,v=.slice ad L.length cap∧L.length≤cap∧cap≤maxLen∧EL w ad L:=by
 have hc:=h
 rcases h.2 with ⟨rfl,h0⟩|⟨g,cap,cur,rfl,hb,hg,hle,hcap,hsz,htk⟩
 ·have e:L=[]:=List.length_eq_zero_iff.1 h0
  subst e
  exact ⟨none,0,rfl,Nat.le_refl _,Nat.zero_le _,EL.nil _ _⟩
 ·refine ⟨_,cap,rfl,hle,hcap,fun i hi=>⟨g,0,rfl,?_,?_,?_⟩⟩
  ·have:=hc.cellAt (i * 3+0) (by omega)
   rw [evCells_get L i 0 hi (by decide)] at this
   rw [Nat.zero_add]; exact this
  ·have:=hc.cellAt (i * 3+1) (by omega)
   rw [evCells_get L i 1 hi (by decide)] at this
   rw [Nat.zero_add]; exact this
  ·have:=hc.cellAt (i * 3+2) (by omega)
   rw [evCells_get L i 2 hi (by decide)] at this
   rw [Nat.zero_add]; exact this
end Go.Proofs.YtadhpkopkkjmfaaGreatDoor
