/-
  On the way to PRunsProof: L7 KA KS S3 S3S UC UD.
-/
import Derived.Test.YtjcflddbaeiajacGreatDoorBt12
import Derived.Test.YtjcflddbaeiajacGreatDoorBt3
import Derived.Test.YtjcflddbaeiajacGreatDoorBt9
import Derived.Test.YtjcflddbaeiajacGreatDoorBt11
import Derived.Lib.Overlaps
import Derived.Lib.AppendZerosOnto
set_option maxHeartbeats 8000000
set_option maxRecDepth 100000
namespace Go.Proofs.YtjcflddbaeiajacGreatDoor
open Go.RowKit
structure FIn (w W:World) (f t d k a:Int) (y:Bool) (p1 p2 p3:Int):Prop where
 row:W.heap[w.heap.size]? = some (.cells #[.int .i64 f,.int .i64 t,.int .i64 d,.int .i64 k,.int .i64 a,.bool y,.int .i64 p1,.int .i64 p2,.int .i64 p3] 144 (0,0))
theorem FIn.later {w W V:World} {f t d k a:Int} {y:Bool} {p1 p2 p3:Int} (h:FIn w W f t d k a y p1 p2 p3) (hb:Below W.heap.size W V):FIn w V f t d k a y p1 p2 p3:=⟨(hb.block _ (row_ltJ h.row)).trans h.row⟩
section
variable {w:World} {lb id n cap:Nat} {deal att:Int} {aw:Option Addr} {st:ByteArray} {wait:Int} {vh:Value} {hs:List F9} {ph seen:Int}
theorem rlhear_again (f:Nat) (k:Int) (y:Bool) (p1 p2 p3:Int) (x:F9) (h:RLd w lb id n cap deal att aw st k vh hs ph seen) (hl:hs.length≤1000) (hw:k≠0) (hf:f<n) (hx:fromL hs f=some x) :
  Calls Tryz.prog 122 #[.pointer (some ⟨lb,0,none⟩),frV f id deal k att y p1 p2 p3] w fun e w'=>e=.returned (.slice none 0 0)∧Below w.heap.size w w':=by
 obtain ⟨W,HW⟩:∃ W,Hid (w.alloc (.cells #[.int .i64 (f:Int),.int .i64 (id:Int),.int .i64 deal,.int .i64 k,.int .i64 att,.bool y,.int .i64 p1,.int .i64 p2,.int .i64 p3] 144)=W):=⟨_,rfl⟩
 have HB:Hid (Below w.heap.size w W):=by rw [← HW.out]; exact (Below.refl _ _).alloc (Nat.le_refl _) _
 have HR:Hid (FIn w W f id deal k att y p1 p2 p3):=by rw [← HW.out]; exact ⟨heap_alloc_new w _⟩
 obtain ⟨b0,b1,b2,b3,b4,b5,b6,b7,b8⟩:=nine HR.out.row
 have HI:=hid (h.later HB.out)
 obtain ⟨c0,c1,c2,c3,c4,c5,c6,c7,c8⟩:=HI.out.cells
 have hW:=HW.out
 have e0:(k == 0)=false:=beq_eq_false_iff_ne.2 hw
 have f7:¬ (n:Int)≤(f:Int):=by omega
 have HX:=hid hx
 obtain ⟨xf,xt,xd,xk,xa,xy,xph,xpr,xpa⟩:=x
 clear h hx
 go_enter Tryz.func122,Tryz.ntmps122
 go_wp2_with fail
 go_quiet (fail)
 have HB2:=hid (below_drewN (Below.refl W.heap.size W) nq)
 generalize W.drewN nq=V at HB2 ⊢
 have HI2:=hid (HI.out.later HB2.out)
 have HR2:=hid (HR.out.later HB2.out)
 have HB3:=hid (HB.out.trans (HB2.out.mono HB.out.size))
 clear b0 b1 b2 b3 b4 b5 b6 b7 b8 c0 c1 c2 c3 c4 c5 c6 c7 c8
 obtain ⟨b0,b1,b2,b3,b4,b5,b6,b7,b8⟩:=nine HR2.out.row
 go_wp2_with fail
 refine (rlfrom_any lb id n cap deal att aw st k vh hs ph seen f _ HI2.out hl).mono ?_
 rw [HX.out]
 unfold frO
 simp only [Option.isSome]
 rintro e w1 ⟨rfl,hb1⟩
 have HB4:=hid (HB3.out.trans (hb1.mono HB3.out.size))
 clear hb1
 go_wp2_with fail
 go_ret
 exact ⟨rfl,HB4.out.alloc HB4.out.size _⟩
end
theorem between_is (n l m:Int) (b:Bool) (w:World) (h:decide (l≤n∧n≤m)=b) :
  Calls Tryz.prog 256 #[.int .i64 n,.int .i64 l,.int .i64 m] w fun e w'=>e=.returned (.bool b)∧w'=w:=by
 subst h
 by_cases h1:l≤n
 ·by_cases h2:n≤m
  ·rw [decide_eq_true ⟨h1,h2⟩]
   go_enter Tryz.func256,Tryz.ntmps256
   go_wp2
   go_ret
   exact ⟨rfl,rfl⟩
  ·rw [decide_eq_false (fun h=>h2 h.2)]
   go_enter Tryz.func256,Tryz.ntmps256
   go_wp2
   go_ret
   exact ⟨rfl,rfl⟩
 ·rw [decide_eq_false (fun h=>h1 h.1)]
  go_enter Tryz.func256,Tryz.ntmps256
  go_wp2
  go_ret
  exact ⟨rfl,rfl⟩
abbrev stOk (ph pr pa:Int):Prop:=(0≤ph∧ph≤5)∧(0≤pr∧pr≤1048576)∧(0≤pa∧pa≤1048576)
abbrev frOk (f t d k a ph pr pa:Int):Prop:=(0≤f∧f≤6)∧(0≤t∧t≤6)∧(0≤d∧d≤5)∧(1≤k∧k≤7)∧(0≤a∧a≤1048576)∧stOk ph pr pa
theorem dec_and3 (p q r:Prop) [Decidable p] [Decidable q] [Decidable r] (i:Decidable (p∧q∧r)):@decide _ i=(decide p && (decide q && decide r)):=by
 by_cases hp:p <;> by_cases hq:q <;> by_cases hr:r <;> simp [hp,hq,hr]
theorem ite_bool {p:Prop} [Decidable p] {b:Bool} (h:p ↔ b=true) (x y:Nat):(if p then x else y)=if b=true then x else y:=by
 by_cases hp:p
 ·rw [if_pos hp,if_pos (h.1 hp)]
 ·rw [if_neg hp,if_neg (fun g=>hp (h.2 g))]
theorem bools3 (a b c:Bool):a=false ∨ (a=true∧b=false) ∨ (a=true∧b=true∧c=false) ∨ (a=true∧b=true∧c=true):=by cases a <;> cases b <;> cases c <;> simp
theorem bools2 (a b:Bool):a=false ∨ (a=true∧b=false) ∨ (a=true∧b=true):=by cases a <;> cases b <;> simp
theorem wfits_is (ph pr pa:Int) (b:Bool) (w:World) (h:decide (stOk ph pr pa)=b) :
  Calls Tryz.prog 258 #[.agg #[.int .i64 ph,.int .i64 pr,.int .i64 pa]] w fun e w'=>e=.returned (.bool b)∧Below w.heap.size w w':=by
 have HB:Hid (Below w.heap.size w (w.alloc (.cells #[.int .i64 ph,.int .i64 pr,.int .i64 pa] 127))):=(Below.refl _ _).alloc (Nat.le_refl _) _
 obtain ⟨b1,H1⟩:∃ b:Bool,Hid (decide (0≤ph∧ph≤5)=b):=⟨_,hid (Eq.refl _)⟩
 obtain ⟨b2,H2⟩:∃ b:Bool,Hid (decide (0≤pr∧pr≤1048576)=b):=⟨_,hid (Eq.refl _)⟩
 obtain ⟨b3,H3⟩:∃ b:Bool,Hid (decide (0≤pa∧pa≤1048576)=b):=⟨_,hid (Eq.refl _)⟩
 have HH:Hid (b=(b1 && (b2 && b3))):=by
  unfold Hid
  rw [← h,← H1.out,← H2.out,← H3.out]
  exact dec_and3 _ _ _ _
 clear h
 rcases bools3 b1 b2 b3 with rfl|⟨rfl,rfl⟩|⟨rfl,rfl,rfl⟩|⟨rfl,rfl,rfl⟩
 all_goals
  go_enter Tryz.func258,Tryz.ntmps258
  go_wp2_with (go_at_call 256; first|(with_reducible refine (between_is ph 0 5 _ _ H1.out).mono ?_; rintro e wx ⟨rfl,hx⟩; subst wx)|(with_reducible refine (between_is pr 0 1048576 _ _ H2.out).mono ?_; rintro e wx ⟨rfl,hx⟩; subst wx)|(with_reducible refine (between_is pa 0 1048576 _ _ H3.out).mono ?_; rintro e wx ⟨rfl,hx⟩; subst wx))
  go_ret
  exact ⟨by rw [HH.out]; rfl,HB.out⟩
theorem wcheck_e (A:Nat→Addr) (f t d k a:Int) (y:Bool) (ph pr pa:Int) (c:Nat) (w:World) (hE:HeldE w A) (h:(if frOk f t d k a ph pr pa then 0 else 2)=c) :
  Calls Tryz.prog 220 #[frV f t d k a y ph pr pa] w fun e w'=>e=.returned (ev A c)∧Below w.heap.size w w':=by
 obtain ⟨W,HW⟩:∃ W,Hid (w.alloc (.cells #[.int .i64 f,.int .i64 t,.int .i64 d,.int .i64 k,.int .i64 a,.bool y,.int .i64 ph,.int .i64 pr,.int .i64 pa] 144)=W):=⟨_,rfl⟩
 have HB:Hid (Below w.heap.size w W):=by rw [← HW.out]; exact (Below.refl _ _).alloc (Nat.le_refl _) _
 have HR:Hid (W.heap[w.heap.size]? = some (.cells #[.int .i64 f,.int .i64 t,.int .i64 d,.int .i64 k,.int .i64 a,.bool y,.int .i64 ph,.int .i64 pr,.int .i64 pa] 144 (0,0))):=by rw [← HW.out]; exact heap_alloc_new w _
 have HG:Hid (∀ wx,Below W.heap.size W wx→wx.cell? ⟨0,0,none⟩=some (.iface 407 (.pointer (some (A 1))))∧Below w.heap.size w wx):=fun wx hx=>⟨(hE.later (HB.out.trans (hx.mono HB.out.size))).g1,HB.out.trans (hx.mono HB.out.size)⟩
 clear hE
 obtain ⟨b1,H1⟩:∃ b:Bool,Hid (decide (0≤f∧f≤6)=b):=⟨_,hid (Eq.refl _)⟩
 obtain ⟨b2,H2⟩:∃ b:Bool,Hid (decide (0≤t∧t≤6)=b):=⟨_,hid (Eq.refl _)⟩
 obtain ⟨b3,H3⟩:∃ b:Bool,Hid (decide (0≤d∧d≤5)=b):=⟨_,hid (Eq.refl _)⟩
 obtain ⟨b4,H4⟩:∃ b:Bool,Hid (decide (1≤k∧k≤7)=b):=⟨_,hid (Eq.refl _)⟩
 obtain ⟨b5,H5⟩:∃ b:Bool,Hid (decide (0≤a∧a≤1048576)=b):=⟨_,hid (Eq.refl _)⟩
 obtain ⟨b6,H6⟩:∃ b:Bool,Hid (decide (stOk ph pr pa)=b):=⟨_,hid (Eq.refl _)⟩
 have HC:Hid (c=if (b1 && (b2 && (b3 && (b4 && (b5 && b6)))))=true then 0 else 2):=by
  unfold Hid
  rw [← h]
  refine ite_bool ?_ 0 2
  rw [← H1.out,← H2.out,← H3.out,← H4.out,← H5.out,← H6.out]
  simp only [frOk,decide_eq_true_eq,Bool.and_eq_true]
 clear h
 have hW:=HW.out
 have c0:W.cell? ⟨w.heap.size,0,none⟩=some (.int .i64 f):=by rw [cell_of_row _ _ _ _ _ _ HR.out]; rfl
 have c1:W.cell? ⟨w.heap.size,1,none⟩=some (.int .i64 t):=by rw [cell_of_row _ _ _ _ _ _ HR.out]; rfl
 have c2:W.cell? ⟨w.heap.size,2,none⟩=some (.int .i64 d):=by rw [cell_of_row _ _ _ _ _ _ HR.out]; rfl
 have c3:W.cell? ⟨w.heap.size,3,none⟩=some (.int .i64 k):=by rw [cell_of_row _ _ _ _ _ _ HR.out]; rfl
 have c4:W.cell? ⟨w.heap.size,4,none⟩=some (.int .i64 a):=by rw [cell_of_row _ _ _ _ _ _ HR.out]; rfl
 have c6:W.cell? ⟨w.heap.size,6,none⟩=some (.int .i64 ph):=by rw [cell_of_row _ _ _ _ _ _ HR.out]; rfl
 have c7:W.cell? ⟨w.heap.size,7,none⟩=some (.int .i64 pr):=by rw [cell_of_row _ _ _ _ _ _ HR.out]; rfl
 have c8:W.cell? ⟨w.heap.size,8,none⟩=some (.int .i64 pa):=by rw [cell_of_row _ _ _ _ _ _ HR.out]; rfl
 obtain ⟨g1W,hbW⟩:=HG.out W (Below.refl _ _)
 have HBW0:=hid hbW
 clear hbW
 have HX:(b1 && (b2 && (b3 && (b4 && b5))))=true ∨ (b1 && (b2 && (b3 && (b4 && b5))))=false:=by cases (b1 && (b2 && (b3 && (b4 && b5)))) <;> simp
 rcases HX with HX|HX
 ·simp only [Bool.and_eq_true] at HX
  obtain ⟨rfl,rfl,rfl,rfl,rfl⟩:=HX
  cases b6
  all_goals
   go_enter Tryz.func220,Tryz.ntmps220
   go_wp2_with (first|(go_at_call 256; first|(with_reducible refine (between_is f 0 6 _ _ H1.out).mono ?_; rintro e wx ⟨rfl,hx⟩; subst wx)|(with_reducible refine (between_is t 0 6 _ _ H2.out).mono ?_; rintro e wx ⟨rfl,hx⟩; subst wx)|(with_reducible refine (between_is d 0 5 _ _ H3.out).mono ?_; rintro e wx ⟨rfl,hx⟩; subst wx)|(with_reducible refine (between_is k 1 7 _ _ H4.out).mono ?_; rintro e wx ⟨rfl,hx⟩; subst wx)|(with_reducible refine (between_is a 0 1048576 _ _ H5.out).mono ?_; rintro e wx ⟨rfl,hx⟩; subst wx))|(go_at_call 258; (with_reducible refine (wfits_is ph pr pa _ _ H6.out).mono ?_); rintro e wx ⟨rfl,hx⟩; obtain ⟨g1,hbw⟩:=HG.out wx hx; have HBW:=hid hbw; clear hx hbw))
   go_ret
   refine ⟨by rw [HC.out]; rfl,Hid.out (by assumption)⟩
 ·have HZ:Hid (c=2):=by unfold Hid; rw [HC.out]; revert HX; cases b1 <;> cases b2 <;> cases b3 <;> cases b4 <;> cases b5 <;> cases b6 <;> decide
  rcases bools2 b1 b2 with rfl|⟨rfl,rfl⟩|⟨rfl,rfl⟩
  all_goals rcases bools3 b3 b4 b5 with rfl|⟨rfl,rfl⟩|⟨rfl,rfl,rfl⟩|⟨rfl,rfl,rfl⟩
  all_goals try (exact absurd HX (by decide))
  all_goals clear HX
  all_goals
   go_enter Tryz.func220,Tryz.ntmps220
   go_wp2_with (first|(go_at_call 256; first|(with_reducible refine (between_is f 0 6 _ _ H1.out).mono ?_; rintro e wx ⟨rfl,hx⟩; subst wx)|(with_reducible refine (between_is t 0 6 _ _ H2.out).mono ?_; rintro e wx ⟨rfl,hx⟩; subst wx)|(with_reducible refine (between_is d 0 5 _ _ H3.out).mono ?_; rintro e wx ⟨rfl,hx⟩; subst wx)|(with_reducible refine (between_is k 1 7 _ _ H4.out).mono ?_; rintro e wx ⟨rfl,hx⟩; subst wx)|(with_reducible refine (between_is a 0 1048576 _ _ H5.out).mono ?_; rintro e wx ⟨rfl,hx⟩; subst wx))|(go_at_call 258; (with_reducible refine (wfits_is ph pr pa _ _ H6.out).mono ?_); rintro e wx ⟨rfl,hx⟩; obtain ⟨g1,hbw⟩:=HG.out wx hx; have HBW:=hid hbw; clear hx hbw))
   go_ret
   exact ⟨by rw [HZ.out]; rfl,HBW0.out⟩
theorem kept9 (w:World) (g:Nat) (x0 x1 x2 x3 x4 x5 x6 x7 x8:Value) :
  Kept (In1 g) w (((((((((w.setCell ⟨g,0,none⟩ x0).setCell ⟨g,1,none⟩ x1).setCell ⟨g,2,none⟩ x2).setCell ⟨g,3,none⟩ x3).setCell ⟨g,4,none⟩ x4).setCell ⟨g,5,none⟩ x5).setCell ⟨g,6,none⟩ x6).setCell ⟨g,7,none⟩ x7).setCell ⟨g,8,none⟩ x8) :=
 (((((((((Kept.refl _ _).set1 0 _).set1 1 _).set1 2 _).set1 3 _).set1 4 _).set1 5 _).set1 6 _).set1 7 _).set1 8 _
theorem stored9 {X:World} {g:Nat} {a0 a1 a2 a3 a4 a5 a6 a7 a8:Value} (h:X.heap[g]? = some (.cells #[a0,a1,a2,a3,a4,a5,a6,a7,a8] 144 (0,0))) (f t d k a:Int) (y:Bool) (ph pr pa:Int) :
  ∃ Y,Hid ((((((((((X.setCell ⟨g,0,none⟩ (.int .i64 f)).setCell ⟨g,1,none⟩ (.int .i64 t)).setCell ⟨g,2,none⟩ (.int .i64 d)).setCell ⟨g,3,none⟩ (.int .i64 k)).setCell ⟨g,4,none⟩ (.int .i64 a)).setCell ⟨g,5,none⟩ (.bool y)).setCell ⟨g,6,none⟩ (.int .i64 ph)).setCell ⟨g,7,none⟩ (.int .i64 pr)).setCell ⟨g,8,none⟩ (.int .i64 pa))=Y) ∧
   Hid (Y.heap[g]? = some (.cells #[.int .i64 f,.int .i64 t,.int .i64 d,.int .i64 k,.int .i64 a,.bool y,.int .i64 ph,.int .i64 pr,.int .i64 pa] 144 (0,0)))∧Hid (Kept (In1 g) X Y) :=
 ⟨_,rfl,set9 h _ _ _ _ _ _ _ _ _,kept9 _ _ _ _ _ _ _ _ _ _ _⟩
theorem frozen9 {X:World} {g:Nat} {cs:Array Value} {t:TypeId} (h:X.heap[g]? = some (.cells cs t (0,0))):X.frozen? ⟨g,0,none⟩=false∧X.frozen? ⟨g,1,none⟩=false∧X.frozen? ⟨g,2,none⟩=false∧X.frozen? ⟨g,3,none⟩=false∧X.frozen? ⟨g,4,none⟩=false∧X.frozen? ⟨g,5,none⟩=false∧X.frozen? ⟨g,6,none⟩=false∧X.frozen? ⟨g,7,none⟩=false∧X.frozen? ⟨g,8,none⟩=false :=
 ⟨frozen_of_row X g 0 _ _ h,frozen_of_row X g 1 _ _ h,frozen_of_row X g 2 _ _ h,frozen_of_row X g 3 _ _ h,frozen_of_row X g 4 _ _ h,frozen_of_row X g 5 _ _ h,frozen_of_row X g 6 _ _ h,frozen_of_row X g 7 _ _ h,frozen_of_row X g 8 _ _ h⟩
def ansC (id f d a:Int) (h:HOut):Array Value:=#[.int .i64 id,.int .i64 f,.int .i64 d,.int .i64 (h.k:Int),.int .i64 a,.bool h.yes,.int .i64 (h.st.ph:Int),.int .i64 (h.st.pr:Int),.int .i64 (h.st.at_:Int)]
def AnsV (w:World) (v:Value) (c:Nat) (id f d a:Int) (h:HOut):Prop :=
 if c=0∧h.k≠0 then ∃ g cap,v=.slice (some ⟨g,0,none⟩) 1 cap∧w.heap[g]? = some (.cells (ansC id f d a h) 144 (0,0)) else v=.slice none 0 0
theorem fr_neq (f t d k a:Int) (y:Bool) (ph pr pa:Int) (w:World):(binOp .neq 144 (frV f t d k a y ph pr pa) (frV f t d k a y ph pr pa)).run Tryz.prog w=.ok (.bool false) w:=by
 go_simp
def insL (L:List F9) (i:Nat) (F:F9):List F9:=L.take i ++ F :: L.drop i
theorem insL_cells (L:List F9) (i:Nat) (F:F9):frCells (insL L i F)=(frCells L).take (i * 9) ++ f9L F ++ (frCells L).drop (i * 9):=by
 unfold insL
 rw [frCells_append,frCells_cons,frCells_take,frCells_drop,List.append_assoc]
theorem insL_length (L:List F9) (i:Nat) (F:F9) (h:i≤L.length):(insL L i F).length=L.length+1:=by unfold insL; rw [List.length_append,List.length_take,List.length_cons,List.length_drop]; omega
theorem insL_get (L:List F9) (i:Nat) (F:F9) (h:i≤L.length) (j:Nat):(frCells (insL L i F))[j]? = if j<i * 9 then (frCells L)[j]? else if j<i * 9+9 then (f9L F)[j - i * 9]? else (frCells L)[j - 9]?:=by
 have hl:((frCells L).take (i * 9)).length=i * 9:=by rw [List.length_take,frCells_length]; omega
 rw [insL_cells]
 by_cases h1:j<i * 9
 ·rw [if_pos h1,List.append_assoc,List.getElem?_append_left (by omega),List.getElem?_take_of_lt h1]
 ·rw [if_neg h1]
  by_cases h2:j<i * 9+9
  ·rw [if_pos h2,List.append_assoc,List.getElem?_append_right (by omega),hl,List.getElem?_append_left (by rw [f9L_length]; omega)]
  ·rw [if_neg h2,List.getElem?_append_right (by rw [List.length_append,hl,f9L_length]; omega),List.length_append,hl,f9L_length,List.getElem?_drop]
   congr 1
   omega
theorem ins_room (base b o n c i vb:Nat) (cur:Array Value) (L:List F9) (F:F9) (w:World) (hb:w.heap[b]? = some (.cells cur 144 (0,0))) (hbase:base≤b) (hL:L.length=n) (hnc:n+1≤c) (hcm:c≤maxLen) (hsz:o+c * 9≤cur.size) (htk:∀ j,j<n * 9→cur[o+j]? = (frCells L)[j]?) (hi:i<n) (hvb:w.heap[vb]? = some (.cells (f9L F).toArray 144 (0,0))) (hne:vb≠b) :
  Calls Tryz.prog 133 #[.slice (some ⟨b,o,none⟩) n c,.int .i64 (i:Int),.slice (some ⟨vb,0,none⟩) 1 1] w fun e w'=>e=.returned (.slice (some ⟨b,o,none⟩) (n+1) c)∧OwnF w' base (.slice (some ⟨b,o,none⟩) (n+1) c) (insL L i F)∧Kept (In1 b) w w':=by
 have h63:c≤9223372036854775807:=by unfold maxLen at hcm; omega
 have hmul:(n+1) * 9≤c * 9:=Nat.mul_le_mul_right 9 hnc
 have hcell:∀ x,x<n * 9→w.cell? ⟨b,o+x,none⟩=(frCells L)[x]?:=fun x hx=>by
  rw [cell_of_row _ _ _ _ _ _ hb,htk x hx]
 have hsome:∀ x,x<c * 9→(w.cell? ⟨b,o+x,none⟩).isSome=true:=fun x hx=>by
  rw [cell_of_row _ _ _ _ _ _ hb,Array.getElem?_eq_getElem (by omega)]; rfl
 have hfz:∀ x,w.frozen? ⟨b,x,none⟩=false:=fun x=>frozen_of_row _ _ _ _ _ hb
 have hLl:=frCells_length L
 have hdl:(frCells (L.drop i)).length=(n - i) * 9:=by rw [frCells_length,List.length_drop,hL]
 obtain ⟨W1,HW1⟩:∃ W1,Hid (w.drew.setCells b (o+(i+1) * 9) (frCells (L.drop i))=W1):=⟨_,rfl⟩
 have hfit:o+(i+1) * 9+(frCells (L.drop i)).length≤cur.size:=by rw [hdl]; omega
 obtain ⟨CR,hCR⟩:∃ CR,CR=(cur.toList.take (o+(i+1) * 9) ++ frCells (L.drop i) ++ cur.toList.drop (o+(i+1) * 9+(frCells (L.drop i)).length)):=⟨_,rfl⟩
 have HR1:Hid (W1.heap[b]? = some (.cells CR.toArray 144 (0,0))):=by
  rw [← HW1.out,hCR]; exact row_setCells _ _ w.drew cur hb hfit
 have hCg:∀ k,CR[k]? = if k<o+(i+1) * 9 then cur.toList[k]? else if k<o+(i+1) * 9+(frCells (L.drop i)).length then (frCells (L.drop i))[k - (o+(i+1) * 9)]? else cur.toList[k]?:=fun k=>by
  rw [hCR]; exact get_spliced _ _ _ _ (by rw [Array.length_toList (xs:=cur)]; exact hfit)
 have HK1:Hid (Kept (In1 b) w W1):=by rw [← HW1.out]; exact (Kept.refl _ w).drew.trans (kept_setCells b _ _ _)
 have hs1:CR.length=cur.size:=by
  rw [hCR,List.length_append,List.length_append,List.length_take,List.length_drop,hdl,Array.length_toList (xs:=cur)]; omega
 have hcp1:∀ ty dc sc,(Builtin.copy_ #[49,49] ty #[.slice (some ⟨b,o+(i+1) * 9,none⟩) (n - i) dc,.slice (some ⟨b,o+i * 9,none⟩) (n+1 - i) sc]).run Tryz.prog w.drew=.ok (goInt ((n - i:Nat):Int)) W1:=fun ty dc sc=>by
  rw [← HW1.out]
  exact run_copy_frs w.drew 49 ty b (o+(i+1) * 9) (n - i) dc ⟨b,o+i * 9,none⟩ (n+1 - i) sc (n - i) (frCells (L.drop i)) (by simp only [Nat.min_def]; split <;> omega) hdl
   (fun j v hj=>by
    have hjl:=(List.getElem?_eq_some_iff.1 hj).1
    rw [hdl] at hjl
    rw [addr_add]
    show w.cell? ⟨b,o+i * 9+j,none⟩=some v
    rw [Nat.add_assoc,hcell _ (by omega),← hj,frCells_drop,List.getElem?_drop])
   (fun j hj=>by rw [hdl] at hj; rw [Nat.add_assoc]; exact hsome _ (by omega)) (fun j _=>hfz _) (frCells_one _)
 have hcp2:∀ ty dc,(Builtin.copy_ #[49,49] ty #[.slice (some ⟨b,o+i * 9,none⟩) (n+1 - i) dc,.slice (some ⟨vb,0,none⟩) 1 1]).run Tryz.prog W1=.ok (goInt 1) (W1.setCells b (o+i * 9) (f9L F)):=fun ty dc =>
  run_copy_frs W1 49 ty b (o+i * 9) _ dc ⟨vb,0,none⟩ 1 1 1 (f9L F) (by simp only [Nat.min_def]; split <;> omega) rfl
   (fun j v hj=>by
    rw [addr_add,cell_of_row _ _ _ _ _ _ (HK1.out.row hvb hne),List.getElem?_toArray,Nat.zero_add]
    exact hj)
   (fun j hj=>by rw [cell_of_row _ _ _ _ _ _ HR1.out,List.getElem?_toArray,List.getElem?_eq_getElem (by rw [hs1]; rw [f9L_length] at hj; omega)]; rfl) (fun j _=>frozen_of_row _ _ _ _ _ HR1.out) (f9_oneQ F)
 have hov:∀ lb cb,(callFunc 210 #[.slice (some ⟨vb,0,none⟩) 1 1,.slice (some ⟨b,o+(i+1) * 9,none⟩) lb cb]).run Tryz.prog w=.ok (.value (.bool false)) w:=fun lb cb=>by
  rw [run_callFunc_extern Tryz.func210 (by kernel_rfl) (by kernel_rfl) (by kernel_rfl) (e:=Extern.SlicesOverlaps.overlaps #[49,49] #[4]) (by kernel_rfl),
   Lib.run_overlaps_apart w 49 4 144 Tryz.underlying49 9 sizeFr ⟨vb,0,none⟩ ⟨b,o+(i+1) * 9,none⟩ 1 1 lb cb hne 144 144 9 cur.size (by unfold World.shape?; rw [show w.heap[(⟨vb,0,none⟩:Addr).block]? = _ from hvb]; rfl) (by unfold World.shape?; rw [show w.heap[(⟨b,o+(i+1) * 9,none⟩:Addr).block]? = _ from hb]) (by omega) (frozen_of_row _ _ _ _ _ hvb) (frozen_of_row _ _ _ _ _ hvb)]
  rfl
 have HF:Hid (OwnF (W1.setCells b (o+i * 9) (f9L F)) base (.slice (some ⟨b,o,none⟩) (n+1) c) (insL L i F)):=by
  have hfit2:o+i * 9+(f9L F).length≤CR.length:=by rw [hs1,f9L_length]; omega
  have hr:=row_setCells (f9L F) (o+i * 9) W1 _ HR1.out (by rw [List.size_toArray]; exact hfit2)
  have hil:(insL L i F).length=n+1:=by rw [insL_length L i F (by omega),hL]
  refine .inr ⟨b,o,c,_,by rw [hil],hbase,hr,by rw [hil]; exact hnc,hcm,?_,fun j hj=>?_⟩
  ·rw [List.size_toArray,List.length_append,List.length_append,List.length_take,List.length_drop,List.toList_toArray,hs1,f9L_length]; omega
  ·rw [hil] at hj
   rw [List.getElem?_toArray,List.toList_toArray,get_spliced _ _ _ _ hfit2,insL_get L i F (by omega),f9L_length]
   by_cases h1:j<i * 9
   ·rw [if_pos (by omega),if_pos h1,hCg,if_pos (by omega),Array.getElem?_toList,htk j (by omega)]
   ·rw [if_neg (by omega),if_neg h1]
    by_cases h2:j<i * 9+9
    ·rw [if_pos (by omega),if_pos h2,show o+j - (o+i * 9)=j - i * 9 by omega]
    ·rw [if_neg (by omega),if_neg h2,hCg,if_neg (by omega),if_pos (by omega),frCells_drop,List.getElem?_drop,show i * 9+(o+j - (o+(i+1) * 9))=j - 9 by omega]
 have hq1:¬ (c=i+1):=by omega
 have hq2:¬ (c=i):=by omega
 have hq3:i≤n+1:=by omega
 have hq4:i+1≤n+1:=by omega
 have hw1:IntKind.i64.wrap ((i:Int)+1)=(i:Int)+1:=by rw [IntKind.wrap_i64]; omega
 have hb1:(0:Int)≤(i:Int)+1:=by omega
 have htn:((i:Int)+1).toNat=i+1:=by omega
 have hb5:(i:Int)≤(n:Int):=by omega
 have hb6:(i:Int)≤(n:Int)+1:=by omega
 have HK2:Hid (Kept (In1 b) w (W1.setCells b (o+i * 9) (f9L F))):=HK1.out.trans (kept_setCells b _ _ _)
 clear hcell hsome hfz hb hvb htk hsz hLl hdl hs1 hmul hCR hCg hfit
 go_enter Tryz.func133,Tryz.ntmps133
 go_wp2_with (simp only [hov])
 go_region_law (refine step_copy_runF rfl _ _ 49 49 rfl _ _ (by simp [Act.eval,Act.put]) (by simp [Act.eval,Act.put]) (hcp1 _ _ _) ?_)
 go_wp2_with (at_builtin; refine wpList_copy_runF _ rfl _ _ 49 49 rfl _ _ rfl rfl (hcp2 _ _) ?_)
 go_ret
 exact ⟨rfl,HF.out,HK2.out⟩
theorem zeroC_size (k:Nat):(Builtin.zeroCells (frV 0 0 0 0 0 false 0 0 0).cells k).size=k * 9:=by rw [size_zeroCells]; rfl
theorem ins_grow (base b o n c i vb:Nat) (cur:Array Value) (L:List F9) (F:F9) (w:World) (hb:w.heap[b]? = some (.cells cur 144 (0,0))) (hbase:base≤w.heap.size) (hL:L.length=n) (hnc:n≤c) (hroom:c<n+1) (hbig:n≤1000000000000) (htk:∀ j,j<n * 9→cur[o+j]? = (frCells L)[j]?) (hi:i<n) (hvb:w.heap[vb]? = some (.cells (f9L F).toArray 144 (0,0))) :
  Calls Tryz.prog 133 #[.slice (some ⟨b,o,none⟩) n c,.int .i64 (i:Int),.slice (some ⟨vb,0,none⟩) 1 1] w fun e w'=>∃ G,e=.returned (.slice (some ⟨w.heap.size,0,none⟩) (n+1) G)∧w'.ownsRow base 144 9 (.slice (some ⟨w.heap.size,0,none⟩) (n+1) G) (n+1) (frCells (insL L i F))∧Below w.heap.size w w':=by
 obtain ⟨i0,hi0,hz0,hz1,hz2⟩:=info_parts Tryz.infoFq
 have hbw:=row_ltJ hb
 have hvw:=row_ltJ hvb
 have hcell:∀ x,x<n * 9→w.cell? ⟨b,o+x,none⟩=(frCells L)[x]?:=fun x hx=>by
  rw [cell_of_row _ _ _ _ _ _ hb,htk x hx]
 have hLl:=frCells_length L
 have hdl:(frCells (L.drop i)).length=(n - i) * 9:=by rw [frCells_length,List.length_drop,hL]
 have htl:(frCells (L.take i)).length=i * 9:=by rw [frCells_length,List.length_take,hL,Nat.min_eq_left (by omega)]
 have hkk:(n:Int)+1 - (i:Int)=((n+1 - i:Nat):Int):=by omega
 have hik:i+(n+1 - i)=n+1:=by omega
 have hold:(Builtin.firstCells i0.size i (.slice (some ⟨b,o,none⟩) i c)).run Tryz.prog w.drew=.ok (frCells (L.take i)).toArray w.drew:=by
  rw [hz1]
  exact run_firstCells_some w.drew 9 i ⟨b,o,none⟩ i c (frCells (L.take i)) htl (fun j v hj=>by
   have hjl:=(List.getElem?_eq_some_iff.1 hj).1
   rw [htl] at hjl
   rw [addr_add]
   show w.cell? ⟨b,o+j,none⟩=some v
   rw [hcell _ (by omega),← hj,frCells_take,List.getElem?_take_of_lt hjl])
 have hrz:∀ ty,(Builtin.append_ #[49,3] ty #[.slice (some ⟨b,o,none⟩) i c,.int .i64 ((n:Int)+1 - (i:Int))]).run Tryz.prog w =
   .ok (.slice (some ⟨w.heap.size,0,none⟩) (n+1) (grownCap w (n+1) c 144)) (w.drew.alloc (.cells ((frCells (L.take i)).toArray ++ Builtin.zeroCells (frV 0 0 0 0 0 false 0 0 0).cells (n+1 - i) ++ Builtin.zeroCells (frV 0 0 0 0 0 false 0 0 0).cells (grownCap w (n+1) c 144 - (n+1))) 144)):=fun ty=>by
  have h:=Lib.run_append_grow_zeros w 49 3 ty 144 i0 _ .i64 .i64 Tryz.underlying49 Tryz.underlying3 hi0 hz0 (some ⟨b,o,none⟩) i c (frCells (L.take i)) hold (n+1 - i) (by omega) (by rw [hz1]; omega) (by omega) (by omega) (by rw [hz2]; omega) (by rw [hz2,hik]; exact growslice_fits hroom (by omega))
  rw [hik] at h
  rw [hkk]
  exact h
 obtain ⟨G,hG⟩:∃ G,G=grownCap w (n+1) c 144:=⟨_,rfl⟩
 obtain ⟨ROW,hROW⟩:∃ ROW:Array Value,ROW=(frCells (L.take i)).toArray ++ Builtin.zeroCells (frV 0 0 0 0 0 false 0 0 0).cells (n+1 - i) ++ Builtin.zeroCells (frV 0 0 0 0 0 false 0 0 0).cells (G - (n+1)):=⟨_,rfl⟩
 rw [← hG] at hrz
 rw [← hROW] at hrz
 have hGn:n+1≤G:=by rw [hG]; exact grownCap_ge w _ _ _
 have hGm:G≤maxLen:=by rw [hG]; exact grownCap_le_maxLen w (n+1) c 144 (by unfold maxLen; omega)
 have hRl:ROW.size=G * 9:=by
  rw [hROW,Array.size_append,Array.size_append,zeroC_size,zeroC_size,List.size_toArray,htl]; omega
 have hRt:ROW.toList.take (i * 9)=frCells (L.take i):=by
  rw [hROW,Array.toList_append,Array.toList_append,List.append_assoc,List.toList_toArray,← htl]
  exact List.take_left
 obtain ⟨W1,hW1⟩:∃ W1,W1=w.drew.alloc (.cells ROW 144):=⟨_,rfl⟩
 rw [← hW1] at hrz
 have hr1:W1.heap[w.heap.size]? = some (.cells ROW 144 (0,0)):=by rw [hW1]; exact heap_alloc_new w.drew _
 have hv1:W1.heap[vb]? = some (.cells (f9L F).toArray 144 (0,0)):=by rw [hW1]; exact (Below.heap_alloc w.drew _ _ hvw).trans hvb
 have hb1':W1.heap[b]? = some (.cells cur 144 (0,0)):=by rw [hW1]; exact (Below.heap_alloc w.drew _ _ hbw).trans hb
 have hB1:Below w.heap.size w W1:=by rw [hW1]; exact (Below.refl _ _).drew.alloc (Nat.le_refl _) _
 have hr2:=row_setCells (f9L F) (i * 9) W1 ROW hr1 (by rw [hRl,f9L_length]; omega)
 have hk2:=kept_setCells w.heap.size (f9L F) (i * 9) W1
 obtain ⟨W2,hW2⟩:∃ W2,W2=W1.setCells w.heap.size (i * 9) (f9L F):=⟨_,rfl⟩
 rw [← hW2] at hr2 hk2
 have hs2:(ROW.toList.take (i * 9) ++ f9L F ++ ROW.toList.drop (i * 9+(f9L F).length)).length=G * 9:=by
  rw [List.length_append,List.length_append,List.length_take,List.length_drop,f9L_length,Array.length_toList,hRl]; omega
 have hb2':W2.heap[b]? = some (.cells cur 144 (0,0)):=hk2.row hb1' (fun e=>by have:b=w.heap.size:=e; omega)
 have hcpA:∀ ty dc,(Builtin.copy_ #[49,49] ty #[.slice (some ⟨w.heap.size,i * 9,none⟩) (n+1 - i) dc,.slice (some ⟨vb,0,none⟩) 1 1]).run Tryz.prog W1=.ok (goInt 1) W2:=fun ty dc=>by
  rw [hW2]
  exact run_copy_frs W1 49 ty w.heap.size (i * 9) (n+1 - i) dc ⟨vb,0,none⟩ 1 1 1 (f9L F) (by simp only [Nat.min_def]; split <;> omega) rfl
   (fun j v hj=>by rw [addr_add,cell_of_row _ _ _ _ _ _ hv1,List.getElem?_toArray,Nat.zero_add]; exact hj)
   (fun j hj=>by rw [f9L_length] at hj; rw [cell_of_row _ _ _ _ _ _ hr1,Array.getElem?_eq_getElem (by rw [hRl]; omega)]; rfl) (fun j _=>frozen_of_row _ _ _ _ _ hr1) (f9_oneQ F)
 have hcpB:∀ ty dc sc,(Builtin.copy_ #[49,49] ty #[.slice (some ⟨w.heap.size,(i+1) * 9,none⟩) (n - i) dc,.slice (some ⟨b,o+i * 9,none⟩) (n - i) sc]).run Tryz.prog W2.drew=.ok (goInt ((n - i:Nat):Int)) (W2.drew.setCells w.heap.size ((i+1) * 9) (frCells (L.drop i))):=fun ty dc sc =>
  run_copy_frs W2.drew 49 ty w.heap.size ((i+1) * 9) (n - i) dc ⟨b,o+i * 9,none⟩ (n - i) sc (n - i) (frCells (L.drop i)) (by simp only [Nat.min_def]; split <;> omega) hdl
   (fun j v hj=>by
    have hjl:=(List.getElem?_eq_some_iff.1 hj).1
    rw [hdl] at hjl
    rw [addr_add]
    show W2.cell? ⟨b,o+i * 9+j,none⟩=some v
    rw [cell_of_row _ _ _ _ _ _ hb2',← hj,frCells_drop,List.getElem?_drop,← htk _ (by omega),Nat.add_assoc])
   (fun j hj=>by
    rw [hdl] at hj
    show (W2.cell? _).isSome=true
    rw [cell_of_row _ _ _ _ _ _ hr2,List.getElem?_toArray,List.getElem?_eq_getElem (by rw [hs2]; omega)]; rfl) (fun j _=>frozen_of_row W2 _ _ _ _ hr2) (frCells_one _)
 have hr3:=row_setCells (frCells (L.drop i)) ((i+1) * 9) W2.drew _ (show W2.drew.heap[w.heap.size]? = _ from hr2) (by rw [List.size_toArray,hs2,hdl]; omega)
 have HK3:Hid (Below w.heap.size w (W2.drew.setCells w.heap.size ((i+1) * 9) (frCells (L.drop i)))):=by
  have h1:Kept (In1 w.heap.size) W1 (W2.drew.setCells w.heap.size ((i+1) * 9) (frCells (L.drop i))):=(hk2.trans (Kept.refl _ W2).drew).trans (kept_setCells w.heap.size _ _ _)
  exact h1.below hB1.size (fun x hx=>by rw [show x=w.heap.size from hx]; exact Nat.le_refl _) hB1
 have HF:Hid ((W2.drew.setCells w.heap.size ((i+1) * 9) (frCells (L.drop i))).ownsRow base 144 9 (.slice (some ⟨w.heap.size,0,none⟩) (n+1) G) (n+1) (frCells (insL L i F))):=by
  have hil:(insL L i F).length=n+1:=by unfold insL; rw [List.length_append,List.length_take,List.length_cons,List.length_drop,hL]; omega
  refine ⟨by rw [frCells_length,hil],.inr ⟨w.heap.size,G,_,rfl,hbase,hr3,hGn,hGm,?_,?_⟩⟩
  ·rw [List.size_toArray,List.length_append,List.length_append,List.length_take,List.length_drop,List.toList_toArray,hs2,hdl]; omega
  ·rw [List.toList_toArray,List.toList_toArray,insL_cells,hRt,← frCells_take,← frCells_drop]
   have hA:(frCells (L.take i) ++ f9L F ++ ROW.toList.drop (i * 9+(f9L F).length)).take ((i+1) * 9)=frCells (L.take i) ++ f9L F:=by
    rw [show (i+1) * 9=(frCells (L.take i) ++ f9L F).length by rw [List.length_append,htl,f9L_length]; omega]
    exact List.take_left
   rw [hA]
   have hlen:(frCells (L.take i) ++ f9L F ++ frCells (L.drop i)).length=(n+1) * 9:=by
    rw [List.length_append,List.length_append,htl,f9L_length,hdl]; omega
   rw [← hlen]
   exact List.take_left
 have hz3:(c:Int)<(n:Int)+1:=by omega
 have hGi:¬ (G=i):=by omega
 have hGim:¬ (G=i+1):=by omega
 have hci:¬ (c=i):=by omega
 have hw1:IntKind.i64.wrap ((i:Int)+1)=(i:Int)+1:=by rw [IntKind.wrap_i64]; omega
 have hb1:(0:Int)≤(i:Int)+1:=by omega
 have htn:((i:Int)+1).toNat=i+1:=by omega
 have hb5:(i:Int)≤(n:Int):=by omega
 have hb6:(i:Int)≤(n:Int)+1:=by omega
 have hG63:G≤9223372036854775807:=by unfold maxLen at hGm; omega
 have HW1:=hid hW1
 have hW2':=hW2.symm
 clear hcell hold hkk hik hROW hG hRl hRt hr1 hv1 hb1' hr2 hk2 hs2 hb2' hr3 hb hvb htk hLl hdl htl hB1 hW1 hW2 hGm
 go_enter Tryz.func133,Tryz.ntmps133
 go_wp2_with (first
  | (at_builtin; refine Lib.wpList_append_run _ rfl _ _ _ _ rfl _ _ rfl rfl _ _ (hrz _) ?_)
  | (at_builtin; refine wpList_copy_runF _ rfl _ _ 49 49 rfl _ _ rfl rfl (hcpA _ _) ?_))
 go_region_law (refine step_copy_runF rfl _ _ 49 49 rfl _ _ (by simp [Act.eval,Act.put]) (by simp [Act.eval,Act.put]) (hcpB _ _ _) ?_)
 go_wp2
 go_ret
 exact ⟨G,rfl,HF.out,HK3.out⟩
end Go.Proofs.YtjcflddbaeiajacGreatDoor
