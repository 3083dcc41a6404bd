/-
  On the way to SActsProof: KA S3 S3S.
-/
import Derived.Test.YtkopfpaldmapdaaDoorBs6
import Derived.Test.YtkopfpaldmapdaaDoorBs10
import Derived.Laws.StructEq
set_option maxHeartbeats 8000000
set_option maxRecDepth 100000
namespace Go.Proofs.YtkopfpaldmapdaaDoor
open Go.RowKit
theorem between_is (n l m:Int) (b:Bool) (w:World) (h:decide (l≤n∧n≤m)=b) :
  Calls Tryd.prog 61 #[.int .i64 n,.int .i64 l,.int .i64 m] w fun e w'=>e=.returned (.bool b)∧w'=w:=by
 subst h
 by_cases h1:l≤n
 ·by_cases h2:n≤m
  ·rw [decide_eq_true ⟨h1,h2⟩]
   go_enter Tryd.func61,Tryd.ntmps61
   go_wp2
   go_ret
   exact ⟨rfl,rfl⟩
  ·rw [decide_eq_false (fun h=>h2 h.2)]
   go_enter Tryd.func61,Tryd.ntmps61
   go_wp2
   go_ret
   exact ⟨rfl,rfl⟩
 ·rw [decide_eq_false (fun h=>h1 h.1)]
  go_enter Tryd.func61,Tryd.ntmps61
  go_wp2
  go_ret
  exact ⟨rfl,rfl⟩
abbrev stOk (ph pr pa:Int):Prop:=(0≤ph∧ph≤5)∧(0≤pr∧pr≤1048576)∧(0≤pa∧pa≤1048576)
abbrev frOk (f t d k a ph pr pa:Int):Prop:=(0≤f∧f≤6)∧(0≤t∧t≤6)∧(0≤d∧d≤5)∧(1≤k∧k≤7)∧(0≤a∧a≤1048576)∧stOk ph pr pa
theorem dec_and3 (p q r:Prop) [Decidable p] [Decidable q] [Decidable r] (i:Decidable (p∧q∧r)):@decide _ i=(decide p && (decide q && decide r)):=by
 by_cases hp:p <;> by_cases hq:q <;> by_cases hr:r <;> simp [hp,hq,hr]
theorem ite_bool {p:Prop} [Decidable p] {b:Bool} (h:p ↔ b=true) (x y:Nat):(if p then x else y)=if b=true then x else y:=by
 by_cases hp:p
 ·rw [if_pos hp,if_pos (h.1 hp)]
 ·rw [if_neg hp,if_neg (fun g=>hp (h.2 g))]
theorem bools3 (a b c:Bool):a=false ∨ (a=true∧b=false) ∨ (a=true∧b=true∧c=false) ∨ (a=true∧b=true∧c=true):=by cases a <;> cases b <;> cases c <;> simp
theorem bools2 (a b:Bool):a=false ∨ (a=true∧b=false) ∨ (a=true∧b=true):=by cases a <;> cases b <;> simp
theorem wfits_is (ph pr pa:Int) (b:Bool) (w:World) (h:decide (stOk ph pr pa)=b) :
  Calls Tryd.prog 62 #[.agg #[.int .i64 ph,.int .i64 pr,.int .i64 pa]] w fun e w'=>e=.returned (.bool b)∧Below w.heap.size w w':=by
 have HB:Hid (Below w.heap.size w (w.alloc (.cells #[.int .i64 ph,.int .i64 pr,.int .i64 pa] 34))):=(Below.refl _ _).alloc (Nat.le_refl _) _
 obtain ⟨b1,H1⟩:∃ b:Bool,Hid (decide (0≤ph∧ph≤5)=b):=⟨_,hid (Eq.refl _)⟩
 obtain ⟨b2,H2⟩:∃ b:Bool,Hid (decide (0≤pr∧pr≤1048576)=b):=⟨_,hid (Eq.refl _)⟩
 obtain ⟨b3,H3⟩:∃ b:Bool,Hid (decide (0≤pa∧pa≤1048576)=b):=⟨_,hid (Eq.refl _)⟩
 have HH:Hid (b=(b1 && (b2 && b3))):=by
  unfold Hid
  rw [← h,← H1.out,← H2.out,← H3.out]
  exact dec_and3 _ _ _ _
 clear h
 rcases bools3 b1 b2 b3 with rfl|⟨rfl,rfl⟩|⟨rfl,rfl,rfl⟩|⟨rfl,rfl,rfl⟩
 all_goals
  go_enter Tryd.func62,Tryd.ntmps62
  go_wp2_with (go_at_call 61; first|(with_reducible refine (between_is ph 0 5 _ _ H1.out).mono ?_; rintro e wx ⟨rfl,hx⟩; subst wx)|(with_reducible refine (between_is pr 0 1048576 _ _ H2.out).mono ?_; rintro e wx ⟨rfl,hx⟩; subst wx)|(with_reducible refine (between_is pa 0 1048576 _ _ H3.out).mono ?_; rintro e wx ⟨rfl,hx⟩; subst wx))
  go_ret
  exact ⟨by rw [HH.out]; rfl,HB.out⟩
theorem wcheck_e (A:Nat→Addr) (f t d k a:Int) (y:Bool) (ph pr pa:Int) (c:Nat) (w:World) (hE:HeldE w A) (h:(if frOk f t d k a ph pr pa then 0 else 2)=c) :
  Calls Tryd.prog 42 #[frV f t d k a y ph pr pa] w fun e w'=>e=.returned (ev A c)∧Below w.heap.size w w':=by
 obtain ⟨W,HW⟩:∃ W,Hid (w.alloc (.cells #[.int .i64 f,.int .i64 t,.int .i64 d,.int .i64 k,.int .i64 a,.bool y,.int .i64 ph,.int .i64 pr,.int .i64 pa] 36)=W):=⟨_,rfl⟩
 have HB:Hid (Below w.heap.size w W):=by rw [← HW.out]; exact (Below.refl _ _).alloc (Nat.le_refl _) _
 have HR:Hid (W.heap[w.heap.size]? = some (.cells #[.int .i64 f,.int .i64 t,.int .i64 d,.int .i64 k,.int .i64 a,.bool y,.int .i64 ph,.int .i64 pr,.int .i64 pa] 36 (0,0))):=by rw [← HW.out]; exact heap_alloc_new w _
 have HG:Hid (∀ wx,Below W.heap.size W wx→wx.cell? ⟨0,0,none⟩=some (.iface 189 (.pointer (some (A 1))))∧Below w.heap.size w wx):=fun wx hx=>⟨(hE.later (HB.out.trans (hx.mono HB.out.size))).g1,HB.out.trans (hx.mono HB.out.size)⟩
 clear hE
 obtain ⟨b1,H1⟩:∃ b:Bool,Hid (decide (0≤f∧f≤6)=b):=⟨_,hid (Eq.refl _)⟩
 obtain ⟨b2,H2⟩:∃ b:Bool,Hid (decide (0≤t∧t≤6)=b):=⟨_,hid (Eq.refl _)⟩
 obtain ⟨b3,H3⟩:∃ b:Bool,Hid (decide (0≤d∧d≤5)=b):=⟨_,hid (Eq.refl _)⟩
 obtain ⟨b4,H4⟩:∃ b:Bool,Hid (decide (1≤k∧k≤7)=b):=⟨_,hid (Eq.refl _)⟩
 obtain ⟨b5,H5⟩:∃ b:Bool,Hid (decide (0≤a∧a≤1048576)=b):=⟨_,hid (Eq.refl _)⟩
 obtain ⟨b6,H6⟩:∃ b:Bool,Hid (decide (stOk ph pr pa)=b):=⟨_,hid (Eq.refl _)⟩
 have HC:Hid (c=if (b1 && (b2 && (b3 && (b4 && (b5 && b6)))))=true then 0 else 2):=by
  unfold Hid
  rw [← h]
  refine ite_bool ?_ 0 2
  rw [← H1.out,← H2.out,← H3.out,← H4.out,← H5.out,← H6.out]
  simp only [frOk,decide_eq_true_eq,Bool.and_eq_true]
 clear h
 have hW:=HW.out
 have c0:W.cell? ⟨w.heap.size,0,none⟩=some (.int .i64 f):=by rw [cell_of_row _ _ _ _ _ _ HR.out]; rfl
 have c1:W.cell? ⟨w.heap.size,1,none⟩=some (.int .i64 t):=by rw [cell_of_row _ _ _ _ _ _ HR.out]; rfl
 have c2:W.cell? ⟨w.heap.size,2,none⟩=some (.int .i64 d):=by rw [cell_of_row _ _ _ _ _ _ HR.out]; rfl
 have c3:W.cell? ⟨w.heap.size,3,none⟩=some (.int .i64 k):=by rw [cell_of_row _ _ _ _ _ _ HR.out]; rfl
 have c4:W.cell? ⟨w.heap.size,4,none⟩=some (.int .i64 a):=by rw [cell_of_row _ _ _ _ _ _ HR.out]; rfl
 have c6:W.cell? ⟨w.heap.size,6,none⟩=some (.int .i64 ph):=by rw [cell_of_row _ _ _ _ _ _ HR.out]; rfl
 have c7:W.cell? ⟨w.heap.size,7,none⟩=some (.int .i64 pr):=by rw [cell_of_row _ _ _ _ _ _ HR.out]; rfl
 have c8:W.cell? ⟨w.heap.size,8,none⟩=some (.int .i64 pa):=by rw [cell_of_row _ _ _ _ _ _ HR.out]; rfl
 obtain ⟨g1W,hbW⟩:=HG.out W (Below.refl _ _)
 have HBW0:=hid hbW
 clear hbW
 have HX:(b1 && (b2 && (b3 && (b4 && b5))))=true ∨ (b1 && (b2 && (b3 && (b4 && b5))))=false:=by cases (b1 && (b2 && (b3 && (b4 && b5)))) <;> simp
 rcases HX with HX|HX
 ·simp only [Bool.and_eq_true] at HX
  obtain ⟨rfl,rfl,rfl,rfl,rfl⟩:=HX
  cases b6
  all_goals
   go_enter Tryd.func42,Tryd.ntmps42
   go_wp2_with (first|(go_at_call 61; first|(with_reducible refine (between_is f 0 6 _ _ H1.out).mono ?_; rintro e wx ⟨rfl,hx⟩; subst wx)|(with_reducible refine (between_is t 0 6 _ _ H2.out).mono ?_; rintro e wx ⟨rfl,hx⟩; subst wx)|(with_reducible refine (between_is d 0 5 _ _ H3.out).mono ?_; rintro e wx ⟨rfl,hx⟩; subst wx)|(with_reducible refine (between_is k 1 7 _ _ H4.out).mono ?_; rintro e wx ⟨rfl,hx⟩; subst wx)|(with_reducible refine (between_is a 0 1048576 _ _ H5.out).mono ?_; rintro e wx ⟨rfl,hx⟩; subst wx))|(go_at_call 62; (with_reducible refine (wfits_is ph pr pa _ _ H6.out).mono ?_); rintro e wx ⟨rfl,hx⟩; obtain ⟨g1,hbw⟩:=HG.out wx hx; have HBW:=hid hbw; clear hx hbw))
   go_ret
   refine ⟨by rw [HC.out]; rfl,Hid.out (by assumption)⟩
 ·have HZ:Hid (c=2):=by unfold Hid; rw [HC.out]; revert HX; cases b1 <;> cases b2 <;> cases b3 <;> cases b4 <;> cases b5 <;> cases b6 <;> decide
  rcases bools2 b1 b2 with rfl|⟨rfl,rfl⟩|⟨rfl,rfl⟩
  all_goals rcases bools3 b3 b4 b5 with rfl|⟨rfl,rfl⟩|⟨rfl,rfl,rfl⟩|⟨rfl,rfl,rfl⟩
  all_goals try (exact absurd HX (by decide))
  all_goals clear HX
  all_goals
   go_enter Tryd.func42,Tryd.ntmps42
   go_wp2_with (first|(go_at_call 61; first|(with_reducible refine (between_is f 0 6 _ _ H1.out).mono ?_; rintro e wx ⟨rfl,hx⟩; subst wx)|(with_reducible refine (between_is t 0 6 _ _ H2.out).mono ?_; rintro e wx ⟨rfl,hx⟩; subst wx)|(with_reducible refine (between_is d 0 5 _ _ H3.out).mono ?_; rintro e wx ⟨rfl,hx⟩; subst wx)|(with_reducible refine (between_is k 1 7 _ _ H4.out).mono ?_; rintro e wx ⟨rfl,hx⟩; subst wx)|(with_reducible refine (between_is a 0 1048576 _ _ H5.out).mono ?_; rintro e wx ⟨rfl,hx⟩; subst wx))|(go_at_call 62; (with_reducible refine (wfits_is ph pr pa _ _ H6.out).mono ?_); rintro e wx ⟨rfl,hx⟩; obtain ⟨g1,hbw⟩:=HG.out wx hx; have HBW:=hid hbw; clear hx hbw))
   go_ret
   exact ⟨by rw [HZ.out]; rfl,HBW0.out⟩
def ansC (id f d a:Int) (h:HOut):Array Value:=#[.int .i64 id,.int .i64 f,.int .i64 d,.int .i64 (h.k:Int),.int .i64 a,.bool h.yes,.int .i64 (h.st.ph:Int),.int .i64 (h.st.pr:Int),.int .i64 (h.st.at_:Int)]
def AnsV (w:World) (v:Value) (c:Nat) (id f d a:Int) (h:HOut):Prop :=
 if c=0∧h.k≠0 then ∃ g cap,v=.slice (some ⟨g,0,none⟩) 1 cap∧w.heap[g]? = some (.cells (ansC id f d a h) 36 (0,0)) else v=.slice none 0 0
theorem AnsV.later {w w':World} {v:Value} {c:Nat} {id f d a:Int} {h:HOut} (x:AnsV w v c id f d a h) (hb:Below w.heap.size w w'):AnsV w' v c id f d a h:=by
 unfold AnsV at *
 split
 ·rename_i hc
  rw [if_pos hc] at x
  obtain ⟨g,cap,e,r⟩:=x
  exact ⟨g,cap,e,(hb.block g (row_ltJ r)).trans r⟩
 ·rename_i hc
  rw [if_neg hc] at x
  exact x
theorem fr_neq (f t d k a:Int) (y:Bool) (ph pr pa:Int) (w:World):(binOp .neq 36 (frV f t d k a y ph pr pa) (frV f t d k a y ph pr pa)).run Tryd.prog w=.ok (.bool false) w:=by
 go_simp
theorem same_none (w:World):Calls Tryd.prog 24 #[.slice none 0 0,.slice none 0 0] w fun e w'=>e=.returned (.bool true)∧Below w.heap.size w w':=by
 go_enter Tryd.func24,Tryd.ntmps24
 go_wp2_with fail
 go_loop [5] (fun i=>i=.int .i64 0) (fun _=>0)
 case atStart=>rfl
 case round =>
  subst hrel
  go_wp2_with fail
  go_ret
  exact ⟨rfl,Below.refl _ _⟩
theorem same_one (g1 g2 cap1 cap2:Nat) (f t d k a:Int) (y:Bool) (ph pr pa:Int) (w:World)
  (h1:w.heap[g1]? = some (.cells #[.int .i64 f,.int .i64 t,.int .i64 d,.int .i64 k,.int .i64 a,.bool y,.int .i64 ph,.int .i64 pr,.int .i64 pa] 36 (0,0)))
  (h2:w.heap[g2]? = some (.cells #[.int .i64 f,.int .i64 t,.int .i64 d,.int .i64 k,.int .i64 a,.bool y,.int .i64 ph,.int .i64 pr,.int .i64 pa] 36 (0,0))) :
  Calls Tryd.prog 24 #[.slice (some ⟨g1,0,none⟩) 1 cap1,.slice (some ⟨g2,0,none⟩) 1 cap2] w fun e w'=>e=.returned (.bool true)∧Below w.heap.size w w':=by
 have H1:=hid h1
 have H2:=hid h2
 clear h1 h2
 have hne:=fr_neq f t d k a y ph pr pa
 go_enter Tryd.func24,Tryd.ntmps24
 go_wp2_with fail
 go_loopw [5] (fun i wr=>∃ n:Nat,n≤1∧i=.int .i64 (n:Int)∧Below w.heap.size w wr) (fun i _=>1 - (intOf i).toNat)
 case atStart=>exact ⟨0,by omega,rfl,Below.refl _ _⟩
 case round =>
  obtain ⟨n,hn,rfl,hb⟩:=hrel
  have HB:=hid hb
  rcases (by omega:n=0 ∨ n=1) with rfl|rfl
  ·obtain ⟨a0,a1,a2,a3,a4,a5,a6,a7,a8⟩:=nine ((hb.block g1 (row_ltJ H1.out)).trans H1.out)
   obtain ⟨b0,b1,b2,b3,b4,b5,b6,b7,b8⟩:=nine ((hb.block g2 (row_ltJ H2.out)).trans H2.out)
   clear hb
   go_wp2_with fail
   go_region
   all_goals go_wp2_with fail
   all_goals go_roundw
   case rel=>exact ⟨1,by omega,by go_num,HB.out.drew⟩
   case measure=>simp [intOf]
  ·go_wp2_with fail
   go_ret
   exact ⟨rfl,HB.out⟩
end Go.Proofs.YtkopfpaldmapdaaDoor
