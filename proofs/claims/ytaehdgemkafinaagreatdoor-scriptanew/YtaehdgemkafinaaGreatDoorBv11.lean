/-
  On the way to SAnewProof: KA KS S3 RA.
-/
import Derived.Test.YtaehdgemkafinaaGreatDoorBv4
import Derived.Test.YtaehdgemkafinaaGreatDoorBv5
set_option maxHeartbeats 8000000
set_option maxRecDepth 100000
namespace Go.Proofs.YtaehdgemkafinaaGreatDoor
open Go.RowKit
theorem between_is (n l m:Int) (b:Bool) (w:World) (h:decide (l≤n∧n≤m)=b) :
  Calls Tryz.prog 237 #[.int .i64 n,.int .i64 l,.int .i64 m] w fun e w'=>e=.returned (.bool b)∧w'=w:=by
 subst h
 by_cases h1:l≤n
 ·by_cases h2:n≤m
  ·rw [decide_eq_true ⟨h1,h2⟩]
   go_enter Tryz.func237,Tryz.ntmps237
   go_wp2
   go_ret
   exact ⟨rfl,rfl⟩
  ·rw [decide_eq_false (fun h=>h2 h.2)]
   go_enter Tryz.func237,Tryz.ntmps237
   go_wp2
   go_ret
   exact ⟨rfl,rfl⟩
 ·rw [decide_eq_false (fun h=>h1 h.1)]
  go_enter Tryz.func237,Tryz.ntmps237
  go_wp2
  go_ret
  exact ⟨rfl,rfl⟩
abbrev stOk (ph pr pa:Int):Prop:=(0≤ph∧ph≤5)∧(0≤pr∧pr≤1048576)∧(0≤pa∧pa≤1048576)
abbrev frOk (f t d k a ph pr pa:Int):Prop:=(0≤f∧f≤6)∧(0≤t∧t≤6)∧(0≤d∧d≤5)∧(1≤k∧k≤7)∧(0≤a∧a≤1048576)∧stOk ph pr pa
theorem dec_and3 (p q r:Prop) [Decidable p] [Decidable q] [Decidable r] (i:Decidable (p∧q∧r)):@decide _ i=(decide p && (decide q && decide r)):=by
 by_cases hp:p <;> by_cases hq:q <;> by_cases hr:r <;> simp [hp,hq,hr]
theorem ite_bool {p:Prop} [Decidable p] {b:Bool} (h:p ↔ b=true) (x y:Nat):(if p then x else y)=if b=true then x else y:=by
 by_cases hp:p
 ·rw [if_pos hp,if_pos (h.1 hp)]
 ·rw [if_neg hp,if_neg (fun g=>hp (h.2 g))]
theorem bools3 (a b c:Bool):a=false ∨ (a=true∧b=false) ∨ (a=true∧b=true∧c=false) ∨ (a=true∧b=true∧c=true):=by cases a <;> cases b <;> cases c <;> simp
theorem bools2 (a b:Bool):a=false ∨ (a=true∧b=false) ∨ (a=true∧b=true):=by cases a <;> cases b <;> simp
theorem wfits_is (ph pr pa:Int) (b:Bool) (w:World) (h:decide (stOk ph pr pa)=b) :
  Calls Tryz.prog 238 #[.agg #[.int .i64 ph,.int .i64 pr,.int .i64 pa]] w fun e w'=>e=.returned (.bool b)∧Below w.heap.size w w':=by
 have HB:Hid (Below w.heap.size w (w.alloc (.cells #[.int .i64 ph,.int .i64 pr,.int .i64 pa] 80))):=(Below.refl _ _).alloc (Nat.le_refl _) _
 obtain ⟨b1,H1⟩:∃ b:Bool,Hid (decide (0≤ph∧ph≤5)=b):=⟨_,hid (Eq.refl _)⟩
 obtain ⟨b2,H2⟩:∃ b:Bool,Hid (decide (0≤pr∧pr≤1048576)=b):=⟨_,hid (Eq.refl _)⟩
 obtain ⟨b3,H3⟩:∃ b:Bool,Hid (decide (0≤pa∧pa≤1048576)=b):=⟨_,hid (Eq.refl _)⟩
 have HH:Hid (b=(b1 && (b2 && b3))):=by
  unfold Hid
  rw [← h,← H1.out,← H2.out,← H3.out]
  exact dec_and3 _ _ _ _
 clear h
 rcases bools3 b1 b2 b3 with rfl|⟨rfl,rfl⟩|⟨rfl,rfl,rfl⟩|⟨rfl,rfl,rfl⟩
 all_goals
  go_enter Tryz.func238,Tryz.ntmps238
  go_wp2_with (go_at_call 237; first|(with_reducible refine (between_is ph 0 5 _ _ H1.out).mono ?_; rintro e wx ⟨rfl,hx⟩; subst wx)|(with_reducible refine (between_is pr 0 1048576 _ _ H2.out).mono ?_; rintro e wx ⟨rfl,hx⟩; subst wx)|(with_reducible refine (between_is pa 0 1048576 _ _ H3.out).mono ?_; rintro e wx ⟨rfl,hx⟩; subst wx))
  go_ret
  exact ⟨by rw [HH.out]; rfl,HB.out⟩
theorem wcheck_e (A:Nat→Addr) (f t d k a:Int) (y:Bool) (ph pr pa:Int) (c:Nat) (w:World) (hE:HeldE w A) (h:(if frOk f t d k a ph pr pa then 0 else 2)=c) :
  Calls Tryz.prog 214 #[frV f t d k a y ph pr pa] w fun e w'=>e=.returned (ev A c)∧Below w.heap.size w w':=by
 obtain ⟨W,HW⟩:∃ W,Hid (w.alloc (.cells #[.int .i64 f,.int .i64 t,.int .i64 d,.int .i64 k,.int .i64 a,.bool y,.int .i64 ph,.int .i64 pr,.int .i64 pa] 125)=W):=⟨_,rfl⟩
 have HB:Hid (Below w.heap.size w W):=by rw [← HW.out]; exact (Below.refl _ _).alloc (Nat.le_refl _) _
 have HR:Hid (W.heap[w.heap.size]? = some (.cells #[.int .i64 f,.int .i64 t,.int .i64 d,.int .i64 k,.int .i64 a,.bool y,.int .i64 ph,.int .i64 pr,.int .i64 pa] 125 (0,0))):=by rw [← HW.out]; exact heap_alloc_new w _
 have HG:Hid (∀ wx,Below W.heap.size W wx→wx.cell? ⟨0,0,none⟩=some (.iface 318 (.pointer (some (A 1))))∧Below w.heap.size w wx):=fun wx hx=>⟨(hE.later (HB.out.trans (hx.mono HB.out.size))).g1,HB.out.trans (hx.mono HB.out.size)⟩
 clear hE
 obtain ⟨b1,H1⟩:∃ b:Bool,Hid (decide (0≤f∧f≤6)=b):=⟨_,hid (Eq.refl _)⟩
 obtain ⟨b2,H2⟩:∃ b:Bool,Hid (decide (0≤t∧t≤6)=b):=⟨_,hid (Eq.refl _)⟩
 obtain ⟨b3,H3⟩:∃ b:Bool,Hid (decide (0≤d∧d≤5)=b):=⟨_,hid (Eq.refl _)⟩
 obtain ⟨b4,H4⟩:∃ b:Bool,Hid (decide (1≤k∧k≤7)=b):=⟨_,hid (Eq.refl _)⟩
 obtain ⟨b5,H5⟩:∃ b:Bool,Hid (decide (0≤a∧a≤1048576)=b):=⟨_,hid (Eq.refl _)⟩
 obtain ⟨b6,H6⟩:∃ b:Bool,Hid (decide (stOk ph pr pa)=b):=⟨_,hid (Eq.refl _)⟩
 have HC:Hid (c=if (b1 && (b2 && (b3 && (b4 && (b5 && b6)))))=true then 0 else 2):=by
  unfold Hid
  rw [← h]
  refine ite_bool ?_ 0 2
  rw [← H1.out,← H2.out,← H3.out,← H4.out,← H5.out,← H6.out]
  simp only [frOk,decide_eq_true_eq,Bool.and_eq_true]
 clear h
 have hW:=HW.out
 have c0:W.cell? ⟨w.heap.size,0,none⟩=some (.int .i64 f):=by rw [cell_of_row _ _ _ _ _ _ HR.out]; rfl
 have c1:W.cell? ⟨w.heap.size,1,none⟩=some (.int .i64 t):=by rw [cell_of_row _ _ _ _ _ _ HR.out]; rfl
 have c2:W.cell? ⟨w.heap.size,2,none⟩=some (.int .i64 d):=by rw [cell_of_row _ _ _ _ _ _ HR.out]; rfl
 have c3:W.cell? ⟨w.heap.size,3,none⟩=some (.int .i64 k):=by rw [cell_of_row _ _ _ _ _ _ HR.out]; rfl
 have c4:W.cell? ⟨w.heap.size,4,none⟩=some (.int .i64 a):=by rw [cell_of_row _ _ _ _ _ _ HR.out]; rfl
 have c6:W.cell? ⟨w.heap.size,6,none⟩=some (.int .i64 ph):=by rw [cell_of_row _ _ _ _ _ _ HR.out]; rfl
 have c7:W.cell? ⟨w.heap.size,7,none⟩=some (.int .i64 pr):=by rw [cell_of_row _ _ _ _ _ _ HR.out]; rfl
 have c8:W.cell? ⟨w.heap.size,8,none⟩=some (.int .i64 pa):=by rw [cell_of_row _ _ _ _ _ _ HR.out]; rfl
 obtain ⟨g1W,hbW⟩:=HG.out W (Below.refl _ _)
 have HBW0:=hid hbW
 clear hbW
 have HX:(b1 && (b2 && (b3 && (b4 && b5))))=true ∨ (b1 && (b2 && (b3 && (b4 && b5))))=false:=by cases (b1 && (b2 && (b3 && (b4 && b5)))) <;> simp
 rcases HX with HX|HX
 ·simp only [Bool.and_eq_true] at HX
  obtain ⟨rfl,rfl,rfl,rfl,rfl⟩:=HX
  cases b6
  all_goals
   go_enter Tryz.func214,Tryz.ntmps214
   go_wp2_with (first|(go_at_call 237; first|(with_reducible refine (between_is f 0 6 _ _ H1.out).mono ?_; rintro e wx ⟨rfl,hx⟩; subst wx)|(with_reducible refine (between_is t 0 6 _ _ H2.out).mono ?_; rintro e wx ⟨rfl,hx⟩; subst wx)|(with_reducible refine (between_is d 0 5 _ _ H3.out).mono ?_; rintro e wx ⟨rfl,hx⟩; subst wx)|(with_reducible refine (between_is k 1 7 _ _ H4.out).mono ?_; rintro e wx ⟨rfl,hx⟩; subst wx)|(with_reducible refine (between_is a 0 1048576 _ _ H5.out).mono ?_; rintro e wx ⟨rfl,hx⟩; subst wx))|(go_at_call 238; (with_reducible refine (wfits_is ph pr pa _ _ H6.out).mono ?_); rintro e wx ⟨rfl,hx⟩; obtain ⟨g1,hbw⟩:=HG.out wx hx; have HBW:=hid hbw; clear hx hbw))
   go_ret
   refine ⟨by rw [HC.out]; rfl,Hid.out (by assumption)⟩
 ·have HZ:Hid (c=2):=by unfold Hid; rw [HC.out]; revert HX; cases b1 <;> cases b2 <;> cases b3 <;> cases b4 <;> cases b5 <;> cases b6 <;> decide
  rcases bools2 b1 b2 with rfl|⟨rfl,rfl⟩|⟨rfl,rfl⟩
  all_goals rcases bools3 b3 b4 b5 with rfl|⟨rfl,rfl⟩|⟨rfl,rfl,rfl⟩|⟨rfl,rfl,rfl⟩
  all_goals try (exact absurd HX (by decide))
  all_goals clear HX
  all_goals
   go_enter Tryz.func214,Tryz.ntmps214
   go_wp2_with (first|(go_at_call 237; first|(with_reducible refine (between_is f 0 6 _ _ H1.out).mono ?_; rintro e wx ⟨rfl,hx⟩; subst wx)|(with_reducible refine (between_is t 0 6 _ _ H2.out).mono ?_; rintro e wx ⟨rfl,hx⟩; subst wx)|(with_reducible refine (between_is d 0 5 _ _ H3.out).mono ?_; rintro e wx ⟨rfl,hx⟩; subst wx)|(with_reducible refine (between_is k 1 7 _ _ H4.out).mono ?_; rintro e wx ⟨rfl,hx⟩; subst wx)|(with_reducible refine (between_is a 0 1048576 _ _ H5.out).mono ?_; rintro e wx ⟨rfl,hx⟩; subst wx))|(go_at_call 238; (with_reducible refine (wfits_is ph pr pa _ _ H6.out).mono ?_); rintro e wx ⟨rfl,hx⟩; obtain ⟨g1,hbw⟩:=HG.out wx hx; have HBW:=hid hbw; clear hx hbw))
   go_ret
   exact ⟨by rw [HZ.out]; rfl,HBW0.out⟩
theorem kept9 (w:World) (g:Nat) (x0 x1 x2 x3 x4 x5 x6 x7 x8:Value) :
  Kept (In1 g) w (((((((((w.setCell ⟨g,0,none⟩ x0).setCell ⟨g,1,none⟩ x1).setCell ⟨g,2,none⟩ x2).setCell ⟨g,3,none⟩ x3).setCell ⟨g,4,none⟩ x4).setCell ⟨g,5,none⟩ x5).setCell ⟨g,6,none⟩ x6).setCell ⟨g,7,none⟩ x7).setCell ⟨g,8,none⟩ x8) :=
 (((((((((Kept.refl _ _).set1 0 _).set1 1 _).set1 2 _).set1 3 _).set1 4 _).set1 5 _).set1 6 _).set1 7 _).set1 8 _
theorem stored9 {X:World} {g:Nat} {a0 a1 a2 a3 a4 a5 a6 a7 a8:Value} (h:X.heap[g]? = some (.cells #[a0,a1,a2,a3,a4,a5,a6,a7,a8] 125 (0,0))) (f t d k a:Int) (y:Bool) (ph pr pa:Int) :
  ∃ Y,Hid ((((((((((X.setCell ⟨g,0,none⟩ (.int .i64 f)).setCell ⟨g,1,none⟩ (.int .i64 t)).setCell ⟨g,2,none⟩ (.int .i64 d)).setCell ⟨g,3,none⟩ (.int .i64 k)).setCell ⟨g,4,none⟩ (.int .i64 a)).setCell ⟨g,5,none⟩ (.bool y)).setCell ⟨g,6,none⟩ (.int .i64 ph)).setCell ⟨g,7,none⟩ (.int .i64 pr)).setCell ⟨g,8,none⟩ (.int .i64 pa))=Y) ∧
   Hid (Y.heap[g]? = some (.cells #[.int .i64 f,.int .i64 t,.int .i64 d,.int .i64 k,.int .i64 a,.bool y,.int .i64 ph,.int .i64 pr,.int .i64 pa] 125 (0,0)))∧Hid (Kept (In1 g) X Y) :=
 ⟨_,rfl,set9 h _ _ _ _ _ _ _ _ _,kept9 _ _ _ _ _ _ _ _ _ _ _⟩
theorem frozen9 {X:World} {g:Nat} {cs:Array Value} {t:TypeId} (h:X.heap[g]? = some (.cells cs t (0,0))):X.frozen? ⟨g,0,none⟩=false∧X.frozen? ⟨g,1,none⟩=false∧X.frozen? ⟨g,2,none⟩=false∧X.frozen? ⟨g,3,none⟩=false∧X.frozen? ⟨g,4,none⟩=false∧X.frozen? ⟨g,5,none⟩=false∧X.frozen? ⟨g,6,none⟩=false∧X.frozen? ⟨g,7,none⟩=false∧X.frozen? ⟨g,8,none⟩=false :=
 ⟨frozen_of_row X g 0 _ _ h,frozen_of_row X g 1 _ _ h,frozen_of_row X g 2 _ _ h,frozen_of_row X g 3 _ _ h,frozen_of_row X g 4 _ _ h,frozen_of_row X g 5 _ _ h,frozen_of_row X g 6 _ _ h,frozen_of_row X g 7 _ _ h,frozen_of_row X g 8 _ _ h⟩
def ansC (id f d a:Int) (h:HOut):Array Value:=#[.int .i64 id,.int .i64 f,.int .i64 d,.int .i64 (h.k:Int),.int .i64 a,.bool h.yes,.int .i64 (h.st.ph:Int),.int .i64 (h.st.pr:Int),.int .i64 (h.st.at_:Int)]
def AnsV (w:World) (v:Value) (c:Nat) (id f d a:Int) (h:HOut):Prop :=
 if c=0∧h.k≠0 then ∃ g cap,v=.slice (some ⟨g,0,none⟩) 1 cap∧w.heap[g]? = some (.cells (ansC id f d a h) 125 (0,0)) else v=.slice none 0 0
theorem idx_strR (s:ByteArray) (i:Nat) (z:Int) (h:i<s.size) (hz:z=i) (w:World):(Instr.index 9 (.string s) (.int .i64 z)).run Tryz.prog w=.ok (.int .u8 ((s[i]'h).toNat:Int)) w:=idx_str s i z h hz w
theorem conv_lit (w:World) (x:Int) (b:UInt8) (hb:(b.toNat:Int)=x):(convert 60 9 (.slice (some ⟨w.heap.size,0,none⟩) 1 1)).run Tryz.prog (w.alloc (.cells #[.int .u8 x] 5))=.ok (.string (bA [b])) (w.alloc (.cells #[.int .u8 x] 5)):=by
 subst hb
 have:=run_convert_bytes_back (P:=Tryz.prog) (w.alloc (.cells #[.int .u8 (b.toNat:Int)] 5)) 60 9 5 ⟨w.heap.size,0,none⟩ 1 [b] Tryz.underlying60 Tryz.underlying5 Tryz.underlying9 (fun j hj=>by
  obtain rfl:j=0:=by simpa using hj
  rw [addrAdd,cell_of_row _ w.heap.size 0 _ _ _ (heap_alloc_new w _)]; rfl)
 rw [show ([b]:List UInt8).length=1 from rfl] at this
 rw [this]; rfl
theorem byte_any (n:Nat) (w:World) (hn:n<256) :
  Calls Tryz.prog 143 #[.int .i64 (n:Int)] w fun e w'=>e=.returned (.string (bA [UInt8.ofNat n]))∧Below w.heap.size w w':=by
 have hc:=conv_lit w (n:Int) (UInt8.ofNat n) (by rw [UInt8.toNat_ofNat',Nat.mod_eq_of_lt (by omega)])
 go_enter Tryz.func143,Tryz.ntmps143
 go_wp2
 go_ret
 exact ⟨rfl,(Below.refl _ _).alloc (Nat.le_refl _) _⟩
theorem bA_append (a b:List UInt8):bA a ++ bA b=bA (a ++ b):=by
 apply ba_ext
 rw [ByteArray.data_append,Array.toList_append,bA_list,bA_list,bA_list]
end Go.Proofs.YtaehdgemkafinaaGreatDoor
