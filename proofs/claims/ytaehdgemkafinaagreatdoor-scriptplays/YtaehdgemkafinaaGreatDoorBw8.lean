/-
  On the way to SPlaysProof: KA KS S3 W6 O2 YA.
-/
import Derived.Test.YtaehdgemkafinaaGreatDoorBw3
import Derived.Test.YtaehdgemkafinaaGreatDoorBw4
import Derived.Test.YtaehdgemkafinaaGreatDoorBw5
set_option maxHeartbeats 8000000
set_option maxRecDepth 100000
namespace Go.Proofs.YtaehdgemkafinaaGreatDoor
open Go.RowKit
theorem between_is (n l m:Int) (b:Bool) (w:World) (h:decide (l≤n∧n≤m)=b) :
  Calls Tryz.prog 237 #[.int .i64 n,.int .i64 l,.int .i64 m] w fun e w'=>e=.returned (.bool b)∧w'=w:=by
 subst h
 by_cases h1:l≤n
 ·by_cases h2:n≤m
  ·rw [decide_eq_true ⟨h1,h2⟩]
   go_enter Tryz.func237,Tryz.ntmps237
   go_wp2
   go_ret
   exact ⟨rfl,rfl⟩
  ·rw [decide_eq_false (fun h=>h2 h.2)]
   go_enter Tryz.func237,Tryz.ntmps237
   go_wp2
   go_ret
   exact ⟨rfl,rfl⟩
 ·rw [decide_eq_false (fun h=>h1 h.1)]
  go_enter Tryz.func237,Tryz.ntmps237
  go_wp2
  go_ret
  exact ⟨rfl,rfl⟩
abbrev stOk (ph pr pa:Int):Prop:=(0≤ph∧ph≤5)∧(0≤pr∧pr≤1048576)∧(0≤pa∧pa≤1048576)
abbrev frOk (f t d k a ph pr pa:Int):Prop:=(0≤f∧f≤6)∧(0≤t∧t≤6)∧(0≤d∧d≤5)∧(1≤k∧k≤7)∧(0≤a∧a≤1048576)∧stOk ph pr pa
theorem dec_and3 (p q r:Prop) [Decidable p] [Decidable q] [Decidable r] (i:Decidable (p∧q∧r)):@decide _ i=(decide p && (decide q && decide r)):=by
 by_cases hp:p <;> by_cases hq:q <;> by_cases hr:r <;> simp [hp,hq,hr]
theorem ite_bool {p:Prop} [Decidable p] {b:Bool} (h:p ↔ b=true) (x y:Nat):(if p then x else y)=if b=true then x else y:=by
 by_cases hp:p
 ·rw [if_pos hp,if_pos (h.1 hp)]
 ·rw [if_neg hp,if_neg (fun g=>hp (h.2 g))]
theorem bools3 (a b c:Bool):a=false ∨ (a=true∧b=false) ∨ (a=true∧b=true∧c=false) ∨ (a=true∧b=true∧c=true):=by cases a <;> cases b <;> cases c <;> simp
theorem bools2 (a b:Bool):a=false ∨ (a=true∧b=false) ∨ (a=true∧b=true):=by cases a <;> cases b <;> simp
theorem wfits_is (ph pr pa:Int) (b:Bool) (w:World) (h:decide (stOk ph pr pa)=b) :
  Calls Tryz.prog 238 #[.agg #[.int .i64 ph,.int .i64 pr,.int .i64 pa]] w fun e w'=>e=.returned (.bool b)∧Below w.heap.size w w':=by
 have HB:Hid (Below w.heap.size w (w.alloc (.cells #[.int .i64 ph,.int .i64 pr,.int .i64 pa] 80))):=(Below.refl _ _).alloc (Nat.le_refl _) _
 obtain ⟨b1,H1⟩:∃ b:Bool,Hid (decide (0≤ph∧ph≤5)=b):=⟨_,hid (Eq.refl _)⟩
 obtain ⟨b2,H2⟩:∃ b:Bool,Hid (decide (0≤pr∧pr≤1048576)=b):=⟨_,hid (Eq.refl _)⟩
 obtain ⟨b3,H3⟩:∃ b:Bool,Hid (decide (0≤pa∧pa≤1048576)=b):=⟨_,hid (Eq.refl _)⟩
 have HH:Hid (b=(b1 && (b2 && b3))):=by
  unfold Hid
  rw [← h,← H1.out,← H2.out,← H3.out]
  exact dec_and3 _ _ _ _
 clear h
 rcases bools3 b1 b2 b3 with rfl|⟨rfl,rfl⟩|⟨rfl,rfl,rfl⟩|⟨rfl,rfl,rfl⟩
 all_goals
  go_enter Tryz.func238,Tryz.ntmps238
  go_wp2_with (go_at_call 237; first|(with_reducible refine (between_is ph 0 5 _ _ H1.out).mono ?_; rintro e wx ⟨rfl,hx⟩; subst wx)|(with_reducible refine (between_is pr 0 1048576 _ _ H2.out).mono ?_; rintro e wx ⟨rfl,hx⟩; subst wx)|(with_reducible refine (between_is pa 0 1048576 _ _ H3.out).mono ?_; rintro e wx ⟨rfl,hx⟩; subst wx))
  go_ret
  exact ⟨by rw [HH.out]; rfl,HB.out⟩
theorem wcheck_e (A:Nat→Addr) (f t d k a:Int) (y:Bool) (ph pr pa:Int) (c:Nat) (w:World) (hE:HeldE w A) (h:(if frOk f t d k a ph pr pa then 0 else 2)=c) :
  Calls Tryz.prog 214 #[frV f t d k a y ph pr pa] w fun e w'=>e=.returned (ev A c)∧Below w.heap.size w w':=by
 obtain ⟨W,HW⟩:∃ W,Hid (w.alloc (.cells #[.int .i64 f,.int .i64 t,.int .i64 d,.int .i64 k,.int .i64 a,.bool y,.int .i64 ph,.int .i64 pr,.int .i64 pa] 125)=W):=⟨_,rfl⟩
 have HB:Hid (Below w.heap.size w W):=by rw [← HW.out]; exact (Below.refl _ _).alloc (Nat.le_refl _) _
 have HR:Hid (W.heap[w.heap.size]? = some (.cells #[.int .i64 f,.int .i64 t,.int .i64 d,.int .i64 k,.int .i64 a,.bool y,.int .i64 ph,.int .i64 pr,.int .i64 pa] 125 (0,0))):=by rw [← HW.out]; exact heap_alloc_new w _
 have HG:Hid (∀ wx,Below W.heap.size W wx→wx.cell? ⟨0,0,none⟩=some (.iface 318 (.pointer (some (A 1))))∧Below w.heap.size w wx):=fun wx hx=>⟨(hE.later (HB.out.trans (hx.mono HB.out.size))).g1,HB.out.trans (hx.mono HB.out.size)⟩
 clear hE
 obtain ⟨b1,H1⟩:∃ b:Bool,Hid (decide (0≤f∧f≤6)=b):=⟨_,hid (Eq.refl _)⟩
 obtain ⟨b2,H2⟩:∃ b:Bool,Hid (decide (0≤t∧t≤6)=b):=⟨_,hid (Eq.refl _)⟩
 obtain ⟨b3,H3⟩:∃ b:Bool,Hid (decide (0≤d∧d≤5)=b):=⟨_,hid (Eq.refl _)⟩
 obtain ⟨b4,H4⟩:∃ b:Bool,Hid (decide (1≤k∧k≤7)=b):=⟨_,hid (Eq.refl _)⟩
 obtain ⟨b5,H5⟩:∃ b:Bool,Hid (decide (0≤a∧a≤1048576)=b):=⟨_,hid (Eq.refl _)⟩
 obtain ⟨b6,H6⟩:∃ b:Bool,Hid (decide (stOk ph pr pa)=b):=⟨_,hid (Eq.refl _)⟩
 have HC:Hid (c=if (b1 && (b2 && (b3 && (b4 && (b5 && b6)))))=true then 0 else 2):=by
  unfold Hid
  rw [← h]
  refine ite_bool ?_ 0 2
  rw [← H1.out,← H2.out,← H3.out,← H4.out,← H5.out,← H6.out]
  simp only [frOk,decide_eq_true_eq,Bool.and_eq_true]
 clear h
 have hW:=HW.out
 have c0:W.cell? ⟨w.heap.size,0,none⟩=some (.int .i64 f):=by rw [cell_of_row _ _ _ _ _ _ HR.out]; rfl
 have c1:W.cell? ⟨w.heap.size,1,none⟩=some (.int .i64 t):=by rw [cell_of_row _ _ _ _ _ _ HR.out]; rfl
 have c2:W.cell? ⟨w.heap.size,2,none⟩=some (.int .i64 d):=by rw [cell_of_row _ _ _ _ _ _ HR.out]; rfl
 have c3:W.cell? ⟨w.heap.size,3,none⟩=some (.int .i64 k):=by rw [cell_of_row _ _ _ _ _ _ HR.out]; rfl
 have c4:W.cell? ⟨w.heap.size,4,none⟩=some (.int .i64 a):=by rw [cell_of_row _ _ _ _ _ _ HR.out]; rfl
 have c6:W.cell? ⟨w.heap.size,6,none⟩=some (.int .i64 ph):=by rw [cell_of_row _ _ _ _ _ _ HR.out]; rfl
 have c7:W.cell? ⟨w.heap.size,7,none⟩=some (.int .i64 pr):=by rw [cell_of_row _ _ _ _ _ _ HR.out]; rfl
 have c8:W.cell? ⟨w.heap.size,8,none⟩=some (.int .i64 pa):=by rw [cell_of_row _ _ _ _ _ _ HR.out]; rfl
 obtain ⟨g1W,hbW⟩:=HG.out W (Below.refl _ _)
 have HBW0:=hid hbW
 clear hbW
 have HX:(b1 && (b2 && (b3 && (b4 && b5))))=true ∨ (b1 && (b2 && (b3 && (b4 && b5))))=false:=by cases (b1 && (b2 && (b3 && (b4 && b5)))) <;> simp
 rcases HX with HX|HX
 ·simp only [Bool.and_eq_true] at HX
  obtain ⟨rfl,rfl,rfl,rfl,rfl⟩:=HX
  cases b6
  all_goals
   go_enter Tryz.func214,Tryz.ntmps214
   go_wp2_with (first|(go_at_call 237; first|(with_reducible refine (between_is f 0 6 _ _ H1.out).mono ?_; rintro e wx ⟨rfl,hx⟩; subst wx)|(with_reducible refine (between_is t 0 6 _ _ H2.out).mono ?_; rintro e wx ⟨rfl,hx⟩; subst wx)|(with_reducible refine (between_is d 0 5 _ _ H3.out).mono ?_; rintro e wx ⟨rfl,hx⟩; subst wx)|(with_reducible refine (between_is k 1 7 _ _ H4.out).mono ?_; rintro e wx ⟨rfl,hx⟩; subst wx)|(with_reducible refine (between_is a 0 1048576 _ _ H5.out).mono ?_; rintro e wx ⟨rfl,hx⟩; subst wx))|(go_at_call 238; (with_reducible refine (wfits_is ph pr pa _ _ H6.out).mono ?_); rintro e wx ⟨rfl,hx⟩; obtain ⟨g1,hbw⟩:=HG.out wx hx; have HBW:=hid hbw; clear hx hbw))
   go_ret
   refine ⟨by rw [HC.out]; rfl,Hid.out (by assumption)⟩
 ·have HZ:Hid (c=2):=by unfold Hid; rw [HC.out]; revert HX; cases b1 <;> cases b2 <;> cases b3 <;> cases b4 <;> cases b5 <;> cases b6 <;> decide
  rcases bools2 b1 b2 with rfl|⟨rfl,rfl⟩|⟨rfl,rfl⟩
  all_goals rcases bools3 b3 b4 b5 with rfl|⟨rfl,rfl⟩|⟨rfl,rfl,rfl⟩|⟨rfl,rfl,rfl⟩
  all_goals try (exact absurd HX (by decide))
  all_goals clear HX
  all_goals
   go_enter Tryz.func214,Tryz.ntmps214
   go_wp2_with (first|(go_at_call 237; first|(with_reducible refine (between_is f 0 6 _ _ H1.out).mono ?_; rintro e wx ⟨rfl,hx⟩; subst wx)|(with_reducible refine (between_is t 0 6 _ _ H2.out).mono ?_; rintro e wx ⟨rfl,hx⟩; subst wx)|(with_reducible refine (between_is d 0 5 _ _ H3.out).mono ?_; rintro e wx ⟨rfl,hx⟩; subst wx)|(with_reducible refine (between_is k 1 7 _ _ H4.out).mono ?_; rintro e wx ⟨rfl,hx⟩; subst wx)|(with_reducible refine (between_is a 0 1048576 _ _ H5.out).mono ?_; rintro e wx ⟨rfl,hx⟩; subst wx))|(go_at_call 238; (with_reducible refine (wfits_is ph pr pa _ _ H6.out).mono ?_); rintro e wx ⟨rfl,hx⟩; obtain ⟨g1,hbw⟩:=HG.out wx hx; have HBW:=hid hbw; clear hx hbw))
   go_ret
   exact ⟨by rw [HZ.out]; rfl,HBW0.out⟩
theorem kept9 (w:World) (g:Nat) (x0 x1 x2 x3 x4 x5 x6 x7 x8:Value) :
  Kept (In1 g) w (((((((((w.setCell ⟨g,0,none⟩ x0).setCell ⟨g,1,none⟩ x1).setCell ⟨g,2,none⟩ x2).setCell ⟨g,3,none⟩ x3).setCell ⟨g,4,none⟩ x4).setCell ⟨g,5,none⟩ x5).setCell ⟨g,6,none⟩ x6).setCell ⟨g,7,none⟩ x7).setCell ⟨g,8,none⟩ x8) :=
 (((((((((Kept.refl _ _).set1 0 _).set1 1 _).set1 2 _).set1 3 _).set1 4 _).set1 5 _).set1 6 _).set1 7 _).set1 8 _
theorem stored9 {X:World} {g:Nat} {a0 a1 a2 a3 a4 a5 a6 a7 a8:Value} (h:X.heap[g]? = some (.cells #[a0,a1,a2,a3,a4,a5,a6,a7,a8] 125 (0,0))) (f t d k a:Int) (y:Bool) (ph pr pa:Int) :
  ∃ Y,Hid ((((((((((X.setCell ⟨g,0,none⟩ (.int .i64 f)).setCell ⟨g,1,none⟩ (.int .i64 t)).setCell ⟨g,2,none⟩ (.int .i64 d)).setCell ⟨g,3,none⟩ (.int .i64 k)).setCell ⟨g,4,none⟩ (.int .i64 a)).setCell ⟨g,5,none⟩ (.bool y)).setCell ⟨g,6,none⟩ (.int .i64 ph)).setCell ⟨g,7,none⟩ (.int .i64 pr)).setCell ⟨g,8,none⟩ (.int .i64 pa))=Y) ∧
   Hid (Y.heap[g]? = some (.cells #[.int .i64 f,.int .i64 t,.int .i64 d,.int .i64 k,.int .i64 a,.bool y,.int .i64 ph,.int .i64 pr,.int .i64 pa] 125 (0,0)))∧Hid (Kept (In1 g) X Y) :=
 ⟨_,rfl,set9 h _ _ _ _ _ _ _ _ _,kept9 _ _ _ _ _ _ _ _ _ _ _⟩
theorem frozen9 {X:World} {g:Nat} {cs:Array Value} {t:TypeId} (h:X.heap[g]? = some (.cells cs t (0,0))):X.frozen? ⟨g,0,none⟩=false∧X.frozen? ⟨g,1,none⟩=false∧X.frozen? ⟨g,2,none⟩=false∧X.frozen? ⟨g,3,none⟩=false∧X.frozen? ⟨g,4,none⟩=false∧X.frozen? ⟨g,5,none⟩=false∧X.frozen? ⟨g,6,none⟩=false∧X.frozen? ⟨g,7,none⟩=false∧X.frozen? ⟨g,8,none⟩=false :=
 ⟨frozen_of_row X g 0 _ _ h,frozen_of_row X g 1 _ _ h,frozen_of_row X g 2 _ _ h,frozen_of_row X g 3 _ _ h,frozen_of_row X g 4 _ _ h,frozen_of_row X g 5 _ _ h,frozen_of_row X g 6 _ _ h,frozen_of_row X g 7 _ _ h,frozen_of_row X g 8 _ _ h⟩
def ansC (id f d a:Int) (h:HOut):Array Value:=#[.int .i64 id,.int .i64 f,.int .i64 d,.int .i64 (h.k:Int),.int .i64 a,.bool h.yes,.int .i64 (h.st.ph:Int),.int .i64 (h.st.pr:Int),.int .i64 (h.st.at_:Int)]
def AnsV (w:World) (v:Value) (c:Nat) (id f d a:Int) (h:HOut):Prop :=
 if c=0∧h.k≠0 then ∃ g cap,v=.slice (some ⟨g,0,none⟩) 1 cap∧w.heap[g]? = some (.cells (ansC id f d a h) 125 (0,0)) else v=.slice none 0 0
theorem rErr_shape (a:Option Addr) (len cap:Nat) (w:World) (hm:len≤maxLen) (h:len<1 ∨ 7<len) :
  Calls Tryz.prog 13 #[.slice a len cap] w fun e w'=>e=.returned (.int .i64 3)∧w'=w:=by
 unfold maxLen at hm
 rcases h with h|h
 ·have:len=0:=by omega
  subst this
  go_enter Tryz.func13,Tryz.ntmps13
  go_wp2
  go_ret
  exact ⟨rfl,rfl⟩
 ·go_enter Tryz.func13,Tryz.ntmps13
  go_wp2
  go_ret
  exact ⟨rfl,rfl⟩
theorem rErr_in (b off cap:Nat) (zs:List Int) (w:World) (h:¬ (zs.length<1 ∨ 7<zs.length))
  (hc:∀ i,i<zs.length→w.cell? ⟨b,off+i,none⟩=some (.int .i64 (zs.getD i 0))) :
  Calls Tryz.prog 13 #[.slice (some ⟨b,off,none⟩) zs.length cap] w fun e w'=>e=.returned (.int .i64 (errW zs))∧w'=w:=by
 have hB:∀ k,k<zs.length→(zs.getD k 0<0 ∨ 1000<zs.getD k 0)→Hid ((errW zs:Int)=2):=fun k hk hb=>by unfold Hid; rw [errW_bound h hk hb]; rfl
 have hN:okTo zs zs.length→tot zs=0→Hid ((errW zs:Int)=4):=fun g e=>by unfold Hid; rw [errW_ok h g,if_pos e]; rfl
 have hZ:okTo zs zs.length→¬ tot zs=0→Hid ((errW zs:Int)=0):=fun g e=>by unfold Hid; rw [errW_ok h g,if_neg e]; rfl
 have hlo:¬ zs.length<1:=fun g=>h (.inl g)
 have hhi:¬ 7<zs.length:=fun g=>h (.inr g)
 clear h
 go_enter Tryz.func13,Tryz.ntmps13
 go_wp2
 go_loop [3,4] (fun x i=>∃ k:Nat,k≤zs.length∧okTo zs k∧i=.int .i64 k∧x=.int .i64 (psum zs k)) (fun _ i=>zs.length - (intOf i).toNat)
 case atStart=>exact ⟨0,Nat.zero_le _,fun i hi=>absurd hi (by omega),rfl,rfl⟩
 case round =>
  obtain ⟨k,hk,hok,rfl,rfl⟩:=hrel
  have hpb:=psum_bd hok
  by_cases hlt:k<zs.length
  ·have hck:=hc k hlt
   have hB':=hB k hlt
   have hS:Hid (psum zs (k+1)=psum zs k+zs.getD k 0):=rfl
   have hO:0≤zs.getD k 0→zs.getD k 0≤1000→okTo zs (k+1):=okTo_succ hok
   clear hB hN hZ hc
   rw [getD_lt zs k hlt] at hB' hO hck
   go_wp2
   ·go_ret
    exact ⟨ret_int (hB' (by omega)).out.symm,rfl⟩
   ·go_round
    case rel=>exact ⟨k+1,by omega,hO (by omega) (by omega),by go_num,val_int (by rw [hS.out,getD_lt zs k hlt])⟩
    case measure=>simp [intOf]; omega
   ·go_ret
    exact ⟨ret_int (hB' (by omega)).out.symm,rfl⟩
  ·have hke:k=zs.length:=by omega
   subst hke
   have hN':=hN hok
   have hZ':=hZ hok
   clear hB hN hZ hc
   go_wp2
   ·have hz:(psum zs zs.length == 0)=true:=by assumption
    go_ret
    exact ⟨ret_int (hN' (show psum zs zs.length=0 by simpa using hz)).out.symm,rfl⟩
   ·have hz:(psum zs zs.length == 0)=false:=by assumption
    go_ret
    exact ⟨ret_int (hZ' (show ¬ psum zs zs.length=0 by simpa using hz)).out.symm,rfl⟩
theorem rErr_any (v:Value) (zs:List Int) (w:World) (hv:IsSl w v zs) :
  Calls Tryz.prog 13 #[v] w fun e w'=>e=.returned (.int .i64 (errW zs))∧w'=w:=by
 obtain ⟨a,cap,rfl,hm,-,hc⟩:=hv
 by_cases h:zs.length<1 ∨ 7<zs.length
 ·rw [errW_shape h]; exact rErr_shape a zs.length cap w hm h
 ·obtain ⟨b,off,rfl,hcc⟩:=hc (by omega)
  exact rErr_in b off cap zs w h hcc
theorem rHas_any (s:Int) (i:Nat) (w:World) (hi:i≤30) (h0:0≤s) (h1:s≤1073741824) :
  Calls Tryz.prog 211 #[.int .i64 s,.int .i64 i] w fun e w'=>e=.returned (.bool (bit s i))∧w'=w:=by
 have hp:=pow_le30 hi
 have hb:=hid (bit_has i h0)
 go_enter Tryz.func211,Tryz.ntmps211
 go_wp2_with (go_at_call 147; refine (two_any i _ hi).mono ?_; rintro e w' ⟨rfl,rfl⟩)
 go_ret
 exact ⟨congrArg (fun x=>Ending.returned (.bool x)) (by rw [Int.tmod_eq_emod_of_nonneg (Int.ediv_nonneg h0 (by omega))]; exact hb.out),rfl⟩
theorem rHas_is (s:Int) (i:Nat) (x:Bool) (w:World) (hi:i≤30) (h0:0≤s) (h1:s≤1073741824) (hx:bit s i=x) :
  Calls Tryz.prog 211 #[.int .i64 s,.int .i64 i] w fun e w'=>e=.returned (.bool x)∧w'=w:=by
 subst hx; exact rHas_any s i w hi h0 h1
theorem rSum_any (b off cap:Nat) (zs:List Int) (s:Int) (w:World) (hl:zs.length≤7) (hok:okTo zs zs.length) (h0:0≤s) (h1:s≤1073741824)
  (hc:∀ i,i<zs.length→w.cell? ⟨b,off+i,none⟩=some (.int .i64 (zs.getD i 0))) :
  Calls Tryz.prog 183 #[.slice (some ⟨b,off,none⟩) zs.length cap,.int .i64 s] w fun e w'=>e=.returned (.int .i64 (sumTo zs s zs.length))∧w'=w:=by
 have HC:=hid hc
 clear hc
 go_enter Tryz.func183,Tryz.ntmps183
 go_wp2
 go_loop [5,6] (fun x i=>∃ k:Nat,k≤zs.length∧i=.int .i64 k∧x=.int .i64 (sumTo zs s k)) (fun _ i=>zs.length - (intOf i).toNat)
 case atStart=>exact ⟨0,Nat.zero_le _,rfl,rfl⟩
 case round =>
  obtain ⟨k,hk,rfl,rfl⟩:=hrel
  by_cases hlt:k<zs.length
  ·have hck:=HC.out k hlt
   have hbd:=sumTo_bd s (k:=k) (zs:=zs) (fun i hi=>hok i (by omega))
   have hpb:=psum_bd (k:=k) (zs:=zs) (fun i hi=>hok i (by omega))
   have hz:=hok k hlt
   have hS:Hid (sumTo zs s (k+1)=sumTo zs s k+if bit s k then zs.getD k 0 else 0):=rfl
   rw [getD_lt zs k hlt] at hz
   cases hx:bit s k with
   | false =>
    rw [hx] at hS
    have HX:=hid hx
    clear hx
    go_wp2_with (go_at_call 211; refine (rHas_is s k false _ (by omega) h0 h1 HX.out).mono ?_; rintro e w' ⟨rfl,rfl⟩)
    go_round
    case rel=>exact ⟨k+1,by omega,by go_num,val_int (by rw [hS.out]; simp)⟩
    case measure=>simp [intOf]; omega
   | true =>
    rw [hx] at hS
    have HX:=hid hx
    clear hx
    go_wp2_with (go_at_call 211; refine (rHas_is s k true _ (by omega) h0 h1 HX.out).mono ?_; rintro e w' ⟨rfl,rfl⟩)
    go_round
    case rel=>exact ⟨k+1,by omega,by go_num,val_int (by rw [hS.out,getD_lt zs k hlt]; simp)⟩
    case measure=>simp [intOf]; omega
  ·go_wp2
   go_ret
   exact ⟨ret_int (by rw [show k=zs.length by omega]),rfl⟩
theorem rEnough_any (b off cap:Nat) (zs:List Int) (s:Int) (w:World) (hl:zs.length≤7) (hok:okTo zs zs.length) (h0:0≤s) (h1:s≤1073741824)
  (hc:∀ i,i<zs.length→w.cell? ⟨b,off+i,none⟩=some (.int .i64 (zs.getD i 0))) :
  Calls Tryz.prog 149 #[.slice (some ⟨b,off,none⟩) zs.length cap,.int .i64 s] w fun e w'=>e=.returned (.bool (enoughB zs s))∧w'=w:=by
 have HC:=hid hc
 clear hc
 have hp:=pow_le7 hl
 have hbd:=sumTo_bd s (k:=zs.length) (zs:=zs) hok
 have hpb:=psum_bd (k:=zs.length) (zs:=zs) hok
 have hall:Hid (sumTo zs (2 ^ zs.length - 1) zs.length=tot zs):=sumTo_all zs (Nat.le_refl _)
 have ht:0≤tot zs∧tot zs≤1000 * zs.length:=hpb
 have hfin:=hid (enoughB_alt zs s)
 go_enter Tryz.func149,Tryz.ntmps149
 go_wp2_with fail
 refine (rSum_any b off cap zs s _ hl hok h0 h1 HC.out).mono ?_
 rintro e w1 ⟨rfl,h1'⟩
 subst h1'
 go_wp2_with fail
 refine (two_any zs.length _ (by omega)).mono ?_
 rintro e w1 ⟨rfl,h1'⟩
 subst h1'
 go_wp2_with fail
 refine (rSum_any b off cap zs (2 ^ zs.length - 1) _ hl hok (by omega) (by omega) HC.out).mono ?_
 rintro e w1 ⟨rfl,h1'⟩
 subst h1'
 rw [hall.out]
 go_wp2_with fail
 refine (rSum_any b off cap zs s _ hl hok h0 h1 HC.out).mono ?_
 rintro e w1 ⟨rfl,h1'⟩
 subst h1'
 go_wp2_with fail
 go_ret
 exact ⟨congrArg (fun x=>Ending.returned (.bool x)) hfin.out,rfl⟩
theorem rEnough_is (b off cap:Nat) (zs:List Int) (s:Int) (x:Bool) (w:World) (hl:zs.length≤7) (hok:okTo zs zs.length) (h0:0≤s) (h1:s≤1073741824)
  (hc:∀ i,i<zs.length→w.cell? ⟨b,off+i,none⟩=some (.int .i64 (zs.getD i 0))) (hx:enoughB zs s=x) :
  Calls Tryz.prog 149 #[.slice (some ⟨b,off,none⟩) zs.length cap,.int .i64 s] w fun e w'=>e=.returned (.bool x)∧w'=w:=by
 subst hx; exact rEnough_any b off cap zs s w hl hok h0 h1 hc
theorem most_is (c:UInt8) (w:World):Calls Tryz.prog 178 #[.int .u8 (c.toNat:Int)] w fun e w'=>e=.returned (.int .i64 (mostO c:Int))∧w'=w:=by
 by_cases h:c=78
 ·subst h
  go_enter Tryz.func178,Tryz.ntmps178
  go_wp2_with fail
  go_ret
  exact ⟨rfl,rfl⟩
 ·have h2:¬ (c.toNat:Int)=78:=fun e=>h (UInt8.toNat_inj.1 (show c.toNat=78 by omega))
  have h3:mostO c=1:=by unfold mostO; rw [if_neg h]
  rw [h3]
  go_enter Tryz.func178,Tryz.ntmps178
  go_wp2_with fail
  go_ret
  exact ⟨rfl,rfl⟩
def numT:Option Nat→Value
 | none=>.tuple #[.int .i64 0,.bool false]
 | some n=>.tuple #[.int .i64 (n:Int),.bool true]
theorem number_go (s:ByteArray) (k:Nat) (w:World) (hk:k≤5) (h1:¬ k<s.size) (e0:s.toList.isEmpty=false) (hnum:numO k s.data.toList=digsO s.data.toList 0)
  (hf:¬ 1<s.size ∨ (1<s.size∧∃ c0:UInt8,(∀ w',(Instr.index 9 (.string s) (.int .i64 0)).run Tryz.prog w'=.ok (.int .u8 (c0.toNat:Int)) w')∧((c0.toNat:Int) == 48)=false)) :
  Calls Tryz.prog 177 #[.string s,.int .i64 (k:Int)] w fun e w'=>e=.returned (numT (numO k s.data.toList))∧w'=w:=by
 have HNum:=hid hnum
 obtain ⟨z,HZ⟩:∃ z,Hid (s.size=z):=⟨_,rfl⟩
 have hz5:z≤5:=by rw [← HZ.out]; omega
 clear hnum
 rcases hf with h2|⟨h2,c0,hx0,e3'⟩
 ·go_enter Tryz.func177,Tryz.ntmps177
  go_wp2_with fail
  rw [HZ.out]
  go_loopw [4,5,27] (fun a b v wr=>∃ j n:Nat,j≤z∧a=.int .i64 (n:Int)∧b=.bool false∧v=.int .i64 (j:Int)∧wr=w∧Hid (digsO (s.data.toList.take j) 0=some n)) (fun _ _ v _=>z - (intOf v).toNat)
  case atStart=>exact ⟨0,0,Nat.zero_le _,rfl,rfl,rfl,rfl,rfl⟩
  case round =>
   obtain ⟨j,n,hj,rfl,rfl,rfl,hx,HD⟩:=hrel
   subst hx
   have hn:n<100000:=by
    have h1:=digsO_le _ 0 n HD.out
    have h2:(s.data.toList.take j).length≤5:=by rw [List.length_take]; omega
    have h3:=Nat.pow_le_pow_right (n:=10) (by omega) h2
    omega
   by_cases hlt:j<z
   ·have hjs:j<s.size:=by rw [HZ.out]; exact hlt
    have hlt2:(j:Int)<(z:Int):=by omega
    obtain ⟨c,HC⟩:∃ c,Hid ((s[j]'hjs)=c):=⟨_,rfl⟩
    have hix:∀ w',(Instr.index 9 (.string s) (.int .i64 (j:Int))).run Tryz.prog w'=.ok (.int .u8 (c.toNat:Int)) w':=fun w'=>by rw [idx_str s j j hjs rfl w',HC.out]
    have HTk:Hid (s.data.toList.take (j+1)=s.data.toList.take j ++ [c]):=by
     rw [List.take_succ_eq_append_getElem (by simpa using hjs)]
     rw [← HC.out]; exact rfl
    by_cases hc1:c.toNat<48
    ·have e1:(c.toNat:Int)<48:=by omega
     have HBad:Hid (digsO s.data.toList 0=none):=by
      rw [← List.take_append_drop (j+1) s.data.toList]
      refine digsO_bad _ _ _ ?_
      rw [HTk.out,digsO_snoc _ _ _ _ HD.out,if_pos (.inl hc1)]
     go_wp2_with fail
     go_ret2
     exact ⟨by rw [HNum.out,HBad.out]; rfl,rfl⟩
    ·have e1:¬ (c.toNat:Int)<48:=by omega
     by_cases hc2:57<c.toNat
     ·have e2:(57:Int)<(c.toNat:Int):=by omega
      have HBad:Hid (digsO s.data.toList 0=none):=by
       rw [← List.take_append_drop (j+1) s.data.toList]
       refine digsO_bad _ _ _ ?_
       rw [HTk.out,digsO_snoc _ _ _ _ HD.out,if_pos (.inr hc2)]
      go_wp2_with fail
      go_ret2
      exact ⟨by rw [HNum.out,HBad.out]; rfl,rfl⟩
     ·have e2:¬ (57:Int)<(c.toNat:Int):=by omega
      have HG:Hid (digsO (s.data.toList.take (j+1)) 0=some (10 * n+(c.toNat - 48))):=by
       change _=_
       rw [HTk.out,digsO_snoc _ _ _ _ HD.out,if_neg (by omega)]
      obtain ⟨cn,Hcn⟩:∃ cn:Nat,Hid (c.toNat=cn):=⟨_,rfl⟩
      rw [Hcn.out] at hix e1 e2 HG hc1 hc2
      go_wp2_with fail
      go_roundw
      case rel=>exact ⟨j+1,10 * n+(cn - 48),by omega,by go_num,rfl,by go_num,trivial,HG.out⟩
      case measure=>simp [intOf]; omega
   ·obtain rfl:j=z:=by omega
    have HG:Hid (digsO s.data.toList 0=some n):=by
     have:=HD.out
     rw [List.take_of_length_le (by simpa using Nat.le_of_eq HZ.out)] at this
     exact this
    go_wp2_with fail
    go_ret2
    exact ⟨by rw [HNum.out,HG.out]; rfl,rfl⟩
 ·go_enter Tryz.func177,Tryz.ntmps177
  go_wp2_with fail
  rw [HZ.out]
  go_loopw [4,5,27] (fun a b v wr=>∃ j n:Nat,j≤z∧a=.int .i64 (n:Int)∧b=.bool false∧v=.int .i64 (j:Int)∧wr=w∧Hid (digsO (s.data.toList.take j) 0=some n)) (fun _ _ v _=>z - (intOf v).toNat)
  case atStart=>exact ⟨0,0,Nat.zero_le _,rfl,rfl,rfl,rfl,rfl⟩
  case round =>
   obtain ⟨j,n,hj,rfl,rfl,rfl,hx,HD⟩:=hrel
   subst hx
   have hn:n<100000:=by
    have h1:=digsO_le _ 0 n HD.out
    have h2:(s.data.toList.take j).length≤5:=by rw [List.length_take]; omega
    have h3:=Nat.pow_le_pow_right (n:=10) (by omega) h2
    omega
   by_cases hlt:j<z
   ·have hjs:j<s.size:=by rw [HZ.out]; exact hlt
    have hlt2:(j:Int)<(z:Int):=by omega
    obtain ⟨c,HC⟩:∃ c,Hid ((s[j]'hjs)=c):=⟨_,rfl⟩
    have hix:∀ w',(Instr.index 9 (.string s) (.int .i64 (j:Int))).run Tryz.prog w'=.ok (.int .u8 (c.toNat:Int)) w':=fun w'=>by rw [idx_str s j j hjs rfl w',HC.out]
    have HTk:Hid (s.data.toList.take (j+1)=s.data.toList.take j ++ [c]):=by
     rw [List.take_succ_eq_append_getElem (by simpa using hjs)]
     rw [← HC.out]; exact rfl
    by_cases hc1:c.toNat<48
    ·have e1:(c.toNat:Int)<48:=by omega
     have HBad:Hid (digsO s.data.toList 0=none):=by
      rw [← List.take_append_drop (j+1) s.data.toList]
      refine digsO_bad _ _ _ ?_
      rw [HTk.out,digsO_snoc _ _ _ _ HD.out,if_pos (.inl hc1)]
     go_wp2_with fail
     go_ret2
     exact ⟨by rw [HNum.out,HBad.out]; rfl,rfl⟩
    ·have e1:¬ (c.toNat:Int)<48:=by omega
     by_cases hc2:57<c.toNat
     ·have e2:(57:Int)<(c.toNat:Int):=by omega
      have HBad:Hid (digsO s.data.toList 0=none):=by
       rw [← List.take_append_drop (j+1) s.data.toList]
       refine digsO_bad _ _ _ ?_
       rw [HTk.out,digsO_snoc _ _ _ _ HD.out,if_pos (.inr hc2)]
      go_wp2_with fail
      go_ret2
      exact ⟨by rw [HNum.out,HBad.out]; rfl,rfl⟩
     ·have e2:¬ (57:Int)<(c.toNat:Int):=by omega
      have HG:Hid (digsO (s.data.toList.take (j+1)) 0=some (10 * n+(c.toNat - 48))):=by
       change _=_
       rw [HTk.out,digsO_snoc _ _ _ _ HD.out,if_neg (by omega)]
      obtain ⟨cn,Hcn⟩:∃ cn:Nat,Hid (c.toNat=cn):=⟨_,rfl⟩
      rw [Hcn.out] at hix e1 e2 HG hc1 hc2
      go_wp2_with fail
      go_roundw
      case rel=>exact ⟨j+1,10 * n+(cn - 48),by omega,by go_num,rfl,by go_num,trivial,HG.out⟩
      case measure=>simp [intOf]; omega
   ·obtain rfl:j=z:=by omega
    have HG:Hid (digsO s.data.toList 0=some n):=by
     have:=HD.out
     rw [List.take_of_length_le (by simpa using Nat.le_of_eq HZ.out)] at this
     exact this
    go_wp2_with fail
    go_ret2
    exact ⟨by rw [HNum.out,HG.out]; rfl,rfl⟩
theorem number_is (s:ByteArray) (k:Nat) (w:World) (hk:k≤5) :
  Calls Tryz.prog 177 #[.string s,.int .i64 (k:Int)] w fun e w'=>e=.returned (numT (numO k s.data.toList))∧w'=w:=by
 have hsz:s.data.toList.length=s.size:=rfl
 have hte:s.toList.isEmpty=decide (s.size=0):=by
  rw [Lib.toList_data,← hsz]
  cases s.data.toList <;> simp
 by_cases h0:s.size=0
 ·have hL:s.data.toList=[]:=List.length_eq_zero_iff.1 (hsz.trans h0)
  have e0:s.toList.isEmpty=true:=by rw [hte]; simpa using h0
  have HNum:Hid (numO k s.data.toList=none):=by change _=_; unfold numO; rw [if_pos (.inl hL)]
  clear hte
  go_enter Tryz.func177,Tryz.ntmps177
  go_wp2_with fail
  go_ret2
  exact ⟨by rw [HNum.out]; rfl,rfl⟩
 ·have e0:s.toList.isEmpty=false:=by rw [hte]; simpa using h0
  have hL:s.data.toList≠[]:=fun e=>h0 (by rw [← hsz,e]; rfl)
  clear hte
  by_cases h1:k<s.size
  ·have HNum:Hid (numO k s.data.toList=none):=by change _=_; unfold numO; rw [if_pos (.inr (.inl (by rw [hsz]; exact h1)))]
   go_enter Tryz.func177,Tryz.ntmps177
   go_wp2_with fail
   go_ret2
   exact ⟨by rw [HNum.out]; rfl,rfl⟩
  ·by_cases h2:1<s.size
   ·have hi0:0<s.size:=by omega
    obtain ⟨c0,HC0⟩:∃ c,Hid ((s[0]'hi0)=c):=⟨_,rfl⟩
    have hx0:∀ w',(Instr.index 9 (.string s) (.int .i64 0)).run Tryz.prog w'=.ok (.int .u8 (c0.toNat:Int)) w':=fun w'=>by rw [idx_str s 0 0 hi0 rfl w',HC0.out]
    have hg0:s.data.toList.getD 0 0=c0:=by
     rw [List.getD,List.getElem?_eq_getElem (by omega),Option.getD_some,← HC0.out]; exact rfl
    by_cases h3:c0=48
    ·have HNum:Hid (numO k s.data.toList=none):=by change _=_; unfold numO; rw [if_pos (.inr (.inr ⟨by rw [hsz]; exact h2,by rw [hg0,h3]⟩))]
     have e3:(c0.toNat:Int)=48:=by rw [h3]; rfl
     have e3':((c0.toNat:Int) == 48)=true:=by rw [e3]; rfl
     clear e3
     go_enter Tryz.func177,Tryz.ntmps177
     go_wp2_with fail
     go_ret2
     exact ⟨by rw [HNum.out]; rfl,rfl⟩
    ·have e3:¬ (c0.toNat:Int)=48:=fun e=>h3 (UInt8.toNat_inj.1 (show c0.toNat=48 by omega))
     have e3':((c0.toNat:Int) == 48)=false:=by simpa using e3
     have HNum:Hid (numO k s.data.toList=digsO s.data.toList 0):=by
      change _=_
      unfold numO
      rw [if_neg]
      rintro (h|h|⟨-,h⟩)
      ·exact hL h
      ·rw [hsz] at h; exact h1 h
      ·rw [hg0] at h; exact h3 h
     exact number_go s k w hk h1 e0 HNum.out (.inr ⟨h2,c0,hx0,e3'⟩)
   ·have HNum:Hid (numO k s.data.toList=digsO s.data.toList 0):=by
     change _=_
     unfold numO
     rw [if_neg]
     rintro (h|h|⟨h,-⟩)
     ·exact hL h
     ·rw [hsz] at h; exact h1 h
     ·rw [hsz] at h; exact h2 h
    exact number_go s k w hk h1 e0 HNum.out (.inl h2)
structure Gh where
 acc:Nat→Nat→Prop
 val:Nat→Nat
 no:Nat→Prop
def Qo (zs:List Int) (S:Nat→Prop):Prop:=∃ q:Int,errS zs q=0∧enoughB zs q=true∧∀ i,i<zs.length→bit q i=true→S i
theorem Qo.mono {zs:List Int} {S T:Nat→Prop} (h:Qo zs S) (hS:∀ i,i<zs.length→S i→T i):Qo zs T:=by
 obtain ⟨q,h1,h2,h3⟩:=h
 exact ⟨q,h1,h2,fun i hi hb=>hS i hi (h3 i hi hb)⟩
theorem Qo.meet {zs:List Int} {S T:Nat→Prop} (h:Qo zs S) (g:Qo zs T):∃ i,i<zs.length∧S i∧T i:=by
 obtain ⟨a,a1,a2,a3⟩:=h
 obtain ⟨b,b1,b2,b3⟩:=g
 have hm:=Go.Proofs.YtaehdgemkafinaaGreatDoor.meet a1 b1 a2 b2
 have ha:=lt128 a1
 have hb:=lt128 b1
 obtain ⟨-,p1,p2⟩:=errS_zero a1
 obtain ⟨m,rfl⟩:=Int.eq_ofNat_of_zero_le ha.1
 obtain ⟨l,rfl⟩:=Int.eq_ofNat_of_zero_le hb.1
 rw [bits_and_nat m l (by omega) (by omega)] at hm
 have hne:m &&& l≠0:=by
  intro e
  rw [e] at hm
  cases hm
 obtain ⟨k,hk⟩:=Nat.exists_testBit_of_ne_zero hne
 rw [Nat.testBit_and,Bool.and_eq_true] at hk
 rw [pow_nat] at p2
 have hm2:m<2 ^ zs.length:=by omega
 have hkn:k<zs.length:=by
  refine Nat.lt_of_not_le fun hle=>?_
  have h1:m<2 ^ k:=Nat.lt_of_lt_of_le hm2 (Nat.pow_le_pow_right (by decide) hle)
  rw [Nat.testBit_lt_two_pow h1] at hk
  cases hk.1
 exact ⟨k,hkn,a3 k hkn (by unfold bit; rw [Int.toNat_natCast]; exact hk.1),b3 k hkn (by unfold bit; rw [Int.toNat_natCast]; exact hk.2)⟩
def Dec2 (zs:List Int) (g:Gh):Prop:=∃ a,g.val a=4∧Qo zs fun i=>g.acc i a
def Dec3 (zs:List Int) (g:Gh):Prop:=(∃ a,g.val a=5∧Qo zs fun i=>g.acc i a) ∨ ∃ i,i<zs.length∧g.no i
structure Co (zs:List Int) (s:Nat→St) (g:Gh):Prop where
 av:∀ i a,g.acc i a→g.val a≠0
 ap:∀ i a,i<zs.length→g.acc i a→a≤(s i).pr
 vi:∀ a,g.val a=0 ∨ g.val a=4 ∨ g.val a=5
 v0:g.val 0≠5
 ow:∀ a,g.val a≠0→0<a→a≤(s (a % zs.length)).pr
 bg:∀ a,g.val a≠0→0<a→Qo zs fun i=>a≤(s i).pr
 px:∀ a b,b<a→g.val a≠0→g.val b≠0→g.val a≠g.val b→Qo zs fun i=>b<(s i).pr∧¬ g.acc i b
 s4:∀ i,i<zs.length→((s i).ph=4 ∨ (s i).ph=5)→g.val (s i).at_=(s i).ph∧∀ b,g.acc i b→b≤(s i).at_
 s0:∀ i,i<zs.length→((s i).ph=0 ∨ (s i).ph=1)→∀ b,¬ g.acc i b
 s2:∀ i,i<zs.length→(s i).ph=2→Dec2 zs g
 s3:∀ i,i<zs.length→(s i).ph=3→Dec3 zs g
 al:∀ a,g.val a=4→∀ i,i<zs.length→(s i).ph≠0
 nv:∀ i,i<zs.length→g.no i→(s i).ph=3∧∀ a,g.val a≠4
theorem Co.split {zs:List Int} {s:Nat→St} {g:Gh} (h:Co zs s g) (h2:Dec2 zs g) (h3:Dec3 zs g):False:=by
 obtain ⟨a,ha,hq⟩:=h2
 rcases h3 with ⟨b,hb,hr⟩|⟨i,hi,hn⟩
 ·rcases Nat.lt_trichotomy a b with hlt|rfl|hlt
  ·obtain ⟨i,-,h1,-,h4⟩:=Qo.meet hq (h.px b a hlt (by omega) (by omega) (by omega))
   exact h4 h1
  ·omega
  ·obtain ⟨i,-,h1,-,h4⟩:=Qo.meet hr (h.px a b hlt (by omega) (by omega) (by omega))
   exact h4 h1
 ·exact (h.nv i hi hn).2 a ha
theorem Co.zero {zs:List Int} {s:Nat→St} (hs:∀ i,i<zs.length→(s i).ph=0):Co zs s ⟨fun _ _=>False,fun _=>0,fun _=>False⟩ where
 av:=fun _ _ h=>h.elim
 ap:=fun _ _ _ h=>h.elim
 vi:=fun _=>.inl rfl
 v0:=by decide
 ow:=fun _ h=>(h rfl).elim
 bg:=fun _ h=>(h rfl).elim
 px:=fun _ _ _ h=>(h rfl).elim
 s4:=fun i hi h=>by have:=hs i hi; omega
 s0:=fun _ _ _ _ h=>h
 s2:=fun i hi h=>by have:=hs i hi; omega
 s3:=fun i hi h=>by have:=hs i hi; omega
 al:=fun _ h=>by cases h
 nv:=fun _ _ h=>h.elim
structure Gr (zs:List Int) (s:Nat→St) (g:Gh) (s':Nat→St) (g':Gh):Prop where
 pr:∀ i,(s i).pr≤(s' i).pr
 ph:∀ i,i<zs.length→(s i).ph≠0→(s' i).ph≠0
 va:∀ a,g.val a≠0→g'.val a=g.val a
 ac:∀ i a,g.acc i a→g'.acc i a
 an:∀ i a,i<zs.length→g'.acc i a→g.acc i a ∨ (s i).pr≤a
 no:∀ i,g.no i→g'.no i
 nn:∀ i,i<zs.length→g'.no i→g.no i ∨ (s i).ph=0
theorem Gr.refl (zs:List Int) (s:Nat→St) (g:Gh):Gr zs s g s g:=⟨fun _=>Nat.le_refl _,fun _ _ h=>h,fun _ _=>rfl,fun _ _ h=>h,fun _ _ _ h=>.inl h,fun _ h=>h,fun _ _ h=>.inl h⟩
section
variable {zs:List Int} {s s':Nat→St} {g g':Gh}
theorem Dec2.grow (h:Dec2 zs g) (k:Gr zs s g s' g'):Dec2 zs g':=by
 obtain ⟨a,h1,h2⟩:=h
 exact ⟨a,by rw [k.va a (by omega)]; exact h1,h2.mono fun i _ hi=>k.ac i a hi⟩
theorem Dec3.grow (h:Dec3 zs g) (k:Gr zs s g s' g'):Dec3 zs g':=by
 rcases h with ⟨a,h1,h2⟩|⟨i,h1,h2⟩
 ·exact .inl ⟨a,by rw [k.va a (by omega)]; exact h1,h2.mono fun i _ hi=>k.ac i a hi⟩
 ·exact .inr ⟨i,h1,k.no i h2⟩
structure Told (zs:List Int) (s:Nat→St) (g:Gh) (i a:Nat) (t:S3):Prop where
 pr:a≤(s i).pr
 a0:0≤t.a
 d2:t.p=2→Dec2 zs g
 d3:t.p=3→Dec3 zs g
 va:(t.p=4 ∨ t.p=5)→(g.val t.a.toNat:Int)=t.p
 ac:t.p≠2→t.p≠3→∀ b,b<a→g.acc i b→(t.p=4 ∨ t.p=5)∧(b:Int)≤t.a
theorem Told.grow {i a:Nat} {t:S3} (h:Told zs s g i a t) (hi:i<zs.length) (k:Gr zs s g s' g'):Told zs s' g' i a t where
 pr:=Nat.le_trans h.pr (k.pr i)
 a0:=h.a0
 d2:=fun e=>(h.d2 e).grow k
 d3:=fun e=>(h.d3 e).grow k
 va:=fun e=>by have:=h.va e; rw [k.va _ (by omega)]; exact this
 ac:=fun e2 e3 b hb hac=>by
  rcases k.an i b hi hac with h1|h1
  ·exact h.ac e2 e3 b hb h1
  ·have:=h.pr; omega
structure Fr (zs:List Int) (s:Nat→St) (g:Gh) (f:F9):Prop where
 vy:f.k=2→f.y=true→(s f.f.toNat).ph≠0∧¬ g.no f.f.toNat
 vn:f.k=2→f.y=false→Dec3 zs g
 te:f.k=4→f.y=true→Told zs s g f.f.toNat f.a.toNat ⟨f.ph,f.pr,f.pa⟩
 pe:f.k=5→(f.ph=4 ∨ f.ph=5)∧(g.val f.a.toNat:Int)=f.ph
 ak:f.k=6→f.y=true→g.acc f.f.toNat f.a.toNat
 d2:f.k=7→f.ph=2→Dec2 zs g
 d3:f.k=7→f.ph=3→Dec3 zs g
theorem Fr.grow {f:F9} (h:Fr zs s g f) (hf:f.f.toNat<zs.length) (k:Gr zs s g s' g'):Fr zs s' g' f where
 vy:=fun e y=>by
  obtain ⟨h1,h2⟩:=h.vy e y
  refine ⟨k.ph _ hf h1,fun hn=>?_⟩
  rcases k.nn _ hf hn with h3|h3
  ·exact h2 h3
  ·exact h1 h3
 vn:=fun e y=>(h.vn e y).grow k
 te:=fun e y=>(h.te e y).grow hf k
 pe:=fun e=>by obtain ⟨h1,h2⟩:=h.pe e; exact ⟨h1,by rw [k.va _ (by omega)]; exact h2⟩
 ak:=fun e y=>k.ac _ _ (h.ak e y)
 d2:=fun e p=>(h.d2 e p).grow k
 d3:=fun e p=>(h.d3 e p).grow k
structure Le (zs:List Int) (s:Nat→St) (g:Gh) (id:Nat) (att:Int) (P:PL):Prop where
 a0:0≤att
 vo:P.stt=0→att=0→∀ i,i<zs.length→bit P.ans i=true→(s i).ph≠0∧¬ g.no i
 tv:P.stt=0→0<att→g.val att.toNat=0
 tt:P.stt=0→0<att→∀ i,i<zs.length→bit P.ans i=true→∃ t,P.told[i]? = some t∧Told zs s g i att.toNat t
 t0:P.stt=0→0<att→∀ i t,P.told[i]? = some t→t.p=0 ∨ (i<zs.length∧bit P.ans i=true)
 ow:0<att→att.toNat % zs.length=id∧att.toNat≤(s id).pr
 pv:P.stt=1→(P.prep=4 ∨ P.prep=5)∧(g.val att.toNat:Int)=P.prep
 pa:P.stt=1→∀ i,i<zs.length→bit P.ans i=true→g.acc i att.toNat
theorem Le.grow {id:Nat} {att:Int} {P:PL} (h:Le zs s g id att P) (k:Gr zs s g s' g') (hv:P.stt=0→0<att→g'.val att.toNat=0):Le zs s' g' id att P where
 a0:=h.a0
 vo:=fun e e2 i hi hb=>by
  obtain ⟨h1,h2⟩:=h.vo e e2 i hi hb
  refine ⟨k.ph _ hi h1,fun hn=>?_⟩
  rcases k.nn _ hi hn with h3|h3
  ·exact h2 h3
  ·exact h1 h3
 tv:=hv
 tt:=fun e e2 i hi hb=>by obtain ⟨t,h1,h2⟩:=h.tt e e2 i hi hb; exact ⟨t,h1,h2.grow hi k⟩
 t0:=h.t0
 ow:=fun e=>⟨(h.ow e).1,Nat.le_trans (h.ow e).2 (k.pr id)⟩
 pv:=fun e=>by obtain ⟨h1,h2⟩:=h.pv e; exact ⟨h1,by rw [k.va _ (by omega)]; exact h2⟩
 pa:=fun e i hi hb=>k.ac _ _ (h.pa e i hi hb)
def upd (s:Nat→St) (i:Nat) (t:St):Nat→St:=fun k=>if k=i then t else s k
theorem upd_at (s:Nat→St) (i:Nat) (t:St):upd s i t i=t:=if_pos rfl
theorem upd_ne (s:Nat→St) (i:Nat) (t:St) {k:Nat} (h:k≠i):upd s i t k=s k:=if_neg h
def ghS (g:Gh) (i:Nat) (A:Nat→Prop) (N:Prop):Gh:=⟨fun j a=>g.acc j a ∨ (j=i∧A a),g.val,fun j=>g.no j ∨ (j=i∧N)⟩
theorem co_site (h:Co zs s g) {i:Nat} (hi:i<zs.length) (t:St) (A:Nat→Prop) (N:Prop) (hpr:(s i).pr≤t.pr) (hA:∀ a,A a→g.val a≠0∧(s i).pr≤a∧a≤t.pr)
  (hN:N→(s i).ph=0∧t.ph=3) (hph:(s i).ph≠0→t.ph≠0) (hfin:(s i).ph=3→t.ph=3)
  (t4:(t.ph=4 ∨ t.ph=5)→g.val t.at_=t.ph∧∀ b,(g.acc i b ∨ A b)→b≤t.at_) (t0:(t.ph=0 ∨ t.ph=1)→∀ b,¬ (g.acc i b ∨ A b)) (t2:t.ph=2→Dec2 zs g) (t3:t.ph=3→Dec3 zs g ∨ N) :
  Co zs (upd s i t) (ghS g i A N)∧Gr zs s g (upd s i t) (ghS g i A N):=by
 have hupr:∀ k,(s k).pr≤(upd s i t k).pr:=fun k=>by
  by_cases e:k=i
  ·subst e; rw [upd_at]; exact hpr
  ·rw [upd_ne _ _ _ e]; exact Nat.le_refl _
 have hG:Gr zs s g (upd s i t) (ghS g i A N):=by
  refine ⟨hupr,fun k hk hp=>?_,fun _ _=>rfl,fun _ _ x=>.inl x,fun k a hk x=>?_,fun _ x=>.inl x,fun k hk x=>?_⟩
  ·by_cases e:k=i
   ·subst e; rw [upd_at]; exact hph hp
   ·rw [upd_ne _ _ _ e]; exact hp
  ·rcases x with x|⟨rfl,x⟩
   ·exact .inl x
   ·exact .inr (hA a x).2.1
  ·rcases x with x|⟨rfl,x⟩
   ·exact .inl x
   ·exact .inr (hN x).1
 refine ⟨?_,hG⟩
 refine ⟨fun k a x=>?_,fun k a hk x=>?_,h.vi,h.v0,fun a ha h0=>Nat.le_trans (h.ow a ha h0) (hupr _),fun a ha h0=>(h.bg a ha h0).mono fun k _ x=>Nat.le_trans x (hupr k),fun a b hab ha hb hne=>?_,fun k hk x=>?_,fun k hk x b=>?_,fun k hk x=>?_,fun k hk x=>?_,fun a ha k hk=>?_,fun k hk x=>?_⟩
 ·rcases x with x|⟨-,x⟩
  ·exact h.av k a x
  ·exact (hA a x).1
 ·rcases x with x|⟨rfl,x⟩
  ·exact Nat.le_trans (h.ap k a hk x) (hupr k)
  ·rw [upd_at]; exact (hA a x).2.2
 ·refine (h.px a b hab ha hb hne).mono fun k _ x=>⟨Nat.lt_of_lt_of_le x.1 (hupr k),?_⟩
  rintro (y|⟨rfl,y⟩)
  ·exact x.2 y
  ·have:=(hA b y).2.1; omega
 ·by_cases e:k=i
  ·subst e
   rw [upd_at] at x ⊢
   refine ⟨(t4 x).1,?_⟩
   rintro b (y|⟨-,y⟩)
   ·exact (t4 x).2 b (.inl y)
   ·exact (t4 x).2 b (.inr y)
  ·rw [upd_ne _ _ _ e] at x ⊢
   refine ⟨(h.s4 k hk x).1,?_⟩
   rintro b (y|⟨y,-⟩)
   ·exact (h.s4 k hk x).2 b y
   ·exact (e y).elim
 ·by_cases e:k=i
  ·subst e
   rw [upd_at] at x
   rintro (y|⟨-,y⟩)
   ·exact t0 x b (.inl y)
   ·exact t0 x b (.inr y)
  ·rw [upd_ne _ _ _ e] at x
   rintro (y|⟨y,-⟩)
   ·exact h.s0 k hk x b y
   ·exact (e y).elim
 ·by_cases e:k=i
  ·subst e; rw [upd_at] at x; exact (t2 x).grow hG
  ·rw [upd_ne _ _ _ e] at x; exact (h.s2 k hk x).grow hG
 ·by_cases e:k=i
  ·subst e
   rw [upd_at] at x
   rcases t3 x with y|y
   ·exact y.grow hG
   ·exact .inr ⟨k,hi,.inr ⟨rfl,y⟩⟩
  ·rw [upd_ne _ _ _ e] at x; exact (h.s3 k hk x).grow hG
 ·exact hG.ph k hk (h.al a ha k hk)
 ·by_cases e:k=i
  ·subst e
   rcases x with x|⟨-,x⟩
   ·obtain ⟨x1,x2⟩:=h.nv k hk x
    refine ⟨?_,x2⟩
    rw [upd_at]
    exact hfin x1
   ·refine ⟨by rw [upd_at]; exact (hN x).2,fun a ha=>h.al a ha k hk (hN x).1⟩
  ·rcases x with x|⟨x,-⟩
   ·rw [upd_ne _ _ _ e]; exact h.nv k hk x
   ·exact (e x).elim
theorem ghS_id (g:Gh) (i:Nat):ghS g i (fun _=>False) False=g:=by
 obtain ⟨a,v,n⟩:=g
 unfold ghS
 simp
def ansF (id:Nat) (f:F9) (o:HOut):F9:=⟨id,f.f,f.d,o.k,f.a,o.yes,o.st.ph,o.st.pr,o.st.at_⟩
theorem same_site (s:Nat→St) (i:Nat):upd s i (s i)=s:=by
 funext k
 unfold upd
 split
 ·rename_i e; rw [e]
 ·rfl
theorem hear_co (h:Co zs s g) {i:Nat} (hi:i<zs.length) (hg:(s i).good) (ref:Bool) (f:F9) (hf:Fr zs s g f) (h5:0≤f.ph) :
  ∃ g',Co zs (upd s i (hearL (s i) ref f.k.toNat f.a.toNat f.ph.toNat).st) g'∧Gr zs s g (upd s i (hearL (s i) ref f.k.toNat f.a.toNat f.ph.toNat).st) g'∧g'.val=g.val ∧
   ((hearL (s i) ref f.k.toNat f.a.toNat f.ph.toNat).k≠0→Fr zs (upd s i (hearL (s i) ref f.k.toNat f.a.toNat f.ph.toNat).st) g' (ansF i f (hearL (s i) ref f.k.toNat f.a.toNat f.ph.toNat))):=by
 have hgood:=hg
 obtain ⟨g1,g2,g3⟩:=hg
 have same:∀ o:HOut,o.st=s i→(o.k≠0→Fr zs s g (ansF i f o))→∃ g',Co zs (upd s i o.st) g'∧Gr zs s g (upd s i o.st) g'∧g'.val=g.val∧(o.k≠0→Fr zs (upd s i o.st) g' (ansF i f o)):=by
  intro o e hFr
  rw [e,same_site s i]
  exact ⟨g,h,Gr.refl _ _ _,rfl,hFr⟩
 unfold hearL
 split
 ·-- a vote
  unfold askP
  by_cases e0:(s i).ph=0
  ·rw [if_pos e0]
   cases ref with
   | true =>
    rw [if_pos rfl]
    have hc:=co_site h hi ⟨3,(s i).pr,(s i).at_⟩ (fun _=>False) True (Nat.le_refl _) (fun _ x=>x.elim) (fun _=>⟨e0,rfl⟩) (fun x=>absurd e0 x) (fun x=>rfl) (fun x=>by simp at x) (fun x=>by simp at x) (fun x=>by simp at x) (fun _=>.inr trivial)
    refine ⟨_,hc.1,hc.2,rfl,fun _=>⟨fun _ y=>(by simp [ansF] at y),fun _ _=>.inr ⟨i,hi,.inr ⟨rfl,trivial⟩⟩,fun k=>(by simp [ansF] at k),fun k=>(by simp [ansF] at k),fun k=>(by simp [ansF] at k),fun k=>(by simp [ansF] at k),fun k=>(by simp [ansF] at k)⟩⟩
   | false =>
    rw [if_neg (by decide)]
    have hc:=co_site h hi ⟨1,(s i).pr,(s i).at_⟩ (fun _=>False) False (Nat.le_refl _) (fun _ x=>x.elim) (fun x=>x.elim) (fun x=>absurd e0 x) (fun x=>by omega) (fun x=>by simp at x) (fun _ b x=>h.s0 i hi (.inl e0) b (x.elim id False.elim)) (fun x=>by simp at x) (fun x=>by simp at x)
    rw [ghS_id] at hc
    refine ⟨_,hc.1,hc.2,rfl,fun _=>⟨fun _ _=>⟨?_,?_⟩,fun _ y=>(by simp [ansF] at y),fun k=>(by simp [ansF] at k),fun k=>(by simp [ansF] at k),fun k=>(by simp [ansF] at k),fun k=>(by simp [ansF] at k),fun k=>(by simp [ansF] at k)⟩⟩
    ·show (upd s i _ ((i:Int).toNat)).ph≠0
     rw [Int.toNat_natCast,upd_at]; exact Nat.one_ne_zero
    ·show ¬ g.no ((i:Int).toNat)
     rw [Int.toNat_natCast]
     intro hn
     have:=(h.nv i hi hn).1
     omega
  ·rw [if_neg e0]
   refine same ⟨⟨(s i).ph,(s i).pr,(s i).at_⟩,2,decide ((s i).ph≠3)⟩ rfl fun _=>⟨fun _ y=>⟨?_,?_⟩,fun _ y=>?_,fun k=>(by simp [ansF] at k),fun k=>(by simp [ansF] at k),fun k=>(by simp [ansF] at k),fun k=>(by simp [ansF] at k),fun k=>(by simp [ansF] at k)⟩
   ·show (s ((i:Int).toNat)).ph≠0
    rw [Int.toNat_natCast]; exact e0
   ·show ¬ g.no ((i:Int).toNat)
    rw [Int.toNat_natCast]
    intro hn
    have h1:=(h.nv i hi hn).1
    have h2:decide ((s i).ph≠3)=true:=y
    exact of_decide_eq_true h2 h1
   ·have h2:decide ((s i).ph≠3)=false:=y
    have h3:=of_decide_eq_false h2
    exact h.s3 i hi (by omega)
 ·split
  ·-- a promise
   split
   ·rename_i hlt
    have hc:=co_site h hi ⟨(s i).ph,f.a.toNat,(s i).at_⟩ (fun _=>False) False (Nat.le_of_lt hlt) (fun _ x=>x.elim) (fun x=>x.elim) (fun x=>x) (fun x=>x) (fun x=>⟨(h.s4 i hi x).1,fun b y=>(h.s4 i hi x).2 b (y.elim id False.elim)⟩) (fun x b y=>h.s0 i hi x b (y.elim id False.elim)) (fun x=>h.s2 i hi x) (fun x=>.inl (h.s3 i hi x))
    rw [ghS_id] at hc
    refine ⟨_,hc.1,hc.2,rfl,fun _=>⟨fun k=>(by simp [ansF] at k),fun k=>(by simp [ansF] at k),fun _ _=>?_,fun k=>(by simp [ansF] at k),fun k=>(by simp [ansF] at k),fun k=>(by simp [ansF] at k),fun k=>(by simp [ansF] at k)⟩⟩
    show Told zs (upd s i ⟨(s i).ph,f.a.toNat,(s i).at_⟩) g ((i:Int).toNat) f.a.toNat ⟨((s i).ph:Int),(f.a.toNat:Int),((s i).at_:Int)⟩
    rw [Int.toNat_natCast]
    refine ⟨by rw [upd_at]; exact Nat.le_refl _,Int.natCast_nonneg _,fun e=>h.s2 i hi (by simp only at e; omega),fun e=>h.s3 i hi (by simp only at e; omega),fun e=>?_,fun e2 e3 b hb hac=>?_⟩
    ·have e':(s i).ph=4 ∨ (s i).ph=5:=by simp only at e; omega
     simp only [Int.toNat_natCast]
     rw [(h.s4 i hi e').1]
    ·simp only at e2 e3
     have hnot:¬ ((s i).ph=0 ∨ (s i).ph=1):=fun x=>h.s0 i hi x b hac
     have e':(s i).ph=4 ∨ (s i).ph=5:=by omega
     refine ⟨by simp only; omega,?_⟩
     have:=(h.s4 i hi e').2 b hac
     simp only
     omega
   ·exact same ⟨s i,4,false⟩ rfl fun _=>⟨fun k=>(by simp [ansF] at k),fun k=>(by simp [ansF] at k),fun _ y=>(by simp [ansF] at y),fun k=>(by simp [ansF] at k),fun k=>(by simp [ansF] at k),fun k=>(by simp [ansF] at k),fun k=>(by simp [ansF] at k)⟩
  ·split
   ·rename_i hk
    split
    ·rename_i hp
     split
     ·rename_i hc
      obtain ⟨hpr,hf2⟩:=hc
      have hf3:=of_decide_eq_false hf2
      obtain ⟨-,hv⟩:=hf.pe (by omega)
      have hv2:g.val f.a.toNat=f.ph.toNat:=by omega
      have hco:=co_site h hi ⟨f.ph.toNat,f.a.toNat,f.a.toNat⟩ (fun a=>a=f.a.toNat) False hpr (fun a x=>by subst x; exact ⟨by omega,hpr,Nat.le_refl _⟩) (fun x=>x.elim) (fun _=>by show f.ph.toNat≠0; omega) (fun x=>by omega)
       (fun _=>⟨hv2,fun b y=>by
        rcases y with y|y
        ·exact Nat.le_trans (h.ap i b hi y) hpr
        ·exact Nat.le_of_eq y⟩) (fun x=>by simp only at x; omega) (fun x=>by simp only at x; omega) (fun x=>by simp only at x; omega)
      refine ⟨_,hco.1,hco.2,rfl,fun _=>⟨fun k=>(by simp [ansF] at k),fun k=>(by simp [ansF] at k),fun k=>(by simp [ansF] at k),fun k=>(by simp [ansF] at k),fun _ _=>?_,fun k=>(by simp [ansF] at k),fun k=>(by simp [ansF] at k)⟩⟩
      show g.acc ((i:Int).toNat) f.a.toNat ∨ ((i:Int).toNat=i∧f.a.toNat=f.a.toNat)
      exact .inr ⟨Int.toNat_natCast _,rfl⟩
     ·exact same ⟨s i,6,false⟩ rfl fun _=>⟨fun k=>(by simp [ansF] at k),fun k=>(by simp [ansF] at k),fun k=>(by simp [ansF] at k),fun k=>(by simp [ansF] at k),fun _ y=>(by simp [ansF] at y),fun k=>(by simp [ansF] at k),fun k=>(by simp [ansF] at k)⟩
    ·exact same ⟨s i,0,false⟩ rfl fun e=>absurd rfl e
   ·split
    ·rename_i hk
     split
     ·rename_i hc
      have e1:=of_decide_eq_true hc.1
      have e2:=of_decide_eq_false hc.2
      have hco:=co_site h hi ⟨f.ph.toNat,(s i).pr,(s i).at_⟩ (fun _=>False) False (Nat.le_refl _) (fun _ x=>x.elim) (fun x=>x.elim) (fun _=>by show f.ph.toNat≠0; omega) (fun x=>by omega) (fun x=>by simp only at x; omega) (fun x=>by simp only at x; omega) (fun x=>hf.d2 (by omega) (by simp only at x; omega)) (fun x=>.inl (hf.d3 (by omega) (by simp only at x; omega)))
      rw [ghS_id] at hco
      exact ⟨_,hco.1,hco.2,rfl,fun e=>absurd rfl e⟩
     ·exact same ⟨s i,0,false⟩ rfl fun e=>absurd rfl e
    ·exact same ⟨s i,0,false⟩ rfl fun e=>absurd rfl e
end
end Go.Proofs.YtaehdgemkafinaaGreatDoor
