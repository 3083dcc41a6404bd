/-
  On the way to WStepsProof, WCommitsProof, WAgreesProof, WEndsProof, WWaitsProof, JTampersProof, PAgreesProof, PAgainProof: P5 P8P KA KS S3.
-/
import Derived.Test.YtadhpkopkkjmfaaGreatDoorBz5
import Derived.Test.YtadhpkopkkjmfaaGreatDoorBz4
set_option maxHeartbeats 8000000
set_option maxRecDepth 100000
namespace Go.Proofs.YtadhpkopkkjmfaaGreatDoor
open Go.RowKit
theorem pwrite_far (A:Nat→Addr) (p q:Nat) (B s:ByteArray) (a:Nat) (l:Int) (w:World) (h:Pl w p q B l) (hE:HeldE w A) (hB:B.size≤1000) (ha:a+s.size≤B.size) (hl:(s.size:Int)≤l) (hl2:l≤9223372036854775807) :
  Calls Tryz.prog 210 #[.pointer (some ⟨p,0,none⟩),.int .i64 a,.string s] w fun e w'=>e=.returned .nilIface∧Pl w' p q (putB B a s s.size) (l - s.size)∧Kept (In2 p q) w w':=by
 have H:=hid h
 have HE:=hid hE
 have HL:Hid (¬ l=-2):=by unfold Hid; omega
 clear h hE
 go_enter Tryz.func210,Tryz.ntmps210
 go_wp2_with (go_at_call 166; refine (pcheck_in A p q B _ _ _ _ H.out HE.out hB (by omega)).mono ?_; rw [if_neg HL.out]; rintro e wx ⟨rfl,hx⟩; subst wx)
 go_loopw [19] (fun i wr=>∃ k:Nat,k≤s.size∧i=.int .i64 k∧Pl wr p q (putB B a s k) (l - k)∧Kept (In2 p q) w wr) (fun i _=>s.size - (intOf i).toNat)
 case atStart=>exact ⟨0,Nat.zero_le _,rfl,by rw [putB_zero]; simpa using H.out,Kept.refl _ _⟩
 case round =>
  obtain ⟨k,hk,rfl,hP,hK⟩:=hrel
  have HP:=hid hP
  have HK:=hid hK
  clear hP hK
  by_cases hlt:k<s.size
  ·go_wp2_with (go_at_call 214; refine (pspend_pos p q _ (l - k) _ HP.out (by omega) (by omega)).mono ?_; rintro e w1 ⟨rfl,hP1,hK1⟩; have HP1:=hid hP1; have HK1:=hid hK1; clear hP1 hK1; have c0:=HP1.out.bytes (by omega) (by omega); have cq:=HP1.out.cq (j:=a+k) (by rw [size_putB (by omega) (by omega)]; omega); have fq:=HP1.out.fq (a+k))
   go_region
   all_goals go_wp2
   all_goals go_roundw
   case rel =>
    refine ⟨k+1,by omega,by go_num,?_,((HK.out.trans HK1.out).setCell (.inr rfl) _).drew⟩
    rw [show l - ((k+1:Nat):Int)=l - k - 1 by omega]
    exact (HP1.out.put (by omega) hlt).drew
   case measure=>simp [intOf]; omega
  ·obtain rfl:k=s.size:=by omega
   go_wp2
   go_ret
   exact ⟨rfl,HP.out,HK.out⟩
theorem pwrite_near (A:Nat→Addr) (p q:Nat) (B s:ByteArray) (a l:Nat) (w:World) (h:Pl w p q B l) (hE:HeldE w A) (hB:B.size≤1000) (ha:a+s.size≤B.size) (hl:l<s.size) (hp:5≠p) (hq:5≠q) :
  Calls Tryz.prog 210 #[.pointer (some ⟨p,0,none⟩),.int .i64 a,.string s] w fun e w'=>e=.returned (.iface 276 (.pointer (some (A 5))))∧Pl w' p q (putB B a s l) (-2)∧Kept (In2 p q) w w':=by
 have H:=hid h
 have HE:=hid hE
 have HL:Hid (¬ (l:Int)=-2):=by unfold Hid; omega
 have HG:Hid (∀ wx,Kept (In2 p q) w wx→wx.cell? ⟨5,0,none⟩=some (.iface 276 (.pointer (some (A 5))))):=fun wx hk=>by
  rw [World.cell?_of_block (w:=w) (hk.block 5 (cell_lt hE.g5) (fun e=>e.elim hp hq))]
  exact hE.g5
 clear h hE
 go_enter Tryz.func210,Tryz.ntmps210
 go_wp2_with (go_at_call 166; refine (pcheck_in A p q B _ _ _ _ H.out HE.out hB (by omega)).mono ?_; rw [if_neg HL.out]; rintro e wx ⟨rfl,hx⟩; subst wx)
 go_loopw [19] (fun i wr=>∃ k:Nat,k≤l∧i=.int .i64 k∧Pl wr p q (putB B a s k) (l - k)∧Kept (In2 p q) w wr) (fun i _=>l - (intOf i).toNat)
 case atStart=>exact ⟨0,Nat.zero_le _,rfl,by rw [putB_zero]; simpa using H.out,Kept.refl _ _⟩
 case round =>
  obtain ⟨k,hk,rfl,hP,hK⟩:=hrel
  have HP:=hid hP
  have HK:=hid hK
  clear hP hK
  have hks:k<s.size:=by omega
  by_cases hlt:k<l
  ·go_wp2_with (go_at_call 214; refine (pspend_pos p q _ (l - k) _ HP.out (by omega) (by omega)).mono ?_; rintro e w1 ⟨rfl,hP1,hK1⟩; have HP1:=hid hP1; have HK1:=hid hK1; clear hP1 hK1; have c0:=HP1.out.bytes (by omega) (by omega); have cq:=HP1.out.cq (j:=a+k) (by rw [size_putB (by omega) (by omega)]; omega); have fq:=HP1.out.fq (a+k))
   go_region
   all_goals go_wp2
   all_goals go_roundw
   case rel =>
    refine ⟨k+1,by omega,by go_num,?_,((HK.out.trans HK1.out).setCell (.inr rfl) _).drew⟩
    rw [show (l:Int) - ((k+1:Nat):Int)=l - k - 1 by omega]
    exact (HP1.out.put (by omega) hks).drew
   case measure=>simp [intOf]; omega
  ·obtain rfl:k=l:=by omega
   have HP0:Hid (Pl wr p q (putB B a s k) 0):=by have:=HP.out; rw [show (k:Int) - k=0 by omega] at this; exact this
   go_wp2_with (go_at_call 214; refine (pspend_zero p q _ _ HP0.out).mono ?_; rintro e w1 ⟨rfl,hP1,hK1⟩; have g5:=HG.out _ (HK.out.trans hK1); have HP1:=hid hP1; have HK1:=hid hK1; clear hP1 hK1)
   go_ret
   exact ⟨rfl,HP1.out,HK.out.trans HK1.out⟩
theorem pread_off (A:Nat→Addr) (p q:Nat) (B:ByteArray) (a n:Int) (w:World) (h:Pl w p q B (-2)) (hE:HeldE w A) (hB:B.size≤1000) (hb:¬ (a<0 ∨ n<0 ∨ (B.size:Int) - n<a)) :
  Calls Tryz.prog 135 #[.pointer (some ⟨p,0,none⟩),.int .i64 a,.int .i64 n] w fun e w'=>e=.returned (.tuple #[.string ⟨#[]⟩,.iface 276 (.pointer (some (A 5)))])∧w'=w:=by
 have H:=hid h
 have HE:=hid hE
 have HB:=hid hb
 clear h hE hb
 go_enter Tryz.func135,Tryz.ntmps135
 go_wp2_with (go_at_call 166; refine (pcheck_in A p q B _ _ _ _ H.out HE.out hB HB.out).mono ?_; rw [if_pos rfl]; rintro e w' ⟨rfl,rfl⟩)
 go_ret2
 exact ⟨rfl,rfl⟩
theorem pread_ok (A:Nat→Addr) (p q:Nat) (B:ByteArray) (l:Int) (a n:Nat) (w:World) (h:Pl w p q B l) (hE:HeldE w A) (hB:B.size≤1000) (hl:¬ l=-2) (hb:a+n≤B.size) :
  Calls Tryz.prog 135 #[.pointer (some ⟨p,0,none⟩),.int .i64 a,.int .i64 n] w fun e w'=>e=.returned (.tuple #[.string (B.extract a (a+n)),.nilIface])∧w'=w:=by
 have H:=hid h
 have HE:=hid hE
 have HL:=hid hl
 have c0:=h.c0
 by_cases hc:a<B.size
 ·have hcv:=conv_cut h a n (B.size - a) hb
  clear h hE hl
  go_enter Tryz.func135,Tryz.ntmps135
  go_wp2_with (go_at_call 166; refine (pcheck_in A p q B _ _ _ _ H.out HE.out hB (by omega)).mono ?_; rw [if_neg HL.out]; rintro e w' ⟨rfl,rfl⟩)
  go_ret2
  exact ⟨rfl,rfl⟩
 ·obtain rfl:n=0:=by omega
  have hcv:=conv_cut h 0 0 0 (by omega)
  have e1:B.extract 0 (0+0)=ByteArray.empty:=by
   apply ba_ext; rw [ext_list]; simp
  have e2:B.extract a (a+0)=ByteArray.empty:=by
   apply ba_ext; rw [ext_list]; simp
  rw [e1] at hcv
  rw [e2]
  clear h hE hl e1 e2
  go_enter Tryz.func135,Tryz.ntmps135
  go_wp2_with (go_at_call 166; refine (pcheck_in A p q B _ _ _ _ H.out HE.out hB (by omega)).mono ?_; rw [if_neg HL.out]; rintro e w' ⟨rfl,rfl⟩)
  go_ret2
  exact ⟨rfl,rfl⟩
def Lk (l:Int) (off:Bool) (l':Int) (cuts:Bool):Prop :=
 (off=true∧l=-2) ∨ (off=false∧cuts=false∧l=-1) ∨ (off=false∧cuts=true∧l=l'∧0≤l∧l≤9223372036854775807)
theorem Lk.le {l:Int} {off:Bool} {l':Int} {cuts:Bool} (h:Lk l off l' cuts):l≤9223372036854775807:=by
 rcases h with ⟨_,h⟩|⟨_,_,h⟩|⟨_,_,_,_,h⟩ <;> omega
theorem Lk.power {l:Int} {off:Bool} {l':Int} {cuts:Bool} (h:Lk l off l' cuts):(l != -2)=!off:=by
 rcases h with ⟨rfl,rfl⟩|⟨rfl,_,rfl⟩|⟨rfl,_,_,h,_⟩
 ·rfl
 ·rfl
 ·simp; omega
abbrev wBad (B s:ByteArray) (a:Int):Prop:=a<0 ∨ (B.size:Int) - s.size<a
def wC (B s:ByteArray) (l a:Int):Nat:=if wBad B s a then 2 else if l=-2 then 6 else if 0≤l∧l<s.size then 6 else 0
def wB (B s:ByteArray) (l a:Int):ByteArray:=if wBad B s a then B else if l=-2 then B else if 0≤l∧l<s.size then putB B a.toNat s l.toNat else putB B a.toNat s s.size
def wL (B s:ByteArray) (l a:Int):Int:=if wBad B s a then l else if l=-2 then -2 else if 0≤l∧l<s.size then -2 else if l<0 then l else l - s.size
theorem wB_size (B s:ByteArray) (l a:Int):(wB B s l a).size=B.size:=by
 unfold wB
 split
 ·rfl
 ·rename_i h
  unfold wBad at h
  split
  ·rfl
  ·split
   ·rename_i h2; exact size_putB (by omega) (by omega)
   ·exact size_putB (by omega) (by omega)
theorem write_pl (A:Nat→Addr) (p q:Nat) (B s:ByteArray) (l a:Int) (w:World) (h:Pl w p q B l) (hE:HeldE w A) (hB:B.size≤1000) (hs:s.size≤1000) (h1:-2≤l) (h2:l≤9223372036854775807) (hp:5≠p) (hq:5≠q) :
  Calls Tryz.prog 210 #[.pointer (some ⟨p,0,none⟩),.int .i64 a,.string s] w fun e w'=>e=.returned (ev A (wC B s l a))∧Pl w' p q (wB B s l a) (wL B s l a)∧Kept (In2 p q) w w':=by
 by_cases hb:wBad B s a
 ·simp only [wC,wB,wL,if_pos hb]
  refine (pwrite_bound A p q B s l a w h hE hB hs hb).mono ?_
  rintro e w' ⟨rfl,rfl⟩
  exact ⟨rfl,h,Kept.refl _ _⟩
 ·by_cases hl:l=-2
  ·subst hl
   simp only [wC,wB,wL,if_neg hb,if_pos]
   refine (pwrite_off A p q B s a w h hE hB hs hb).mono ?_
   rintro e w' ⟨rfl,rfl⟩
   exact ⟨rfl,h,Kept.refl _ _⟩
  ·have hb':=hb
   unfold wBad at hb'
   obtain ⟨a',rfl⟩:∃ a':Nat,a=a':=⟨a.toNat,by omega⟩
   by_cases hn:0≤l∧l<s.size
   ·obtain ⟨l',rfl⟩:∃ l':Nat,l=l':=⟨l.toNat,by omega⟩
    simp only [wC,wB,wL,if_neg hb,if_neg hl,if_pos hn,Int.toNat_natCast]
    exact pwrite_near A p q B s a' l' w h hE hB (by omega) (by omega) hp hq
   ·simp only [wC,wB,wL,if_neg hb,if_neg hl,if_neg hn,Int.toNat_natCast]
    by_cases hl0:l<0
    ·rw [if_pos hl0]
     exact pwrite_free A p q B s a' l w h hE hB (by omega) hl0 hl
    ·rw [if_neg hl0]
     exact pwrite_far A p q B s a' l w h hE hB (by omega) (by omega) h2
def cC (l n:Int):Nat:=if n<0 then 2 else if l=-2 then 6 else 0
def cL (l n:Int):Int:=if n<0 then l else if l=-2 then l else n
theorem cC_le (l n:Int):cC l n≤9:=by
 unfold cC; repeat' split
 all_goals decide
theorem cut_pl (A:Nat→Addr) (p q:Nat) (B:ByteArray) (l n:Int) (w:World) (h:Pl w p q B l) (hE:HeldE w A) :
  Calls Tryz.prog 114 #[.pointer (some ⟨p,0,none⟩),.int .i64 n] w fun e w'=>e=.returned (ev A (cC l n))∧Pl w' p q B (cL l n)∧Kept (In2 p q) w w':=by
 by_cases hn:n<0
 ·simp only [cC,cL,if_pos hn]
  refine (pcut_bound A _ n w hE hn).mono ?_
  rintro e w' ⟨rfl,rfl⟩
  exact ⟨rfl,h,Kept.refl _ _⟩
 ·by_cases hl:l=-2
  ·subst hl
   simp only [cC,cL,if_neg hn,if_pos]
   refine (pcut_off A p q B n w h hE hn).mono ?_
   rintro e w' ⟨rfl,rfl⟩
   exact ⟨rfl,h,Kept.refl _ _⟩
  ·simp only [cC,cL,if_neg hn,if_neg hl]
   exact pcut_ok p q B l n w h hl hn
def rC (B:ByteArray) (l a n:Int):Nat:=if a<0 ∨ n<0 ∨ (B.size:Int) - n<a then 2 else if l=-2 then 6 else 0
theorem coded_ev (A:Nat→Addr) (c:Nat) (w:World) (hE:Held9 w A) (hc:c≤9) :
  Calls Tryz.prog 39 #[ev A c,.int .i64 c] w fun e w'=>e=.returned (.bool true)∧Below w.heap.size w w':=by
 match c,hc with
 | 0,_ =>
  refine (coded_nil 0 w).mono ?_
  rintro e w' ⟨rfl,rfl⟩
  exact ⟨rfl,Below.refl _ _⟩
 | c+1,hc =>
  refine (coded_at A c _ w hE (by omega)).mono ?_
  rintro e w' ⟨rfl,hb⟩
  refine ⟨?_,hb⟩
  have:((c:Int)+1 == ((c+1:Nat):Int))=true:=by simp
  rw [this]
theorem between_is (n l m:Int) (b:Bool) (w:World) (h:decide (l≤n∧n≤m)=b) :
  Calls Tryz.prog 191 #[.int .i64 n,.int .i64 l,.int .i64 m] w fun e w'=>e=.returned (.bool b)∧w'=w:=by
 subst h
 by_cases h1:l≤n
 ·by_cases h2:n≤m
  ·rw [decide_eq_true ⟨h1,h2⟩]
   go_enter Tryz.func191,Tryz.ntmps191
   go_wp2
   go_ret
   exact ⟨rfl,rfl⟩
  ·rw [decide_eq_false (fun h=>h2 h.2)]
   go_enter Tryz.func191,Tryz.ntmps191
   go_wp2
   go_ret
   exact ⟨rfl,rfl⟩
 ·rw [decide_eq_false (fun h=>h1 h.1)]
  go_enter Tryz.func191,Tryz.ntmps191
  go_wp2
  go_ret
  exact ⟨rfl,rfl⟩
abbrev stOk (ph pr pa:Int):Prop:=(0≤ph∧ph≤5)∧(0≤pr∧pr≤1048576)∧(0≤pa∧pa≤1048576)
abbrev frOk (f t d k a ph pr pa:Int):Prop:=(0≤f∧f≤6)∧(0≤t∧t≤6)∧(0≤d∧d≤5)∧(1≤k∧k≤7)∧(0≤a∧a≤1048576)∧stOk ph pr pa
theorem dec_and3 (p q r:Prop) [Decidable p] [Decidable q] [Decidable r] (i:Decidable (p∧q∧r)):@decide _ i=(decide p && (decide q && decide r)):=by
 by_cases hp:p <;> by_cases hq:q <;> by_cases hr:r <;> simp [hp,hq,hr]
theorem ite_bool {p:Prop} [Decidable p] {b:Bool} (h:p ↔ b=true) (x y:Nat):(if p then x else y)=if b=true then x else y:=by
 by_cases hp:p
 ·rw [if_pos hp,if_pos (h.1 hp)]
 ·rw [if_neg hp,if_neg (fun g=>hp (h.2 g))]
theorem bools3 (a b c:Bool):a=false ∨ (a=true∧b=false) ∨ (a=true∧b=true∧c=false) ∨ (a=true∧b=true∧c=true):=by cases a <;> cases b <;> cases c <;> simp
theorem bools2 (a b:Bool):a=false ∨ (a=true∧b=false) ∨ (a=true∧b=true):=by cases a <;> cases b <;> simp
theorem wfits_is (ph pr pa:Int) (b:Bool) (w:World) (h:decide (stOk ph pr pa)=b) :
  Calls Tryz.prog 192 #[.agg #[.int .i64 ph,.int .i64 pr,.int .i64 pa]] w fun e w'=>e=.returned (.bool b)∧Below w.heap.size w w':=by
 have HB:Hid (Below w.heap.size w (w.alloc (.cells #[.int .i64 ph,.int .i64 pr,.int .i64 pa] 43))):=(Below.refl _ _).alloc (Nat.le_refl _) _
 obtain ⟨b1,H1⟩:∃ b:Bool,Hid (decide (0≤ph∧ph≤5)=b):=⟨_,hid (Eq.refl _)⟩
 obtain ⟨b2,H2⟩:∃ b:Bool,Hid (decide (0≤pr∧pr≤1048576)=b):=⟨_,hid (Eq.refl _)⟩
 obtain ⟨b3,H3⟩:∃ b:Bool,Hid (decide (0≤pa∧pa≤1048576)=b):=⟨_,hid (Eq.refl _)⟩
 have HH:Hid (b=(b1 && (b2 && b3))):=by
  unfold Hid
  rw [← h,← H1.out,← H2.out,← H3.out]
  exact dec_and3 _ _ _ _
 clear h
 rcases bools3 b1 b2 b3 with rfl|⟨rfl,rfl⟩|⟨rfl,rfl,rfl⟩|⟨rfl,rfl,rfl⟩
 all_goals
  go_enter Tryz.func192,Tryz.ntmps192
  go_wp2_with (go_at_call 191; first|(with_reducible refine (between_is ph 0 5 _ _ H1.out).mono ?_; rintro e wx ⟨rfl,hx⟩; subst wx)|(with_reducible refine (between_is pr 0 1048576 _ _ H2.out).mono ?_; rintro e wx ⟨rfl,hx⟩; subst wx)|(with_reducible refine (between_is pa 0 1048576 _ _ H3.out).mono ?_; rintro e wx ⟨rfl,hx⟩; subst wx))
  go_ret
  exact ⟨by rw [HH.out]; rfl,HB.out⟩
theorem wcheck_e (A:Nat→Addr) (f t d k a:Int) (y:Bool) (ph pr pa:Int) (c:Nat) (w:World) (hE:HeldE w A) (h:(if frOk f t d k a ph pr pa then 0 else 2)=c) :
  Calls Tryz.prog 174 #[frV f t d k a y ph pr pa] w fun e w'=>e=.returned (ev A c)∧Below w.heap.size w w':=by
 obtain ⟨W,HW⟩:∃ W,Hid (w.alloc (.cells #[.int .i64 f,.int .i64 t,.int .i64 d,.int .i64 k,.int .i64 a,.bool y,.int .i64 ph,.int .i64 pr,.int .i64 pa] 104)=W):=⟨_,rfl⟩
 have HB:Hid (Below w.heap.size w W):=by rw [← HW.out]; exact (Below.refl _ _).alloc (Nat.le_refl _) _
 have HR:Hid (W.heap[w.heap.size]? = some (.cells #[.int .i64 f,.int .i64 t,.int .i64 d,.int .i64 k,.int .i64 a,.bool y,.int .i64 ph,.int .i64 pr,.int .i64 pa] 104 (0,0))):=by rw [← HW.out]; exact heap_alloc_new w _
 have HG:Hid (∀ wx,Below W.heap.size W wx→wx.cell? ⟨3,0,none⟩=some (.iface 276 (.pointer (some (A 1))))∧Below w.heap.size w wx):=fun wx hx=>⟨(hE.later (HB.out.trans (hx.mono HB.out.size))).g1,HB.out.trans (hx.mono HB.out.size)⟩
 clear hE
 obtain ⟨b1,H1⟩:∃ b:Bool,Hid (decide (0≤f∧f≤6)=b):=⟨_,hid (Eq.refl _)⟩
 obtain ⟨b2,H2⟩:∃ b:Bool,Hid (decide (0≤t∧t≤6)=b):=⟨_,hid (Eq.refl _)⟩
 obtain ⟨b3,H3⟩:∃ b:Bool,Hid (decide (0≤d∧d≤5)=b):=⟨_,hid (Eq.refl _)⟩
 obtain ⟨b4,H4⟩:∃ b:Bool,Hid (decide (1≤k∧k≤7)=b):=⟨_,hid (Eq.refl _)⟩
 obtain ⟨b5,H5⟩:∃ b:Bool,Hid (decide (0≤a∧a≤1048576)=b):=⟨_,hid (Eq.refl _)⟩
 obtain ⟨b6,H6⟩:∃ b:Bool,Hid (decide (stOk ph pr pa)=b):=⟨_,hid (Eq.refl _)⟩
 have HC:Hid (c=if (b1 && (b2 && (b3 && (b4 && (b5 && b6)))))=true then 0 else 2):=by
  unfold Hid
  rw [← h]
  refine ite_bool ?_ 0 2
  rw [← H1.out,← H2.out,← H3.out,← H4.out,← H5.out,← H6.out]
  simp only [frOk,decide_eq_true_eq,Bool.and_eq_true]
 clear h
 have hW:=HW.out
 have c0:W.cell? ⟨w.heap.size,0,none⟩=some (.int .i64 f):=by rw [cell_of_row _ _ _ _ _ _ HR.out]; rfl
 have c1:W.cell? ⟨w.heap.size,1,none⟩=some (.int .i64 t):=by rw [cell_of_row _ _ _ _ _ _ HR.out]; rfl
 have c2:W.cell? ⟨w.heap.size,2,none⟩=some (.int .i64 d):=by rw [cell_of_row _ _ _ _ _ _ HR.out]; rfl
 have c3:W.cell? ⟨w.heap.size,3,none⟩=some (.int .i64 k):=by rw [cell_of_row _ _ _ _ _ _ HR.out]; rfl
 have c4:W.cell? ⟨w.heap.size,4,none⟩=some (.int .i64 a):=by rw [cell_of_row _ _ _ _ _ _ HR.out]; rfl
 have c6:W.cell? ⟨w.heap.size,6,none⟩=some (.int .i64 ph):=by rw [cell_of_row _ _ _ _ _ _ HR.out]; rfl
 have c7:W.cell? ⟨w.heap.size,7,none⟩=some (.int .i64 pr):=by rw [cell_of_row _ _ _ _ _ _ HR.out]; rfl
 have c8:W.cell? ⟨w.heap.size,8,none⟩=some (.int .i64 pa):=by rw [cell_of_row _ _ _ _ _ _ HR.out]; rfl
 obtain ⟨g1W,hbW⟩:=HG.out W (Below.refl _ _)
 have HBW0:=hid hbW
 clear hbW
 have HX:(b1 && (b2 && (b3 && (b4 && b5))))=true ∨ (b1 && (b2 && (b3 && (b4 && b5))))=false:=by cases (b1 && (b2 && (b3 && (b4 && b5)))) <;> simp
 rcases HX with HX|HX
 ·simp only [Bool.and_eq_true] at HX
  obtain ⟨rfl,rfl,rfl,rfl,rfl⟩:=HX
  cases b6
  all_goals
   go_enter Tryz.func174,Tryz.ntmps174
   go_wp2_with (first|(go_at_call 191; first|(with_reducible refine (between_is f 0 6 _ _ H1.out).mono ?_; rintro e wx ⟨rfl,hx⟩; subst wx)|(with_reducible refine (between_is t 0 6 _ _ H2.out).mono ?_; rintro e wx ⟨rfl,hx⟩; subst wx)|(with_reducible refine (between_is d 0 5 _ _ H3.out).mono ?_; rintro e wx ⟨rfl,hx⟩; subst wx)|(with_reducible refine (between_is k 1 7 _ _ H4.out).mono ?_; rintro e wx ⟨rfl,hx⟩; subst wx)|(with_reducible refine (between_is a 0 1048576 _ _ H5.out).mono ?_; rintro e wx ⟨rfl,hx⟩; subst wx))|(go_at_call 192; (with_reducible refine (wfits_is ph pr pa _ _ H6.out).mono ?_); rintro e wx ⟨rfl,hx⟩; obtain ⟨g1,hbw⟩:=HG.out wx hx; have HBW:=hid hbw; clear hx hbw))
   go_ret
   refine ⟨by rw [HC.out]; rfl,Hid.out (by assumption)⟩
 ·have HZ:Hid (c=2):=by unfold Hid; rw [HC.out]; revert HX; cases b1 <;> cases b2 <;> cases b3 <;> cases b4 <;> cases b5 <;> cases b6 <;> decide
  rcases bools2 b1 b2 with rfl|⟨rfl,rfl⟩|⟨rfl,rfl⟩
  all_goals rcases bools3 b3 b4 b5 with rfl|⟨rfl,rfl⟩|⟨rfl,rfl,rfl⟩|⟨rfl,rfl,rfl⟩
  all_goals try (exact absurd HX (by decide))
  all_goals clear HX
  all_goals
   go_enter Tryz.func174,Tryz.ntmps174
   go_wp2_with (first|(go_at_call 191; first|(with_reducible refine (between_is f 0 6 _ _ H1.out).mono ?_; rintro e wx ⟨rfl,hx⟩; subst wx)|(with_reducible refine (between_is t 0 6 _ _ H2.out).mono ?_; rintro e wx ⟨rfl,hx⟩; subst wx)|(with_reducible refine (between_is d 0 5 _ _ H3.out).mono ?_; rintro e wx ⟨rfl,hx⟩; subst wx)|(with_reducible refine (between_is k 1 7 _ _ H4.out).mono ?_; rintro e wx ⟨rfl,hx⟩; subst wx)|(with_reducible refine (between_is a 0 1048576 _ _ H5.out).mono ?_; rintro e wx ⟨rfl,hx⟩; subst wx))|(go_at_call 192; (with_reducible refine (wfits_is ph pr pa _ _ H6.out).mono ?_); rintro e wx ⟨rfl,hx⟩; obtain ⟨g1,hbw⟩:=HG.out wx hx; have HBW:=hid hbw; clear hx hbw))
   go_ret
   exact ⟨by rw [HZ.out]; rfl,HBW0.out⟩
theorem kept9 (w:World) (g:Nat) (x0 x1 x2 x3 x4 x5 x6 x7 x8:Value) :
  Kept (In1 g) w (((((((((w.setCell ⟨g,0,none⟩ x0).setCell ⟨g,1,none⟩ x1).setCell ⟨g,2,none⟩ x2).setCell ⟨g,3,none⟩ x3).setCell ⟨g,4,none⟩ x4).setCell ⟨g,5,none⟩ x5).setCell ⟨g,6,none⟩ x6).setCell ⟨g,7,none⟩ x7).setCell ⟨g,8,none⟩ x8) :=
 (((((((((Kept.refl _ _).set1 0 _).set1 1 _).set1 2 _).set1 3 _).set1 4 _).set1 5 _).set1 6 _).set1 7 _).set1 8 _
theorem stored9 {X:World} {g:Nat} {a0 a1 a2 a3 a4 a5 a6 a7 a8:Value} (h:X.heap[g]? = some (.cells #[a0,a1,a2,a3,a4,a5,a6,a7,a8] 104 (0,0))) (f t d k a:Int) (y:Bool) (ph pr pa:Int) :
  ∃ Y,Hid ((((((((((X.setCell ⟨g,0,none⟩ (.int .i64 f)).setCell ⟨g,1,none⟩ (.int .i64 t)).setCell ⟨g,2,none⟩ (.int .i64 d)).setCell ⟨g,3,none⟩ (.int .i64 k)).setCell ⟨g,4,none⟩ (.int .i64 a)).setCell ⟨g,5,none⟩ (.bool y)).setCell ⟨g,6,none⟩ (.int .i64 ph)).setCell ⟨g,7,none⟩ (.int .i64 pr)).setCell ⟨g,8,none⟩ (.int .i64 pa))=Y) ∧
   Hid (Y.heap[g]? = some (.cells #[.int .i64 f,.int .i64 t,.int .i64 d,.int .i64 k,.int .i64 a,.bool y,.int .i64 ph,.int .i64 pr,.int .i64 pa] 104 (0,0)))∧Hid (Kept (In1 g) X Y) :=
 ⟨_,rfl,set9 h _ _ _ _ _ _ _ _ _,kept9 _ _ _ _ _ _ _ _ _ _ _⟩
theorem frozen9 {X:World} {g:Nat} {cs:Array Value} {t:TypeId} (h:X.heap[g]? = some (.cells cs t (0,0))):X.frozen? ⟨g,0,none⟩=false∧X.frozen? ⟨g,1,none⟩=false∧X.frozen? ⟨g,2,none⟩=false∧X.frozen? ⟨g,3,none⟩=false∧X.frozen? ⟨g,4,none⟩=false∧X.frozen? ⟨g,5,none⟩=false∧X.frozen? ⟨g,6,none⟩=false∧X.frozen? ⟨g,7,none⟩=false∧X.frozen? ⟨g,8,none⟩=false :=
 ⟨frozen_of_row X g 0 _ _ h,frozen_of_row X g 1 _ _ h,frozen_of_row X g 2 _ _ h,frozen_of_row X g 3 _ _ h,frozen_of_row X g 4 _ _ h,frozen_of_row X g 5 _ _ h,frozen_of_row X g 6 _ _ h,frozen_of_row X g 7 _ _ h,frozen_of_row X g 8 _ _ h⟩
def ansC (id f d a:Int) (h:HOut):Array Value:=#[.int .i64 id,.int .i64 f,.int .i64 d,.int .i64 (h.k:Int),.int .i64 a,.bool h.yes,.int .i64 (h.st.ph:Int),.int .i64 (h.st.pr:Int),.int .i64 (h.st.at_:Int)]
def AnsV (w:World) (v:Value) (c:Nat) (id f d a:Int) (h:HOut):Prop :=
 if c=0∧h.k≠0 then ∃ g cap,v=.slice (some ⟨g,0,none⟩) 1 cap∧w.heap[g]? = some (.cells (ansC id f d a h) 104 (0,0)) else v=.slice none 0 0
theorem AnsV.later {w w':World} {v:Value} {c:Nat} {id f d a:Int} {h:HOut} (x:AnsV w v c id f d a h) (hb:Below w.heap.size w w'):AnsV w' v c id f d a h:=by
 unfold AnsV at *
 split
 ·rename_i hc
  rw [if_pos hc] at x
  obtain ⟨g,cap,e,r⟩:=x
  exact ⟨g,cap,e,(hb.block g (row_ltJ r)).trans r⟩
 ·rename_i hc
  rw [if_neg hc] at x
  exact x
end Go.Proofs.YtadhpkopkkjmfaaGreatDoor
