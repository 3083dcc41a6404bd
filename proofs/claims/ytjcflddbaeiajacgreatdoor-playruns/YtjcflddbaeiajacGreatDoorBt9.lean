/-
  On the way to PRunsProof: P5 P8P P6 P7 P8.
-/
import Derived.Test.YtjcflddbaeiajacGreatDoorBt4
set_option maxHeartbeats 8000000
set_option maxRecDepth 100000
namespace Go.Proofs.YtjcflddbaeiajacGreatDoor
open Go.RowKit
theorem pwrite_far (A:Nat→Addr) (p q:Nat) (B s:ByteArray) (a:Nat) (l:Int) (w:World) (h:Pl w p q B l) (hE:HeldE w A) (hB:B.size≤1000) (ha:a+s.size≤B.size) (hl:(s.size:Int)≤l) (hl2:l≤9223372036854775807) :
  Calls Tryz.prog 333 #[.pointer (some ⟨p,0,none⟩),.int .i64 a,.string s] w fun e w'=>e=.returned .nilIface∧Pl w' p q (putB B a s s.size) (l - s.size)∧Kept (In2 p q) w w':=by
 have H:=hid h
 have HE:=hid hE
 have HL:Hid (¬ l=-2):=by unfold Hid; omega
 clear h hE
 go_enter Tryz.func333,Tryz.ntmps333
 go_wp2_with (go_at_call 234; refine (pcheck_in A p q B _ _ _ _ H.out HE.out hB (by omega)).mono ?_; rw [if_neg HL.out]; rintro e wx ⟨rfl,hx⟩; subst wx)
 go_loopw [19] (fun i wr=>∃ k:Nat,k≤s.size∧i=.int .i64 k∧Pl wr p q (putB B a s k) (l - k)∧Kept (In2 p q) w wr) (fun i _=>s.size - (intOf i).toNat)
 case atStart=>exact ⟨0,Nat.zero_le _,rfl,by rw [putB_zero]; simpa using H.out,Kept.refl _ _⟩
 case round =>
  obtain ⟨k,hk,rfl,hP,hK⟩:=hrel
  have HP:=hid hP
  have HK:=hid hK
  clear hP hK
  by_cases hlt:k<s.size
  ·go_wp2_with (go_at_call 343; refine (pspend_pos p q _ (l - k) _ HP.out (by omega) (by omega)).mono ?_; rintro e w1 ⟨rfl,hP1,hK1⟩; have HP1:=hid hP1; have HK1:=hid hK1; clear hP1 hK1; have c0:=HP1.out.bytes (by omega) (by omega); have cq:=HP1.out.cq (j:=a+k) (by rw [size_putB (by omega) (by omega)]; omega); have fq:=HP1.out.fq (a+k))
   go_region
   all_goals go_wp2
   all_goals go_roundw
   case rel =>
    refine ⟨k+1,by omega,by go_num,?_,((HK.out.trans HK1.out).setCell (.inr rfl) _).drew⟩
    rw [show l - ((k+1:Nat):Int)=l - k - 1 by omega]
    exact (HP1.out.put (by omega) hlt).drew
   case measure=>simp [intOf]; omega
  ·obtain rfl:k=s.size:=by omega
   go_wp2
   go_ret
   exact ⟨rfl,HP.out,HK.out⟩
theorem pwrite_near (A:Nat→Addr) (p q:Nat) (B s:ByteArray) (a l:Nat) (w:World) (h:Pl w p q B l) (hE:HeldE w A) (hB:B.size≤1000) (ha:a+s.size≤B.size) (hl:l<s.size) (hp:6≠p) (hq:6≠q) :
  Calls Tryz.prog 333 #[.pointer (some ⟨p,0,none⟩),.int .i64 a,.string s] w fun e w'=>e=.returned (.iface 407 (.pointer (some (A 5))))∧Pl w' p q (putB B a s l) (-2)∧Kept (In2 p q) w w':=by
 have H:=hid h
 have HE:=hid hE
 have HL:Hid (¬ (l:Int)=-2):=by unfold Hid; omega
 have HG:Hid (∀ wx,Kept (In2 p q) w wx→wx.cell? ⟨6,0,none⟩=some (.iface 407 (.pointer (some (A 5))))):=fun wx hk=>by
  rw [World.cell?_of_block (w:=w) (hk.block 6 (cell_lt hE.g5) (fun e=>e.elim hp hq))]
  exact hE.g5
 clear h hE
 go_enter Tryz.func333,Tryz.ntmps333
 go_wp2_with (go_at_call 234; refine (pcheck_in A p q B _ _ _ _ H.out HE.out hB (by omega)).mono ?_; rw [if_neg HL.out]; rintro e wx ⟨rfl,hx⟩; subst wx)
 go_loopw [19] (fun i wr=>∃ k:Nat,k≤l∧i=.int .i64 k∧Pl wr p q (putB B a s k) (l - k)∧Kept (In2 p q) w wr) (fun i _=>l - (intOf i).toNat)
 case atStart=>exact ⟨0,Nat.zero_le _,rfl,by rw [putB_zero]; simpa using H.out,Kept.refl _ _⟩
 case round =>
  obtain ⟨k,hk,rfl,hP,hK⟩:=hrel
  have HP:=hid hP
  have HK:=hid hK
  clear hP hK
  have hks:k<s.size:=by omega
  by_cases hlt:k<l
  ·go_wp2_with (go_at_call 343; refine (pspend_pos p q _ (l - k) _ HP.out (by omega) (by omega)).mono ?_; rintro e w1 ⟨rfl,hP1,hK1⟩; have HP1:=hid hP1; have HK1:=hid hK1; clear hP1 hK1; have c0:=HP1.out.bytes (by omega) (by omega); have cq:=HP1.out.cq (j:=a+k) (by rw [size_putB (by omega) (by omega)]; omega); have fq:=HP1.out.fq (a+k))
   go_region
   all_goals go_wp2
   all_goals go_roundw
   case rel =>
    refine ⟨k+1,by omega,by go_num,?_,((HK.out.trans HK1.out).setCell (.inr rfl) _).drew⟩
    rw [show (l:Int) - ((k+1:Nat):Int)=l - k - 1 by omega]
    exact (HP1.out.put (by omega) hks).drew
   case measure=>simp [intOf]; omega
  ·obtain rfl:k=l:=by omega
   have HP0:Hid (Pl wr p q (putB B a s k) 0):=by have:=HP.out; rw [show (k:Int) - k=0 by omega] at this; exact this
   go_wp2_with (go_at_call 343; refine (pspend_zero p q _ _ HP0.out).mono ?_; rintro e w1 ⟨rfl,hP1,hK1⟩; have g5:=HG.out _ (HK.out.trans hK1); have HP1:=hid hP1; have HK1:=hid hK1; clear hP1 hK1)
   go_ret
   exact ⟨rfl,HP1.out,HK.out.trans HK1.out⟩
theorem pread_bound (A:Nat→Addr) (p q:Nat) (B:ByteArray) (l a n:Int) (w:World) (h:Pl w p q B l) (hE:HeldE w A) (hB:B.size≤1000) (hn:n≤9223372036854775807) (hb:a<0 ∨ n<0 ∨ (B.size:Int) - n<a) :
  Calls Tryz.prog 187 #[.pointer (some ⟨p,0,none⟩),.int .i64 a,.int .i64 n] w fun e w'=>e=.returned (.tuple #[.string ⟨#[]⟩,.iface 407 (.pointer (some (A 1)))])∧w'=w:=by
 have H:=hid h
 have HE:=hid hE
 have HB:=hid hb
 clear h hE hb
 go_enter Tryz.func187,Tryz.ntmps187
 go_wp2_with (go_at_call 234; refine (pcheck_bound A p q B l _ _ _ H.out HE.out hB hn HB.out).mono ?_; rintro e w' ⟨rfl,rfl⟩)
 go_ret2
 exact ⟨rfl,rfl⟩
theorem pread_off (A:Nat→Addr) (p q:Nat) (B:ByteArray) (a n:Int) (w:World) (h:Pl w p q B (-2)) (hE:HeldE w A) (hB:B.size≤1000) (hb:¬ (a<0 ∨ n<0 ∨ (B.size:Int) - n<a)) :
  Calls Tryz.prog 187 #[.pointer (some ⟨p,0,none⟩),.int .i64 a,.int .i64 n] w fun e w'=>e=.returned (.tuple #[.string ⟨#[]⟩,.iface 407 (.pointer (some (A 5)))])∧w'=w:=by
 have H:=hid h
 have HE:=hid hE
 have HB:=hid hb
 clear h hE hb
 go_enter Tryz.func187,Tryz.ntmps187
 go_wp2_with (go_at_call 234; refine (pcheck_in A p q B _ _ _ _ H.out HE.out hB HB.out).mono ?_; rw [if_pos rfl]; rintro e w' ⟨rfl,rfl⟩)
 go_ret2
 exact ⟨rfl,rfl⟩
theorem pread_ok (A:Nat→Addr) (p q:Nat) (B:ByteArray) (l:Int) (a n:Nat) (w:World) (h:Pl w p q B l) (hE:HeldE w A) (hB:B.size≤1000) (hl:¬ l=-2) (hb:a+n≤B.size) :
  Calls Tryz.prog 187 #[.pointer (some ⟨p,0,none⟩),.int .i64 a,.int .i64 n] w fun e w'=>e=.returned (.tuple #[.string (B.extract a (a+n)),.nilIface])∧w'=w:=by
 have H:=hid h
 have HE:=hid hE
 have HL:=hid hl
 have c0:=h.c0
 by_cases hc:a<B.size
 ·have hcv:=conv_cut h a n (B.size - a) hb
  clear h hE hl
  go_enter Tryz.func187,Tryz.ntmps187
  go_wp2_with (go_at_call 234; refine (pcheck_in A p q B _ _ _ _ H.out HE.out hB (by omega)).mono ?_; rw [if_neg HL.out]; rintro e w' ⟨rfl,rfl⟩)
  go_ret2
  exact ⟨rfl,rfl⟩
 ·obtain rfl:n=0:=by omega
  have hcv:=conv_cut h 0 0 0 (by omega)
  have e1:B.extract 0 (0+0)=ByteArray.empty:=by
   apply ba_ext; rw [ext_list]; simp
  have e2:B.extract a (a+0)=ByteArray.empty:=by
   apply ba_ext; rw [ext_list]; simp
  rw [e1] at hcv
  rw [e2]
  clear h hE hl e1 e2
  go_enter Tryz.func187,Tryz.ntmps187
  go_wp2_with (go_at_call 234; refine (pcheck_in A p q B _ _ _ _ H.out HE.out hB (by omega)).mono ?_; rw [if_neg HL.out]; rintro e w' ⟨rfl,rfl⟩)
  go_ret2
  exact ⟨rfl,rfl⟩
def Lk (l:Int) (off:Bool) (l':Int) (cuts:Bool):Prop :=
 (off=true∧l=-2) ∨ (off=false∧cuts=false∧l=-1) ∨ (off=false∧cuts=true∧l=l'∧0≤l∧l≤9223372036854775807)
abbrev wBad (B s:ByteArray) (a:Int):Prop:=a<0 ∨ (B.size:Int) - s.size<a
def wC (B s:ByteArray) (l a:Int):Nat:=if wBad B s a then 2 else if l=-2 then 6 else if 0≤l∧l<s.size then 6 else 0
def wB (B s:ByteArray) (l a:Int):ByteArray:=if wBad B s a then B else if l=-2 then B else if 0≤l∧l<s.size then putB B a.toNat s l.toNat else putB B a.toNat s s.size
def wL (B s:ByteArray) (l a:Int):Int:=if wBad B s a then l else if l=-2 then -2 else if 0≤l∧l<s.size then -2 else if l<0 then l else l - s.size
theorem wB_size (B s:ByteArray) (l a:Int):(wB B s l a).size=B.size:=by
 unfold wB
 split
 ·rfl
 ·rename_i h
  unfold wBad at h
  split
  ·rfl
  ·split
   ·rename_i h2; exact size_putB (by omega) (by omega)
   ·exact size_putB (by omega) (by omega)
theorem write_pl (A:Nat→Addr) (p q:Nat) (B s:ByteArray) (l a:Int) (w:World) (h:Pl w p q B l) (hE:HeldE w A) (hB:B.size≤1000) (hs:s.size≤1000) (h1:-2≤l) (h2:l≤9223372036854775807) (hp:6≠p) (hq:6≠q) :
  Calls Tryz.prog 333 #[.pointer (some ⟨p,0,none⟩),.int .i64 a,.string s] w fun e w'=>e=.returned (ev A (wC B s l a))∧Pl w' p q (wB B s l a) (wL B s l a)∧Kept (In2 p q) w w':=by
 by_cases hb:wBad B s a
 ·simp only [wC,wB,wL,if_pos hb]
  refine (pwrite_bound A p q B s l a w h hE hB hs hb).mono ?_
  rintro e w' ⟨rfl,rfl⟩
  exact ⟨rfl,h,Kept.refl _ _⟩
 ·by_cases hl:l=-2
  ·subst hl
   simp only [wC,wB,wL,if_neg hb,if_pos]
   refine (pwrite_off A p q B s a w h hE hB hs hb).mono ?_
   rintro e w' ⟨rfl,rfl⟩
   exact ⟨rfl,h,Kept.refl _ _⟩
  ·have hb':=hb
   unfold wBad at hb'
   obtain ⟨a',rfl⟩:∃ a':Nat,a=a':=⟨a.toNat,by omega⟩
   by_cases hn:0≤l∧l<s.size
   ·obtain ⟨l',rfl⟩:∃ l':Nat,l=l':=⟨l.toNat,by omega⟩
    simp only [wC,wB,wL,if_neg hb,if_neg hl,if_pos hn,Int.toNat_natCast]
    exact pwrite_near A p q B s a' l' w h hE hB (by omega) (by omega) hp hq
   ·simp only [wC,wB,wL,if_neg hb,if_neg hl,if_neg hn,Int.toNat_natCast]
    by_cases hl0:l<0
    ·rw [if_pos hl0]
     exact pwrite_free A p q B s a' l w h hE hB (by omega) hl0 hl
    ·rw [if_neg hl0]
     exact pwrite_far A p q B s a' l w h hE hB (by omega) (by omega) h2
def cC (l n:Int):Nat:=if n<0 then 2 else if l=-2 then 6 else 0
def cL (l n:Int):Int:=if n<0 then l else if l=-2 then l else n
theorem cC_le (l n:Int):cC l n≤9:=by
 unfold cC; repeat' split
 all_goals decide
theorem cut_pl (A:Nat→Addr) (p q:Nat) (B:ByteArray) (l n:Int) (w:World) (h:Pl w p q B l) (hE:HeldE w A) :
  Calls Tryz.prog 136 #[.pointer (some ⟨p,0,none⟩),.int .i64 n] w fun e w'=>e=.returned (ev A (cC l n))∧Pl w' p q B (cL l n)∧Kept (In2 p q) w w':=by
 by_cases hn:n<0
 ·simp only [cC,cL,if_pos hn]
  refine (pcut_bound A _ n w hE hn).mono ?_
  rintro e w' ⟨rfl,rfl⟩
  exact ⟨rfl,h,Kept.refl _ _⟩
 ·by_cases hl:l=-2
  ·subst hl
   simp only [cC,cL,if_neg hn,if_pos]
   refine (pcut_off A p q B n w h hE hn).mono ?_
   rintro e w' ⟨rfl,rfl⟩
   exact ⟨rfl,h,Kept.refl _ _⟩
  ·simp only [cC,cL,if_neg hn,if_neg hl]
   exact pcut_ok p q B l n w h hl hn
def rC (B:ByteArray) (l a n:Int):Nat:=if a<0 ∨ n<0 ∨ (B.size:Int) - n<a then 2 else if l=-2 then 6 else 0
theorem read_bad (A:Nat→Addr) (p q:Nat) (B:ByteArray) (l a n:Int) (c:Nat) (w:World) (h:Pl w p q B l) (hE:HeldE w A) (hB:B.size≤1000) (hn9:n≤9223372036854775807) (hc:rC B l a n=c+1) :
  Calls Tryz.prog 187 #[.pointer (some ⟨p,0,none⟩),.int .i64 a,.int .i64 n] w fun e w'=>e=.returned (.tuple #[.string ⟨#[]⟩,.iface 407 (.pointer (some (A c)))])∧w'=w:=by
 unfold rC at hc
 split at hc
 ·rename_i hb
  obtain rfl:c=1:=by omega
  exact pread_bound A p q B l a n w h hE hB hn9 hb
 ·rename_i hb
  split at hc
  ·rename_i hl
   subst hl
   obtain rfl:c=5:=by omega
   exact pread_off A p q B a n w h hE hB hb
  ·omega
theorem coded_ev (A:Nat→Addr) (c:Nat) (w:World) (hE:Held9 w A) (hc:c≤9) :
  Calls Tryz.prog 16 #[ev A c,.int .i64 c] w fun e w'=>e=.returned (.bool true)∧Below w.heap.size w w':=by
 match c,hc with
 | 0,_ =>
  refine (coded_nil 0 w).mono ?_
  rintro e w' ⟨rfl,rfl⟩
  exact ⟨rfl,Below.refl _ _⟩
 | c+1,hc =>
  refine (coded_at A c _ w hE (by omega)).mono ?_
  rintro e w' ⟨rfl,hb⟩
  refine ⟨?_,hb⟩
  have:((c:Int)+1 == ((c+1:Nat):Int))=true:=by simp
  rw [this]
def RP (w:World) (r:Nat) (B:ByteArray) (off:Bool) (l:Int) (cuts:Bool):Prop :=
 w.heap[r]? = some (.cells #[.string B,.bool off,.int .i64 l,.bool cuts] 112 (0,0))
theorem RP.c0 {w:World} {r:Nat} {B:ByteArray} {off cuts:Bool} {l:Int} (h:RP w r B off l cuts):w.cell? ⟨r,0,none⟩=some (.string B):=by rw [cell_of_row w r 0 _ _ _ h]; rfl
theorem RP.c1 {w:World} {r:Nat} {B:ByteArray} {off cuts:Bool} {l:Int} (h:RP w r B off l cuts):w.cell? ⟨r,1,none⟩=some (.bool off):=by rw [cell_of_row w r 1 _ _ _ h]; rfl
theorem RP.c2 {w:World} {r:Nat} {B:ByteArray} {off cuts:Bool} {l:Int} (h:RP w r B off l cuts):w.cell? ⟨r,2,none⟩=some (.int .i64 l):=by rw [cell_of_row w r 2 _ _ _ h]; rfl
theorem RP.c3 {w:World} {r:Nat} {B:ByteArray} {off cuts:Bool} {l:Int} (h:RP w r B off l cuts):w.cell? ⟨r,3,none⟩=some (.bool cuts):=by rw [cell_of_row w r 3 _ _ _ h]; rfl
theorem RP.fz {w:World} {r:Nat} {B:ByteArray} {off cuts:Bool} {l:Int} (h:RP w r B off l cuts) (i:Nat):w.frozen? ⟨r,i,none⟩=false:=frozen_of_row w r i _ _ h
theorem RP.s0 {w:World} {r:Nat} {B:ByteArray} {off cuts:Bool} {l:Int} (h:RP w r B off l cuts) (B':ByteArray):RP (w.setCell ⟨r,0,none⟩ (.string B')) r B' off l cuts:=by unfold RP; rw [heap_setCell_same w r 0 _ _ _ h]; rfl
theorem RP.s1 {w:World} {r:Nat} {B:ByteArray} {off cuts:Bool} {l:Int} (h:RP w r B off l cuts) (b:Bool):RP (w.setCell ⟨r,1,none⟩ (.bool b)) r B b l cuts:=by unfold RP; rw [heap_setCell_same w r 1 _ _ _ h]; rfl
theorem RP.s2 {w:World} {r:Nat} {B:ByteArray} {off cuts:Bool} {l:Int} (h:RP w r B off l cuts) (l':Int):RP (w.setCell ⟨r,2,none⟩ (.int .i64 l')) r B off l' cuts:=by unfold RP; rw [heap_setCell_same w r 2 _ _ _ h]; rfl
theorem RP.s3 {w:World} {r:Nat} {B:ByteArray} {off cuts:Bool} {l:Int} (h:RP w r B off l cuts) (b:Bool):RP (w.setCell ⟨r,3,none⟩ (.bool b)) r B off l b:=by unfold RP; rw [heap_setCell_same w r 3 _ _ _ h]; rfl
theorem RP.drew {w:World} {r:Nat} {B:ByteArray} {off cuts:Bool} {l:Int} (h:RP w r B off l cuts):RP w.drew r B off l cuts:=h
theorem RP.kept {S:Nat→Prop} {w w':World} {r:Nat} {B:ByteArray} {off cuts:Bool} {l:Int} (h:RP w r B off l cuts) (k:Kept S w w') (hr:¬ S r):RP w' r B off l cuts:=k.row h hr
theorem rperr_bound (r:Nat) (B:ByteArray) (off cuts:Bool) (l a n:Int) (w:World) (h:RP w r B off l cuts) (hB:B.size≤1000) (hb:a<0 ∨ n<0 ∨ (B.size:Int) - n<a) :
  Calls Tryz.prog 294 #[.pointer (some ⟨r,0,none⟩),.int .i64 a,.int .i64 n] w fun e w'=>e=.returned (.int .i64 2)∧w'=w:=by
 have c0:=h.c0
 clear h
 by_cases h1:a<0
 ·clear hb
  go_enter Tryz.func294,Tryz.ntmps294
  go_wp2
  go_ret
  exact ⟨rfl,rfl⟩
 ·by_cases h2:n<0
  ·clear hb
   go_enter Tryz.func294,Tryz.ntmps294
   go_wp2
   go_ret
   exact ⟨rfl,rfl⟩
  ·by_cases h3:(B.size:Int)<a
   ·clear hb
    go_enter Tryz.func294,Tryz.ntmps294
    go_wp2
    go_ret
    exact ⟨rfl,rfl⟩
   ·have h4:(B.size:Int) - a<n:=by omega
    clear hb
    go_enter Tryz.func294,Tryz.ntmps294
    go_wp2
    go_ret
    exact ⟨rfl,rfl⟩
theorem rperr_in (r:Nat) (B:ByteArray) (off cuts:Bool) (l a n:Int) (w:World) (h:RP w r B off l cuts) (hB:B.size≤1000) (hb:¬ (a<0 ∨ n<0 ∨ (B.size:Int) - n<a)) :
  Calls Tryz.prog 294 #[.pointer (some ⟨r,0,none⟩),.int .i64 a,.int .i64 n] w fun e w'=>e=.returned (.int .i64 (if off then 6 else 0))∧w'=w:=by
 have c0:=h.c0
 have c1:=h.c1
 have h1:¬ a<0:=fun g=>hb (.inl g)
 have h2:¬ n<0:=fun g=>hb (.inr (.inl g))
 have h3:¬ (B.size:Int) - n<a:=fun g=>hb (.inr (.inr g))
 have h4:¬ (B.size:Int)<a:=by omega
 have h5:¬ (B.size:Int) - a<n:=by omega
 clear h hb
 cases off with
 | true =>
  go_enter Tryz.func294,Tryz.ntmps294
  go_wp2
  go_ret
  exact ⟨rfl,rfl⟩
 | false =>
  go_enter Tryz.func294,Tryz.ntmps294
  go_wp2
  go_ret
  exact ⟨rfl,rfl⟩
theorem rpcut_bound (v:Value) (n:Int) (w:World) (hn:n<0) :
  Calls Tryz.prog 137 #[v,.int .i64 n] w fun e w'=>e=.returned (.int .i64 2)∧w'=w:=by
 go_enter Tryz.func137,Tryz.ntmps137
 go_wp2
 go_ret
 exact ⟨rfl,rfl⟩
theorem rpcut_off (r:Nat) (B:ByteArray) (cuts:Bool) (l n:Int) (w:World) (h:RP w r B true l cuts) (hn:¬ n<0) :
  Calls Tryz.prog 137 #[.pointer (some ⟨r,0,none⟩),.int .i64 n] w fun e w'=>e=.returned (.int .i64 6)∧w'=w:=by
 have c1:=h.c1
 clear h
 go_enter Tryz.func137,Tryz.ntmps137
 go_wp2
 go_ret
 exact ⟨rfl,rfl⟩
theorem rpcut_ok (r:Nat) (B:ByteArray) (cuts:Bool) (l n:Int) (w:World) (h:RP w r B false l cuts) (hn:¬ n<0) :
  Calls Tryz.prog 137 #[.pointer (some ⟨r,0,none⟩),.int .i64 n] w fun e w'=>e=.returned (.int .i64 0)∧RP w' r B false n true∧Kept (In1 r) w w':=by
 have c1:=h.c1
 have c2:=h.c2
 have c3:=h.c3
 have f2:=h.fz 2
 have f3:=h.fz 3
 have H:=hid ((h.s3 true).s2 n)
 clear h
 go_enter Tryz.func137,Tryz.ntmps137
 go_wp2
 go_ret
 exact ⟨rfl,H.out,((Kept.refl _ w).set1 _ _).set1 _ _⟩
theorem rpon_any (r:Nat) (B:ByteArray) (off cuts:Bool) (l:Int) (w:World) (h:RP w r B off l cuts) :
  Calls Tryz.prog 128 #[.pointer (some ⟨r,0,none⟩)] w fun e w'=>e=.returned (.tuple #[])∧RP w' r B false l false∧Kept (In1 r) w w':=by
 have c1:=h.c1
 have c3:=h.c3
 have f1:=h.fz 1
 have f3:=h.fz 3
 have H:=hid ((h.s1 false).s3 false)
 clear h
 go_enter Tryz.func128,Tryz.ntmps128
 go_wp2
 go_end0
 exact ⟨rfl,H.out,((Kept.refl _ w).set1 _ _).set1 _ _⟩
theorem rpwrite_bound (r:Nat) (B s:ByteArray) (off cuts:Bool) (l a:Int) (w:World) (h:RP w r B off l cuts) (hB:B.size≤1000) (hb:a<0 ∨ (B.size:Int) - s.size<a) :
  Calls Tryz.prog 295 #[.pointer (some ⟨r,0,none⟩),.int .i64 a,.string s] w fun e w'=>e=.returned (.int .i64 2)∧w'=w:=by
 have H:=hid h
 clear h
 go_enter Tryz.func295,Tryz.ntmps295
 go_wp2_with (go_at_call 294; refine (rperr_bound r B off cuts l _ _ _ H.out hB (by omega)).mono ?_; rintro e w' ⟨rfl,rfl⟩)
 go_ret
 exact ⟨rfl,rfl⟩
theorem rpwrite_off (r:Nat) (B s:ByteArray) (cuts:Bool) (l a:Int) (w:World) (h:RP w r B true l cuts) (hB:B.size≤1000) (hb:¬ (a<0 ∨ (B.size:Int) - s.size<a)) :
  Calls Tryz.prog 295 #[.pointer (some ⟨r,0,none⟩),.int .i64 a,.string s] w fun e w'=>e=.returned (.int .i64 6)∧w'=w:=by
 have H:=hid h
 clear h
 go_enter Tryz.func295,Tryz.ntmps295
 go_wp2_with (go_at_call 294; refine (rperr_in r B true cuts l _ _ _ H.out hB (by omega)).mono ?_; rw [if_pos rfl]; rintro e w' ⟨rfl,rfl⟩)
 go_ret
 exact ⟨rfl,rfl⟩
theorem putB_full (B:ByteArray) (a:Nat) (s:ByteArray):putB B a s s.size=B.extract 0 a ++ s ++ B.extract (a+s.size) B.size:=by
 unfold putB; simp
theorem rpwrite_free (r:Nat) (B s:ByteArray) (l:Int) (a:Nat) (w:World) (h:RP w r B false l false) (hB:B.size≤1000) (ha:a+s.size≤B.size) :
  Calls Tryz.prog 295 #[.pointer (some ⟨r,0,none⟩),.int .i64 a,.string s] w fun e w'=>e=.returned (.int .i64 0)∧RP w' r (putB B a s s.size) false l false∧Kept (In1 r) w w':=by
 have H:=hid h
 have c0:=h.c0
 have c1:=h.c1
 have c3:=h.c3
 have f0:=h.fz 0
 rw [putB_full]
 clear h
 go_enter Tryz.func295,Tryz.ntmps295
 go_wp2_with (go_at_call 294; refine (rperr_in r B false false l _ _ _ H.out hB (by omega)).mono ?_; rintro e wx ⟨rfl,hx⟩; subst wx)
 go_region
 all_goals go_wp2
 all_goals go_ret
 all_goals exact ⟨rfl,(H.out.s0 _).drew,((Kept.refl _ w).set1 _ _).drew⟩
theorem rpwrite_far (r:Nat) (B s:ByteArray) (l:Int) (a:Nat) (w:World) (h:RP w r B false l true) (hB:B.size≤1000) (ha:a+s.size≤B.size) (hl:(s.size:Int)≤l) (hl2:l≤9223372036854775807) :
  Calls Tryz.prog 295 #[.pointer (some ⟨r,0,none⟩),.int .i64 a,.string s] w fun e w'=>e=.returned (.int .i64 0)∧RP w' r (putB B a s s.size) false (l - s.size) true∧Kept (In1 r) w w':=by
 have H:=hid h
 have c0:=h.c0
 have c1:=h.c1
 have c2:=h.c2
 have c3:=h.c3
 have f0:=h.fz 0
 have f2:=h.fz 2
 rw [putB_full]
 clear h
 go_enter Tryz.func295,Tryz.ntmps295
 go_wp2_with (go_at_call 294; refine (rperr_in r B false true l _ _ _ H.out hB (by omega)).mono ?_; rintro e wx ⟨rfl,hx⟩; subst wx)
 go_region
 all_goals go_wp2
 all_goals go_ret
 all_goals exact ⟨rfl,((H.out.s0 _).s2 _).drew,(((Kept.refl _ w).set1 _ _).set1 _ _).drew⟩
theorem rpwrite_near (r:Nat) (B s:ByteArray) (l a:Nat) (w:World) (h:RP w r B false l true) (hB:B.size≤1000) (ha:a+s.size≤B.size) (hl:l<s.size) :
  Calls Tryz.prog 295 #[.pointer (some ⟨r,0,none⟩),.int .i64 a,.string s] w fun e w'=>e=.returned (.int .i64 6)∧RP w' r (putB B a s l) true 0 true∧Kept (In1 r) w w':=by
 have H:=hid h
 have c0:=h.c0
 have c1:=h.c1
 have c2:=h.c2
 have c3:=h.c3
 have f0:=h.fz 0
 have f1:=h.fz 1
 have f2:=h.fz 2
 unfold putB
 clear h
 go_enter Tryz.func295,Tryz.ntmps295
 go_wp2_with (go_at_call 294; refine (rperr_in r B false true l _ _ _ H.out hB (by omega)).mono ?_; rintro e wx ⟨rfl,hx⟩; subst wx)
 go_region
 all_goals go_wp2
 all_goals go_ret
 all_goals exact ⟨rfl,(((H.out.s1 _).s0 _).s2 _).drew,((((Kept.refl _ w).set1 _ _).set1 _ _).set1 _ _).drew⟩
theorem write_rp (r:Nat) (B s:ByteArray) (l a l':Int) (off cuts:Bool) (w:World) (h:RP w r B off l' cuts) (hk:Lk l off l' cuts) (hB:B.size≤1000) :
  Calls Tryz.prog 295 #[.pointer (some ⟨r,0,none⟩),.int .i64 a,.string s] w fun e w'=>e=.returned (.int .i64 (wC B s l a))∧(∃ off2 l2 cuts2,RP w' r (wB B s l a) off2 l2 cuts2∧Lk (wL B s l a) off2 l2 cuts2)∧Kept (In1 r) w w':=by
 by_cases hb:wBad B s a
 ·simp only [wC,wB,wL,if_pos hb]
  refine (rpwrite_bound r B s off cuts l' a w h hB hb).mono ?_
  rintro e w' ⟨rfl,rfl⟩
  exact ⟨rfl,⟨off,l',cuts,h,hk⟩,Kept.refl _ _⟩
 ·rcases hk with ⟨rfl,rfl⟩|⟨rfl,rfl,rfl⟩|⟨rfl,rfl,rfl,h0,h1⟩
  ·simp only [wC,wB,wL,if_neg hb,if_pos]
   refine (rpwrite_off r B s cuts l' a w h hB hb).mono ?_
   rintro e w' ⟨rfl,rfl⟩
   exact ⟨rfl,⟨true,l',cuts,h,.inl ⟨rfl,rfl⟩⟩,Kept.refl _ _⟩
  ·have hb':=hb
   unfold wBad at hb'
   obtain ⟨a',rfl⟩:∃ a':Nat,a=a':=⟨a.toNat,by omega⟩
   simp only [wC,wB,wL,if_neg hb,if_neg (show ¬ (-1:Int)=-2 by omega),if_neg (show ¬ ((0:Int)≤-1∧(-1:Int)<(s.size:Int)) by omega),if_pos (show (-1:Int)<0 by omega),Int.toNat_natCast]
   refine (rpwrite_free r B s l' a' w h hB (by omega)).mono ?_
   rintro e w' ⟨rfl,h1,h2⟩
   exact ⟨rfl,⟨_,_,_,h1,.inr (.inl ⟨rfl,rfl,rfl⟩)⟩,h2⟩
  ·have hb':=hb
   unfold wBad at hb'
   obtain ⟨a',rfl⟩:∃ a':Nat,a=a':=⟨a.toNat,by omega⟩
   obtain ⟨l',rfl⟩:∃ l':Nat,l=l':=⟨l.toNat,by omega⟩
   simp only [wC,wB,wL,if_neg hb,if_neg (show ¬ (l':Int)=-2 by omega),Int.toNat_natCast,if_neg (show ¬ (l':Int)<0 by omega)]
   by_cases hn:(0:Int)≤l'∧(l':Int)<s.size
   ·simp only [if_pos hn]
    refine (rpwrite_near r B s l' a' w h hB (by omega) (by omega)).mono ?_
    rintro e w' ⟨rfl,h1,h2⟩
    exact ⟨rfl,⟨_,_,_,h1,.inl ⟨rfl,rfl⟩⟩,h2⟩
   ·simp only [if_neg hn]
    refine (rpwrite_far r B s l' a' w h hB (by omega) (by omega) h1).mono ?_
    rintro e w' ⟨rfl,h3,h4⟩
    exact ⟨rfl,⟨_,_,_,h3,.inr (.inr ⟨rfl,rfl,rfl,by omega,by omega⟩)⟩,h4⟩
theorem cut_rp (r:Nat) (B:ByteArray) (l n l':Int) (off cuts:Bool) (w:World) (h:RP w r B off l' cuts) (hk:Lk l off l' cuts) (hn9:n≤9223372036854775807) :
  Calls Tryz.prog 137 #[.pointer (some ⟨r,0,none⟩),.int .i64 n] w fun e w'=>e=.returned (.int .i64 (cC l n))∧(∃ off2 l2 cuts2,RP w' r B off2 l2 cuts2∧Lk (cL l n) off2 l2 cuts2)∧Kept (In1 r) w w':=by
 by_cases hn:n<0
 ·simp only [cC,cL,if_pos hn]
  refine (rpcut_bound _ n w hn).mono ?_
  rintro e w' ⟨rfl,rfl⟩
  exact ⟨rfl,⟨_,_,_,h,hk⟩,Kept.refl _ _⟩
 ·have fin:∀ (hl:¬ l=-2),off=false→Calls Tryz.prog 137 #[.pointer (some ⟨r,0,none⟩),.int .i64 n] w fun e w'=>e=.returned (.int .i64 (cC l n))∧(∃ off2 l2 cuts2,RP w' r B off2 l2 cuts2∧Lk (cL l n) off2 l2 cuts2)∧Kept (In1 r) w w':=by
   rintro hl rfl
   simp only [cC,cL,if_neg hn,if_neg hl]
   refine (rpcut_ok r B cuts l' n w h hn).mono ?_
   rintro e w' ⟨rfl,h3,h4⟩
   exact ⟨rfl,⟨_,_,_,h3,.inr (.inr ⟨rfl,rfl,rfl,by omega,by omega⟩)⟩,h4⟩
  rcases hk with ⟨rfl,rfl⟩|⟨rfl,rfl,rfl⟩|⟨rfl,rfl,rfl,h0,h1⟩
  ·simp only [cC,cL,if_neg hn,if_pos]
   refine (rpcut_off r B cuts l' n w h hn).mono ?_
   rintro e w' ⟨rfl,rfl⟩
   exact ⟨rfl,⟨_,_,_,h,.inl ⟨rfl,rfl⟩⟩,Kept.refl _ _⟩
  ·exact fin (by omega) rfl
  ·exact fin (by omega) rfl
theorem err_rp (r:Nat) (B:ByteArray) (l a n l':Int) (off cuts:Bool) (w:World) (h:RP w r B off l' cuts) (hk:Lk l off l' cuts) (hB:B.size≤1000) :
  Calls Tryz.prog 294 #[.pointer (some ⟨r,0,none⟩),.int .i64 a,.int .i64 n] w fun e w'=>e=.returned (.int .i64 (rC B l a n))∧w'=w:=by
 by_cases hb:a<0 ∨ n<0 ∨ (B.size:Int) - n<a
 ·simp only [rC,if_pos hb]
  exact rperr_bound r B off cuts l' a n w h hB hb
 ·simp only [rC,if_neg hb]
  refine (rperr_in r B off cuts l' a n w h hB hb).mono ?_
  rintro e w' ⟨rfl,rfl⟩
  refine ⟨?_,rfl⟩
  rcases hk with ⟨rfl,rfl⟩|⟨rfl,rfl,rfl⟩|⟨rfl,rfl,rfl,h0,h1⟩
  ·rfl
  ·rfl
  ·rw [if_neg (show ¬ l=-2 by omega)]; rfl
end Go.Proofs.YtjcflddbaeiajacGreatDoor
