/-
  On the way to SActsProof: P6 P7 P8.
-/
import Derived.Test.YtkopfpaldmapdaaDoorBs10
set_option maxHeartbeats 8000000
set_option maxRecDepth 100000
namespace Go.Proofs.YtkopfpaldmapdaaDoor
open Go.RowKit
def RP (w:World) (r:Nat) (B:ByteArray) (off:Bool) (l:Int) (cuts:Bool):Prop :=
 w.heap[r]? = some (.cells #[.string B,.bool off,.int .i64 l,.bool cuts] 52 (0,0))
theorem RP.c0 {w:World} {r:Nat} {B:ByteArray} {off cuts:Bool} {l:Int} (h:RP w r B off l cuts):w.cell? ⟨r,0,none⟩=some (.string B):=by rw [cell_of_row w r 0 _ _ _ h]; rfl
theorem RP.c1 {w:World} {r:Nat} {B:ByteArray} {off cuts:Bool} {l:Int} (h:RP w r B off l cuts):w.cell? ⟨r,1,none⟩=some (.bool off):=by rw [cell_of_row w r 1 _ _ _ h]; rfl
theorem RP.c2 {w:World} {r:Nat} {B:ByteArray} {off cuts:Bool} {l:Int} (h:RP w r B off l cuts):w.cell? ⟨r,2,none⟩=some (.int .i64 l):=by rw [cell_of_row w r 2 _ _ _ h]; rfl
theorem RP.c3 {w:World} {r:Nat} {B:ByteArray} {off cuts:Bool} {l:Int} (h:RP w r B off l cuts):w.cell? ⟨r,3,none⟩=some (.bool cuts):=by rw [cell_of_row w r 3 _ _ _ h]; rfl
theorem RP.fz {w:World} {r:Nat} {B:ByteArray} {off cuts:Bool} {l:Int} (h:RP w r B off l cuts) (i:Nat):w.frozen? ⟨r,i,none⟩=false:=frozen_of_row w r i _ _ h
theorem RP.s0 {w:World} {r:Nat} {B:ByteArray} {off cuts:Bool} {l:Int} (h:RP w r B off l cuts) (B':ByteArray):RP (w.setCell ⟨r,0,none⟩ (.string B')) r B' off l cuts:=by unfold RP; rw [heap_setCell_same w r 0 _ _ _ h]; rfl
theorem RP.s1 {w:World} {r:Nat} {B:ByteArray} {off cuts:Bool} {l:Int} (h:RP w r B off l cuts) (b:Bool):RP (w.setCell ⟨r,1,none⟩ (.bool b)) r B b l cuts:=by unfold RP; rw [heap_setCell_same w r 1 _ _ _ h]; rfl
theorem RP.s2 {w:World} {r:Nat} {B:ByteArray} {off cuts:Bool} {l:Int} (h:RP w r B off l cuts) (l':Int):RP (w.setCell ⟨r,2,none⟩ (.int .i64 l')) r B off l' cuts:=by unfold RP; rw [heap_setCell_same w r 2 _ _ _ h]; rfl
theorem RP.s3 {w:World} {r:Nat} {B:ByteArray} {off cuts:Bool} {l:Int} (h:RP w r B off l cuts) (b:Bool):RP (w.setCell ⟨r,3,none⟩ (.bool b)) r B off l b:=by unfold RP; rw [heap_setCell_same w r 3 _ _ _ h]; rfl
theorem RP.drew {w:World} {r:Nat} {B:ByteArray} {off cuts:Bool} {l:Int} (h:RP w r B off l cuts):RP w.drew r B off l cuts:=h
theorem RP.kept {S:Nat→Prop} {w w':World} {r:Nat} {B:ByteArray} {off cuts:Bool} {l:Int} (h:RP w r B off l cuts) (k:Kept S w w') (hr:¬ S r):RP w' r B off l cuts:=k.row h hr
theorem rperr_bound (r:Nat) (B:ByteArray) (off cuts:Bool) (l a n:Int) (w:World) (h:RP w r B off l cuts) (hB:B.size≤1000) (hb:a<0 ∨ n<0 ∨ (B.size:Int) - n<a) :
  Calls Tryd.prog 73 #[.pointer (some ⟨r,0,none⟩),.int .i64 a,.int .i64 n] w fun e w'=>e=.returned (.int .i64 2)∧w'=w:=by
 have c0:=h.c0
 clear h
 by_cases h1:a<0
 ·clear hb
  go_enter Tryd.func73,Tryd.ntmps73
  go_wp2
  go_ret
  exact ⟨rfl,rfl⟩
 ·by_cases h2:n<0
  ·clear hb
   go_enter Tryd.func73,Tryd.ntmps73
   go_wp2
   go_ret
   exact ⟨rfl,rfl⟩
  ·by_cases h3:(B.size:Int)<a
   ·clear hb
    go_enter Tryd.func73,Tryd.ntmps73
    go_wp2
    go_ret
    exact ⟨rfl,rfl⟩
   ·have h4:(B.size:Int) - a<n:=by omega
    clear hb
    go_enter Tryd.func73,Tryd.ntmps73
    go_wp2
    go_ret
    exact ⟨rfl,rfl⟩
theorem rperr_in (r:Nat) (B:ByteArray) (off cuts:Bool) (l a n:Int) (w:World) (h:RP w r B off l cuts) (hB:B.size≤1000) (hb:¬ (a<0 ∨ n<0 ∨ (B.size:Int) - n<a)) :
  Calls Tryd.prog 73 #[.pointer (some ⟨r,0,none⟩),.int .i64 a,.int .i64 n] w fun e w'=>e=.returned (.int .i64 (if off then 6 else 0))∧w'=w:=by
 have c0:=h.c0
 have c1:=h.c1
 have h1:¬ a<0:=fun g=>hb (.inl g)
 have h2:¬ n<0:=fun g=>hb (.inr (.inl g))
 have h3:¬ (B.size:Int) - n<a:=fun g=>hb (.inr (.inr g))
 have h4:¬ (B.size:Int)<a:=by omega
 have h5:¬ (B.size:Int) - a<n:=by omega
 clear h hb
 cases off with
 | true =>
  go_enter Tryd.func73,Tryd.ntmps73
  go_wp2
  go_ret
  exact ⟨rfl,rfl⟩
 | false =>
  go_enter Tryd.func73,Tryd.ntmps73
  go_wp2
  go_ret
  exact ⟨rfl,rfl⟩
theorem rpcut_bound (v:Value) (n:Int) (w:World) (hn:n<0) :
  Calls Tryd.prog 21 #[v,.int .i64 n] w fun e w'=>e=.returned (.int .i64 2)∧w'=w:=by
 go_enter Tryd.func21,Tryd.ntmps21
 go_wp2
 go_ret
 exact ⟨rfl,rfl⟩
theorem rpcut_off (r:Nat) (B:ByteArray) (cuts:Bool) (l n:Int) (w:World) (h:RP w r B true l cuts) (hn:¬ n<0) :
  Calls Tryd.prog 21 #[.pointer (some ⟨r,0,none⟩),.int .i64 n] w fun e w'=>e=.returned (.int .i64 6)∧w'=w:=by
 have c1:=h.c1
 clear h
 go_enter Tryd.func21,Tryd.ntmps21
 go_wp2
 go_ret
 exact ⟨rfl,rfl⟩
theorem rpcut_ok (r:Nat) (B:ByteArray) (cuts:Bool) (l n:Int) (w:World) (h:RP w r B false l cuts) (hn:¬ n<0) :
  Calls Tryd.prog 21 #[.pointer (some ⟨r,0,none⟩),.int .i64 n] w fun e w'=>e=.returned (.int .i64 0)∧RP w' r B false n true∧Kept (In1 r) w w':=by
 have c1:=h.c1
 have c2:=h.c2
 have c3:=h.c3
 have f2:=h.fz 2
 have f3:=h.fz 3
 have H:=hid ((h.s3 true).s2 n)
 clear h
 go_enter Tryd.func21,Tryd.ntmps21
 go_wp2
 go_ret
 exact ⟨rfl,H.out,((Kept.refl _ w).set1 _ _).set1 _ _⟩
theorem rpon_any (r:Nat) (B:ByteArray) (off cuts:Bool) (l:Int) (w:World) (h:RP w r B off l cuts) :
  Calls Tryd.prog 22 #[.pointer (some ⟨r,0,none⟩)] w fun e w'=>e=.returned (.tuple #[])∧RP w' r B false l false∧Kept (In1 r) w w':=by
 have c1:=h.c1
 have c3:=h.c3
 have f1:=h.fz 1
 have f3:=h.fz 3
 have H:=hid ((h.s1 false).s3 false)
 clear h
 go_enter Tryd.func22,Tryd.ntmps22
 go_wp2
 go_end0
 exact ⟨rfl,H.out,((Kept.refl _ w).set1 _ _).set1 _ _⟩
theorem rpwrite_bound (r:Nat) (B s:ByteArray) (off cuts:Bool) (l a:Int) (w:World) (h:RP w r B off l cuts) (hB:B.size≤1000) (hb:a<0 ∨ (B.size:Int) - s.size<a) :
  Calls Tryd.prog 74 #[.pointer (some ⟨r,0,none⟩),.int .i64 a,.string s] w fun e w'=>e=.returned (.int .i64 2)∧w'=w:=by
 have H:=hid h
 clear h
 go_enter Tryd.func74,Tryd.ntmps74
 go_wp2_with (go_at_call 73; refine (rperr_bound r B off cuts l _ _ _ H.out hB (by omega)).mono ?_; rintro e w' ⟨rfl,rfl⟩)
 go_ret
 exact ⟨rfl,rfl⟩
theorem rpwrite_off (r:Nat) (B s:ByteArray) (cuts:Bool) (l a:Int) (w:World) (h:RP w r B true l cuts) (hB:B.size≤1000) (hb:¬ (a<0 ∨ (B.size:Int) - s.size<a)) :
  Calls Tryd.prog 74 #[.pointer (some ⟨r,0,none⟩),.int .i64 a,.string s] w fun e w'=>e=.returned (.int .i64 6)∧w'=w:=by
 have H:=hid h
 clear h
 go_enter Tryd.func74,Tryd.ntmps74
 go_wp2_with (go_at_call 73; refine (rperr_in r B true cuts l _ _ _ H.out hB (by omega)).mono ?_; rw [if_pos rfl]; rintro e w' ⟨rfl,rfl⟩)
 go_ret
 exact ⟨rfl,rfl⟩
theorem putB_full (B:ByteArray) (a:Nat) (s:ByteArray):putB B a s s.size=B.extract 0 a ++ s ++ B.extract (a+s.size) B.size:=by
 unfold putB; simp
theorem rpwrite_free (r:Nat) (B s:ByteArray) (l:Int) (a:Nat) (w:World) (h:RP w r B false l false) (hB:B.size≤1000) (ha:a+s.size≤B.size) :
  Calls Tryd.prog 74 #[.pointer (some ⟨r,0,none⟩),.int .i64 a,.string s] w fun e w'=>e=.returned (.int .i64 0)∧RP w' r (putB B a s s.size) false l false∧Kept (In1 r) w w':=by
 have H:=hid h
 have c0:=h.c0
 have c1:=h.c1
 have c3:=h.c3
 have f0:=h.fz 0
 rw [putB_full]
 clear h
 go_enter Tryd.func74,Tryd.ntmps74
 go_wp2_with (go_at_call 73; refine (rperr_in r B false false l _ _ _ H.out hB (by omega)).mono ?_; rintro e wx ⟨rfl,hx⟩; subst wx)
 go_region
 all_goals go_wp2
 all_goals go_ret
 all_goals exact ⟨rfl,(H.out.s0 _).drew,((Kept.refl _ w).set1 _ _).drew⟩
theorem rpwrite_far (r:Nat) (B s:ByteArray) (l:Int) (a:Nat) (w:World) (h:RP w r B false l true) (hB:B.size≤1000) (ha:a+s.size≤B.size) (hl:(s.size:Int)≤l) (hl2:l≤9223372036854775807) :
  Calls Tryd.prog 74 #[.pointer (some ⟨r,0,none⟩),.int .i64 a,.string s] w fun e w'=>e=.returned (.int .i64 0)∧RP w' r (putB B a s s.size) false (l - s.size) true∧Kept (In1 r) w w':=by
 have H:=hid h
 have c0:=h.c0
 have c1:=h.c1
 have c2:=h.c2
 have c3:=h.c3
 have f0:=h.fz 0
 have f2:=h.fz 2
 rw [putB_full]
 clear h
 go_enter Tryd.func74,Tryd.ntmps74
 go_wp2_with (go_at_call 73; refine (rperr_in r B false true l _ _ _ H.out hB (by omega)).mono ?_; rintro e wx ⟨rfl,hx⟩; subst wx)
 go_region
 all_goals go_wp2
 all_goals go_ret
 all_goals exact ⟨rfl,((H.out.s0 _).s2 _).drew,(((Kept.refl _ w).set1 _ _).set1 _ _).drew⟩
theorem rpwrite_near (r:Nat) (B s:ByteArray) (l a:Nat) (w:World) (h:RP w r B false l true) (hB:B.size≤1000) (ha:a+s.size≤B.size) (hl:l<s.size) :
  Calls Tryd.prog 74 #[.pointer (some ⟨r,0,none⟩),.int .i64 a,.string s] w fun e w'=>e=.returned (.int .i64 6)∧RP w' r (putB B a s l) true 0 true∧Kept (In1 r) w w':=by
 have H:=hid h
 have c0:=h.c0
 have c1:=h.c1
 have c2:=h.c2
 have c3:=h.c3
 have f0:=h.fz 0
 have f1:=h.fz 1
 have f2:=h.fz 2
 unfold putB
 clear h
 go_enter Tryd.func74,Tryd.ntmps74
 go_wp2_with (go_at_call 73; refine (rperr_in r B false true l _ _ _ H.out hB (by omega)).mono ?_; rintro e wx ⟨rfl,hx⟩; subst wx)
 go_region
 all_goals go_wp2
 all_goals go_ret
 all_goals exact ⟨rfl,(((H.out.s1 _).s0 _).s2 _).drew,((((Kept.refl _ w).set1 _ _).set1 _ _).set1 _ _).drew⟩
theorem write_rp (r:Nat) (B s:ByteArray) (l a l':Int) (off cuts:Bool) (w:World) (h:RP w r B off l' cuts) (hk:Lk l off l' cuts) (hB:B.size≤1000) :
  Calls Tryd.prog 74 #[.pointer (some ⟨r,0,none⟩),.int .i64 a,.string s] w fun e w'=>e=.returned (.int .i64 (wC B s l a))∧(∃ off2 l2 cuts2,RP w' r (wB B s l a) off2 l2 cuts2∧Lk (wL B s l a) off2 l2 cuts2)∧Kept (In1 r) w w':=by
 by_cases hb:wBad B s a
 ·simp only [wC,wB,wL,if_pos hb]
  refine (rpwrite_bound r B s off cuts l' a w h hB hb).mono ?_
  rintro e w' ⟨rfl,rfl⟩
  exact ⟨rfl,⟨off,l',cuts,h,hk⟩,Kept.refl _ _⟩
 ·rcases hk with ⟨rfl,rfl⟩|⟨rfl,rfl,rfl⟩|⟨rfl,rfl,rfl,h0,h1⟩
  ·simp only [wC,wB,wL,if_neg hb,if_pos]
   refine (rpwrite_off r B s cuts l' a w h hB hb).mono ?_
   rintro e w' ⟨rfl,rfl⟩
   exact ⟨rfl,⟨true,l',cuts,h,.inl ⟨rfl,rfl⟩⟩,Kept.refl _ _⟩
  ·have hb':=hb
   unfold wBad at hb'
   obtain ⟨a',rfl⟩:∃ a':Nat,a=a':=⟨a.toNat,by omega⟩
   simp only [wC,wB,wL,if_neg hb,if_neg (show ¬ (-1:Int)=-2 by omega),if_neg (show ¬ ((0:Int)≤-1∧(-1:Int)<(s.size:Int)) by omega),if_pos (show (-1:Int)<0 by omega),Int.toNat_natCast]
   refine (rpwrite_free r B s l' a' w h hB (by omega)).mono ?_
   rintro e w' ⟨rfl,h1,h2⟩
   exact ⟨rfl,⟨_,_,_,h1,.inr (.inl ⟨rfl,rfl,rfl⟩)⟩,h2⟩
  ·have hb':=hb
   unfold wBad at hb'
   obtain ⟨a',rfl⟩:∃ a':Nat,a=a':=⟨a.toNat,by omega⟩
   obtain ⟨l',rfl⟩:∃ l':Nat,l=l':=⟨l.toNat,by omega⟩
   simp only [wC,wB,wL,if_neg hb,if_neg (show ¬ (l':Int)=-2 by omega),Int.toNat_natCast,if_neg (show ¬ (l':Int)<0 by omega)]
   by_cases hn:(0:Int)≤l'∧(l':Int)<s.size
   ·simp only [if_pos hn]
    refine (rpwrite_near r B s l' a' w h hB (by omega) (by omega)).mono ?_
    rintro e w' ⟨rfl,h1,h2⟩
    exact ⟨rfl,⟨_,_,_,h1,.inl ⟨rfl,rfl⟩⟩,h2⟩
   ·simp only [if_neg hn]
    refine (rpwrite_far r B s l' a' w h hB (by omega) (by omega) h1).mono ?_
    rintro e w' ⟨rfl,h3,h4⟩
    exact ⟨rfl,⟨_,_,_,h3,.inr (.inr ⟨rfl,rfl,rfl,by omega,by omega⟩)⟩,h4⟩
theorem cut_rp (r:Nat) (B:ByteArray) (l n l':Int) (off cuts:Bool) (w:World) (h:RP w r B off l' cuts) (hk:Lk l off l' cuts) (hn9:n≤9223372036854775807) :
  Calls Tryd.prog 21 #[.pointer (some ⟨r,0,none⟩),.int .i64 n] w fun e w'=>e=.returned (.int .i64 (cC l n))∧(∃ off2 l2 cuts2,RP w' r B off2 l2 cuts2∧Lk (cL l n) off2 l2 cuts2)∧Kept (In1 r) w w':=by
 by_cases hn:n<0
 ·simp only [cC,cL,if_pos hn]
  refine (rpcut_bound _ n w hn).mono ?_
  rintro e w' ⟨rfl,rfl⟩
  exact ⟨rfl,⟨_,_,_,h,hk⟩,Kept.refl _ _⟩
 ·have fin:∀ (hl:¬ l=-2),off=false→Calls Tryd.prog 21 #[.pointer (some ⟨r,0,none⟩),.int .i64 n] w fun e w'=>e=.returned (.int .i64 (cC l n))∧(∃ off2 l2 cuts2,RP w' r B off2 l2 cuts2∧Lk (cL l n) off2 l2 cuts2)∧Kept (In1 r) w w':=by
   rintro hl rfl
   simp only [cC,cL,if_neg hn,if_neg hl]
   refine (rpcut_ok r B cuts l' n w h hn).mono ?_
   rintro e w' ⟨rfl,h3,h4⟩
   exact ⟨rfl,⟨_,_,_,h3,.inr (.inr ⟨rfl,rfl,rfl,by omega,by omega⟩)⟩,h4⟩
  rcases hk with ⟨rfl,rfl⟩|⟨rfl,rfl,rfl⟩|⟨rfl,rfl,rfl,h0,h1⟩
  ·simp only [cC,cL,if_neg hn,if_pos]
   refine (rpcut_off r B cuts l' n w h hn).mono ?_
   rintro e w' ⟨rfl,rfl⟩
   exact ⟨rfl,⟨_,_,_,h,.inl ⟨rfl,rfl⟩⟩,Kept.refl _ _⟩
  ·exact fin (by omega) rfl
  ·exact fin (by omega) rfl
theorem err_rp (r:Nat) (B:ByteArray) (l a n l':Int) (off cuts:Bool) (w:World) (h:RP w r B off l' cuts) (hk:Lk l off l' cuts) (hB:B.size≤1000) :
  Calls Tryd.prog 73 #[.pointer (some ⟨r,0,none⟩),.int .i64 a,.int .i64 n] w fun e w'=>e=.returned (.int .i64 (rC B l a n))∧w'=w:=by
 by_cases hb:a<0 ∨ n<0 ∨ (B.size:Int) - n<a
 ·simp only [rC,if_pos hb]
  exact rperr_bound r B off cuts l' a n w h hB hb
 ·simp only [rC,if_neg hb]
  refine (rperr_in r B off cuts l' a n w h hB hb).mono ?_
  rintro e w' ⟨rfl,rfl⟩
  refine ⟨?_,rfl⟩
  rcases hk with ⟨rfl,rfl⟩|⟨rfl,rfl,rfl⟩|⟨rfl,rfl,rfl,h0,h1⟩
  ·rfl
  ·rfl
  ·rw [if_neg (show ¬ l=-2 by omega)]; rfl
end Go.Proofs.YtkopfpaldmapdaaDoor
