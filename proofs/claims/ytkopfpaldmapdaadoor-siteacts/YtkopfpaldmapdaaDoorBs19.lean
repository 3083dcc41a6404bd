/-
  On the way to SActsProof: JL.
-/
import Derived.Test.YtkopfpaldmapdaaDoorBs16
set_option maxHeartbeats 8000000
set_option maxRecDepth 100000
namespace Go.Proofs.YtkopfpaldmapdaaDoor
open Go.RowKit
theorem read17 (A:Nat→Addr) (w0 w:World) (j p q:Nat) (E:Nat→Nat×St) (over:Bool) (B:ByteArray) (l:Int) (k:Nat) (z:Int) (x:UInt8) (h:JP w0 w j p q E over B l) (hE:HeldE w0 A) (hk:k<12) (hl:¬ l=-2) (hz:z=((18 * k+17:Nat):Int)) (hx:B.data.toList[18 * k+17]? = some x) :
  Calls Tryd.prog 57 #[.pointer (some ⟨p,0,none⟩),.int .i64 z,.int .i64 1] w fun e w'=>e=.returned (.tuple #[.string (bA [x]),.nilIface])∧w'=w:=by
 subst hz
 have e:B.extract (18 * k+17) (18 * k+17+1)=bA [x]:=by
  apply ba_ext
  rw [ext_list,bA_list]
  obtain ⟨h1,h2⟩:=List.getElem?_eq_some_iff.1 hx
  rw [List.drop_eq_getElem_cons h1,h2]
  simp
 have:=pread_ok A p q B l (18 * k+17) 1 w h.pl (h.held hE) h.sz hl (by have:=h.s6; omega)
 rw [e] at this
 exact this
theorem read17_off (A:Nat→Addr) (w0 w:World) (j p q:Nat) (E:Nat→Nat×St) (over:Bool) (B:ByteArray) (k:Nat) (z:Int) (h:JP w0 w j p q E over B (-2)) (hE:HeldE w0 A) (hk:k<12) (hz:z=((18 * k+17:Nat):Int)) :
  Calls Tryd.prog 57 #[.pointer (some ⟨p,0,none⟩),.int .i64 z,.int .i64 1] w fun e w'=>e=.returned (.tuple #[.string ⟨#[]⟩,.iface 189 (.pointer (some (A 5)))])∧w'=w:=by
 subst hz
 exact pread_off A p q B _ 1 w h.pl (h.held hE) h.sz (by have:=h.s6; omega)
theorem write_ok (A:Nat→Addr) (w0 w:World) (j p q:Nat) (E:Nat→Nat×St) (over:Bool) (B s:ByteArray) (l a:Int) (h:JP w0 w j p q E over B l) (hE:HeldE w0 A) (hs:s.size≤1000) (hc:wC B s l a=0) :
  Calls Tryd.prog 91 #[.pointer (some ⟨p,0,none⟩),.int .i64 a,.string s] w fun e w'=>e=.returned .nilIface∧JP w0 w' j p q E over (wB B s l a) (wL B s l a)∧Kept (In2 p q) w w':=write_jp A w0 w j p q E over B s l a h hE hs 0 hc
theorem write_no (A:Nat→Addr) (w0 w:World) (j p q:Nat) (E:Nat→Nat×St) (over:Bool) (B s:ByteArray) (l a:Int) (h:JP w0 w j p q E over B l) (hE:HeldE w0 A) (hs:s.size≤1000) (c:Nat) (hc:wC B s l a=c+1) :
  Calls Tryd.prog 91 #[.pointer (some ⟨p,0,none⟩),.int .i64 a,.string s] w fun e w'=>e=.returned (.iface 189 (.pointer (some (A c))))∧JP w0 w' j p q E over (wB B s l a) (wL B s l a)∧Kept (In2 p q) w w':=write_jp A w0 w j p q E over B s l a h hE hs (c+1) hc
theorem ext17 (n:Nat) (s:St):(bA (bodyL n s ++ [165])).extract 0 17=bA (bodyL n s):=by
 apply ba_ext
 rw [ext_list,bA_list,bA_list,List.drop_zero,Nat.sub_zero]
 exact take_app (bodyL_length n s)
theorem ext18 (n:Nat) (s:St):(bA (bodyL n s ++ [165])).extract 17 (bA (bodyL n s ++ [165])).size=bA [165]:=by
 apply ba_ext
 rw [ext_list,bA_list,bA_list,drop_app (bodyL_length n s),bA_size,List.length_append,bodyL_length]
 rfl
theorem fill_any (A:Nat→Addr) (w0 w:World) (j p q:Nat) (E:Nat→Nat×St) (over:Bool) (B:ByteArray) (l:Int) (k n:Nat) (s:St) (h:JP w0 w j p q E over B l) (hE:HeldE w0 A) (hk:k<12) :
  Calls Tryd.prog 68 #[.pointer (some ⟨j,0,none⟩),.int .i64 ((18 * k:Nat):Int),.string (bA (bodyL n s ++ [165]))] w fun e w'=>e=.returned (ev A (fill3 B l k n s).c)∧JP w0 w' j p q E over (fill3 B l k n s).b (fill3 B l k n s).l∧Kept (In2 p q) w w':=by
 have H:=hid h
 have HE:=hid hE
 have cj:=h.jr.plate
 obtain ⟨a,Ha⟩:∃ a,Hid (18 * k=a):=⟨_,rfl⟩
 have ha:a≤216:=by rw [← Ha.out]; omega
 have hwr:IntKind.i64.wrap ((a:Int)+17)=(a:Int)+17:=by rw [IntKind.wrap_i64]; omega
 have hz:Hid ((a:Int)+17=((18 * k+17:Nat):Int)):=by unfold Hid; rw [← Ha.out]; omega
 have hs1:=slice_high (bA (bodyL n s ++ [165])) 17 17 rfl (by rw [bA_size,List.length_append,bodyL_length]; decide)
 have hs2:=slice_low (bA (bodyL n s ++ [165])) 17 17 rfl (by rw [bA_size,List.length_append,bodyL_length]; decide)
 rw [ext17] at hs1
 rw [ext18] at hs2
 have Z1:Hid ((bA (bodyL n s)).size≤1000):=by unfold Hid; rw [bA_size,bodyL_length]; decide
 rw [Ha.out]
 by_cases hl:l=-2
 ·subst hl
  have F:Hid (fill3 B (-2) k n s=⟨6,B,-2⟩):=by unfold Hid fill3 fill2 fill1; simp
  rw [F.out]
  clear h hE
  go_enter Tryd.func68,Tryd.ntmps68
  go_wp2_with (go_at_call 57; refine (read17_off A w0 _ j p q E over B k _ H.out HE.out hk hz.out).mono ?_; rintro e wx ⟨rfl,hx⟩; subst wx)
  go_ret
  exact ⟨rfl,H.out,Kept.refl _ _⟩
 ·have hlen:18 * k+17<B.data.toList.length:=by rw [← size_list]; have:=h.s6; omega
  obtain ⟨x,hx⟩:∃ x,B.data.toList[18 * k+17]? = some x:=⟨_,List.getElem?_eq_getElem hlen⟩
  have HL:=hid hl
  have HX:=hid hx
  have ix:=idx_str (bA [x]) 0 0 (by rw [bA_size]; exact Nat.one_pos) rfl
  have ix0:((bA [x])[0]'(by rw [bA_size]; exact Nat.one_pos)).toNat=x.toNat:=rfl
  rw [ix0] at ix
  clear ix0 h hE hl hx hlen
  obtain ⟨⟨c1,B1,l1⟩,HF1⟩:∃ o,Hid (fill1 B l k=o):=⟨_,rfl⟩
  obtain ⟨c2,HC2⟩:∃ c,Hid (wC B1 (bA (bodyL n s)) l1 a=c):=⟨_,rfl⟩
  obtain ⟨c3,HC3⟩:∃ c,Hid (wC (wB B1 (bA (bodyL n s)) l1 a) (bA [165]) (wL B1 (bA (bodyL n s)) l1 a) ((a:Int)+17)=c):=⟨_,rfl⟩
  have f1:∀ c,c1=c+1→Hid (fill3 B l k n s=⟨c1,B1,l1⟩):=fun c e=>by
   unfold Hid fill3 fill2
   rw [HF1.out]
   simp [e]
  have f2:∀ c,c1=0→c2=c+1→Hid (fill3 B l k n s=⟨c2,wB B1 (bA (bodyL n s)) l1 a,wL B1 (bA (bodyL n s)) l1 a⟩):=fun c e e2=>by
   unfold Hid fill3 fill2
   rw [HF1.out,if_pos e]
   unfold wOut
   rw [Ha.out,HC2.out,if_neg (by simp [e2])]
  have f3:c1=0→c2=0→Hid (fill3 B l k n s=⟨c3,wB (wB B1 (bA (bodyL n s)) l1 a) (bA [165]) (wL B1 (bA (bodyL n s)) l1 a) ((a:Int)+17),wL (wB B1 (bA (bodyL n s)) l1 a) (bA [165]) (wL B1 (bA (bodyL n s)) l1 a) ((a:Int)+17)⟩):=fun e e2=>by
   unfold Hid fill3 fill2
   rw [HF1.out,if_pos e]
   unfold wOut
   rw [Ha.out,HC2.out,if_pos e2,show ((a+17:Nat):Int)=(a:Int)+17 by omega,HC3.out]
  obtain ⟨O,HO⟩:∃ o,Hid (fill3 B l k n s=o):=⟨_,rfl⟩
  rw [HO.out]
  rw [HO.out] at f1 f2 f3
  have Z2:Hid ((bA [165]).size≤1000):=by unfold Hid; rw [bA_size]; decide
  have Z0:Hid ((bA [0]).size≤1000):=by unfold Hid; rw [bA_size]; decide
  go_enter Tryd.func68,Tryd.ntmps68
  go_upto_if 26 with (go_at_call 57; refine (read17 A w0 _ j p q E over B l k _ x H.out HE.out hk HL.out hz.out HX.out).mono ?_; rintro e wx ⟨rfl,hx⟩; subst wx)
  go_cut [] from 7 (fun wx=>c1=0∧JP w0 wx j p q E over B1 l1∧Kept (In2 p q) w wx)
  case first =>
   by_cases hx0:x=0
   ·subst hx0
    have e1:fill1 B l k=⟨0,B,l⟩:=by unfold fill1; rw [if_neg HL.out,if_pos HX.out]
    rw [HF1.out] at e1
    injection e1 with e1 e2 e3
    subst e1 e2 e3
    go_wp2_with fail
    go_meet
    exact ⟨by first|trivial|rfl,H.out,Kept.refl _ _⟩
   ·have hx1:¬ x.toNat=0:=fun g=>hx0 (UInt8.toNat_inj.1 g)
    have e1:fill1 B l k=wOut B (bA [0]) l (18 * k+17):=by unfold fill1; rw [if_neg HL.out,if_neg (fun g=>hx0 (by rw [HX.out] at g; exact Option.some.inj g))]
    rw [HF1.out] at e1
    unfold wOut at e1
    rw [Ha.out] at e1
    injection e1 with e1 e2 e3
    have E1:=hid e1.symm
    subst e2 e3
    clear e1 f2 f3 HC2 HC3 HF1
    rcases c1 with _|c
    ·go_wp2_with (go_at_call 91; refine (write_ok A w0 _ j p q E over B (bA [0]) l _ H.out HE.out Z0.out E1.out).mono ?_; rintro e w2 ⟨rfl,h2,k2⟩; have K2:=hid k2; clear k2; have H2:=hid h2; clear h2)
     go_meet
     exact ⟨by first|trivial|rfl,H2.out,K2.out⟩
    ·have F:=f1 c rfl
     go_wp2_with (go_at_call 91; refine (write_no A w0 _ j p q E over B (bA [0]) l _ H.out HE.out Z0.out c E1.out).mono ?_; rintro e w2 ⟨rfl,h2,k2⟩; have K2:=hid k2; clear k2; have H2:=hid h2; clear h2)
     go_ret
     exact ⟨by rw [F.out]; rfl,by rw [F.out]; exact H2.out,K2.out⟩
  case rest =>
   obtain ⟨hc1,hj,hk0⟩:=hcut
   have HK:=hid hk0
   have HJ:=hid hj
   have HC1:=hid hc1
   have cjc:=hj.jr.plate
   clear hc1 hj hk0 cj H
   rcases c2 with _|c
   ·have F:=f3 HC1.out rfl
    clear f1 f2 f3
    go_wp2_with fail
    go_region_held3 (fun w'=>w'.cell? ⟨j,0,none⟩=some (.pointer (some ⟨p,0,none⟩))) (go_keep) (first|(go_at_call 91; (with_reducible refine (write_ok A w0 _ j p q E over B1 (bA (bodyL n s)) l1 a HJ.out.drew HE.out Z1.out HC2.out).mono ?_); rintro e w2 ⟨rfl,h2,k2⟩; have K2:=hid k2; clear k2; have cj2:=h2.jr.plate; have H2:=hid h2; clear h2))
    all_goals go_wp2_with fail
    go_region_held3 (fun w'=>w'.cell? ⟨j,0,none⟩=some (.pointer (some ⟨p,0,none⟩))) (go_keep) (first|(go_at_call 91; (with_reducible refine (write_jp A w0 _ j p q E over _ (bA [165]) _ _ H2.out.drew HE.out Z2.out c3 HC3.out).mono ?_); rintro e w3 ⟨rfl,h3,k3⟩; have K3:=hid k3; clear k3; have cj3:=h3.jr.plate; have H3:=hid h3; clear h3))
    all_goals go_wp2_with fail
    go_ret
    exact ⟨by rw [F.out]; rfl,by rw [F.out]; exact H3.out,(HK.out.drew.trans K2.out).drew.trans K3.out⟩
   ·have F:=f2 c HC1.out rfl
    clear f1 f2 f3
    go_wp2_with fail
    go_region_held3 (fun w'=>w'.cell? ⟨j,0,none⟩=some (.pointer (some ⟨p,0,none⟩))) (go_keep) (first|(go_at_call 91; (with_reducible refine (write_no A w0 _ j p q E over B1 (bA (bodyL n s)) l1 a HJ.out.drew HE.out Z1.out c HC2.out).mono ?_); rintro e w2 ⟨rfl,h2,k2⟩; have K2:=hid k2; clear k2; have cj2:=h2.jr.plate; have H2:=hid h2; clear h2))
    all_goals go_wp2_with fail
    go_ret
    exact ⟨by rw [F.out]; rfl,by rw [F.out]; exact H2.out,HK.out.drew.trans K2.out⟩
end Go.Proofs.YtkopfpaldmapdaaDoor
