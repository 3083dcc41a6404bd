/-
  On the way to SPlaysProof: O33.
-/
import Derived.Test.YtaehdgemkafinaaGreatDoorBw44
set_option maxHeartbeats 8000000
set_option maxRecDepth 100000
namespace Go.Proofs.YtaehdgemkafinaaGreatDoor
open Go.RowKit
def lofV:Option Bs→Value
 | none=>.tuple #[.string ⟨#[]⟩,.bool false]
 | some l=>.tuple #[.string (bB l),.bool true]
theorem fit_snoc (f:Bs):∀ (l:List Int) (j:Nat) (z:Int),fitO f j (l ++ [z]) ↔ fitO f j l∧0≤z∧z≤capO f (j+l.length)
 | [],j,z=>by simp [fitO,fitB]
 | n :: l,j,z=>by
  rw [List.cons_append,fit_cons,fit_cons,fit_snoc f l (j+1) z,List.length_cons,show j+1+l.length=j+(l.length+1) by omega]
  exact and_assoc.symm
theorem fit_cut (f:Bs):∀ (l r:List Int) (j:Nat),fitO f j (l ++ r)→fitO f j l
 | [],_,_,_=>rfl
 | _ :: l,r,j,h=>fit_cons.2 ⟨(fit_cons.1 h).1,fit_cut f l r (j+1) (fit_cons.1 h).2⟩
theorem fit_take {f:Bs} {l:List Int} (k:Nat) (h:fitO f 0 l):fitO f 0 (l.take k):=fit_cut f (l.take k) (l.drop k) 0 (by rw [List.take_append_drop]; exact h)
theorem take_sn {l:List Int} {k:Nat} (h:k<l.length):l.take (k+1)=l.take k ++ [l[k]'h]:=List.take_succ_eq_append_getElem h
theorem fit_at {f:Bs} {l:List Int} {k:Nat} (h:k<l.length):fitO f 0 (l.take (k+1)) ↔ fitO f 0 (l.take k)∧0≤l[k]'h∧l[k]'h≤capO f k:=by
 rw [take_sn h,fit_snoc,List.length_take,Nat.min_eq_left (by omega),Nat.zero_add]
theorem bB_app (a b:Bs):bB a ++ bB b=bB (a ++ b):=bA_append a b
structure LoI (w wr:World) (f wd:Bs) (ns:List Int) (k:Nat) (o:Value):Prop where
 bel:Below w.heap.size w wr
 out:o=.string (bB (wd ++ numsO (ns.take k)))
 fit:fitO f 0 (ns.take k)
theorem form_other:∀ i,i<19→0<i→((lformO.getD i []) == [43])=false∧(lformO.getD i []).length≤2∧∀ k (hk:k<(lformO.getD i []).length),((lformO.getD i [])[k]'hk=100∧capO (lformO.getD i []) k=9) ∨ ((lformO.getD i [])[k]'hk=110∧capO (lformO.getD i []) k=99999):=by decide
section
variable {w:World} {wd:ByteArray} {v:Value} {ns:List Int} {i:Nat}
theorem lof_none (hc:cmdO wd.data.toList=none):Calls Tryz.prog 11 #[.agg #[.string wd,v]] w fun e w'=>e=.returned (lofV none)∧Below w.heap.size w w':=by
 obtain ⟨W,HW⟩:∃ W,Hid (w.alloc (.cells #[.string wd,v] 36)=W):=⟨_,rfl⟩
 have HB:Hid (Below w.heap.size w W):=by rw [← HW.out]; exact (Below.refl _ _).alloc (Nat.le_refl _) _
 have hr:W.heap[w.heap.size]? = some (.cells #[.string wd,v] 36 (0,0)):=by rw [← HW.out]; exact heap_alloc_new w _
 have c0:W.cell? ⟨w.heap.size,0,none⟩=some (.string wd):=by rw [cell_of_row _ _ _ _ _ _ hr]; rfl
 have HF:=hid (fof_any wd W)
 have hf:fofO wd.data.toList=.tuple #[.string ⟨#[]⟩,.bool false]:=by unfold fofO; rw [hc]
 rw [hf] at HF
 have hW:=HW.out
 clear hr hf hc
 go_enter Tryz.func11,Tryz.ntmps11
 go_wp2_with fail
 refine HF.out.mono ?_
 rintro e w1 ⟨rfl,hx⟩
 subst w1
 go_wp2_with fail
 go_ret2
 exact ⟨rfl,HB.out⟩
theorem lof_zero (hc:cmdO wd.data.toList=some 0) (hv:IsSl w v ns) (hl:ns.length≤12) (hs:wd.size≤60):Calls Tryz.prog 11 #[.agg #[.string wd,v]] w fun e w'=>e=.returned (lofV (if manyO 0 ns∧fitO [43] 0 ns then some (wd.data.toList ++ numsO ns) else none))∧Below w.heap.size w w':=by
 obtain ⟨W,HW⟩:∃ W,Hid (w.alloc (.cells #[.string wd,v] 36)=W):=⟨_,rfl⟩
 have HB:Hid (Below w.heap.size w W):=by rw [← HW.out]; exact (Below.refl _ _).alloc (Nat.le_refl _) _
 have hr:W.heap[w.heap.size]? = some (.cells #[.string wd,v] 36 (0,0)):=by rw [← HW.out]; exact heap_alloc_new w _
 have c0:W.cell? ⟨w.heap.size,0,none⟩=some (.string wd):=by rw [cell_of_row _ _ _ _ _ _ hr]; rfl
 have c1:W.cell? ⟨w.heap.size,1,none⟩=some v:=by rw [cell_of_row _ _ _ _ _ _ hr]; rfl
 have HF:=hid (fof_any wd W)
 have hf:fofO wd.data.toList=.tuple #[.string ⟨#[43]⟩,.bool true]:=by unfold fofO; rw [hc]; rfl
 rw [hf] at HF
 have hW:=HW.out
 have HC1:=hid c1
 obtain ⟨n,Hn⟩:∃ n,Hid (ns.length=n):=⟨_,rfl⟩
 obtain ⟨r,Hr⟩:∃ r,Hid ((if manyO 0 ns∧fitO [43] 0 ns then some (wd.data.toList ++ numsO ns) else none)=r):=⟨_,rfl⟩
 rw [Hr.out]
 obtain ⟨a,cap,hve,-,-,hcell⟩:=hv.later HB.out
 rw [Hn.out] at hve hcell hl
 subst hve
 have HCl:=hid hcell
 have hz:(n:Int)=0 ∨ ¬ (n:Int)=0:=by omega
 clear hr hf hc hv hcell
 rcases hz with hz|hz
 ·have hn0:n=0:=by omega
  have hno:¬ (manyO 0 ns∧fitO [43] 0 ns):=fun q=>q.1 (List.length_eq_zero_iff.1 (by rw [Hn.out]; exact hn0))
  have Hr0:Hid (none=r):=by rw [← Hr.out,if_neg hno]; exact hid rfl
  clear hno
  subst hn0
  go_enter Tryz.func11,Tryz.ntmps11
  go_wp2_with fail
  refine HF.out.mono ?_
  rintro e w1 ⟨rfl,hx⟩
  subst w1
  go_wp2_with fail
  go_ret2
  exact ⟨by rw [← Hr0.out]; rfl,HB.out⟩
 ·have hz2:((n:Int) == 0)=false:=by simpa using hz
  have HMany:Hid (manyO 0 ns):=by
   intro e
   rw [e] at Hn
   exact hz (by rw [← Hn.out]; rfl)
  have HE0:Hid (Value.string wd=.string (bB (wd.data.toList ++ numsO (ns.take 0)))):=by
   show Value.string wd=.string ⟨(wd.data.toList ++ []).toArray⟩
   rw [List.append_nil]
  go_enter Tryz.func11,Tryz.ntmps11
  go_wp2_with fail
  refine HF.out.mono ?_
  rintro e w1 ⟨rfl,hx⟩
  subst w1
  go_wp2_with fail
  go_loopw [6,7] (fun o u wr=>∃ k:Nat,k≤n∧u=.int .i64 (k:Int)∧Hid (LoI W wr [43] wd.data.toList ns k o)) (fun _ u _=>n - (intOf u).toNat)
  case atStart=>exact ⟨0,Nat.zero_le _,rfl,⟨Below.refl _ _,HE0.out,rfl⟩⟩
  case round =>
   obtain ⟨k,hk,rfl,HI⟩:=hrel
   have d1:=cell_later HI.out.bel HC1.out
   have ho:=HI.out.out
   subst ho
   by_cases hlt:k<n
   ·have hlt2:(k:Int)<(n:Int):=by omega
    have hkx:k<ns.length:=by rw [Hn.out]; exact hlt
    obtain ⟨b,off,hab,hcl⟩:=HCl.out (by omega)
    subst hab
    have d2:=cell_later HI.out.bel (hcl k hlt)
    rw [getD_lt ns k hkx] at d2
    have hfa:=fit_at (f:=[43]) hkx
    obtain ⟨z,Hz⟩:∃ z,Hid (ns[k]'hkx=z):=⟨_,rfl⟩
    have hts:=take_sn hkx
    rw [Hz.out] at d2 hfa hts
    have hcap:capO [43] k=99999:=rfl
    rw [hcap] at hfa
    have HFa:=hid hfa
    have HTs:=hid hts
    clear hcl hfa hts hcap
    by_cases hbad:z<0 ∨ 99999<z
    ·have hno:¬ (manyO 0 ns∧fitO [43] 0 ns):=fun q=>by
      have:=HFa.out.1 (fit_take (k+1) q.2)
      omega
     have Hr0:Hid (none=r):=by rw [← Hr.out,if_neg hno]; exact hid rfl
     clear hno
     by_cases hz0:z<0
     ·go_wp2_with fail
      go_ret2
      exact ⟨by rw [← Hr0.out]; rfl,below_trans HB.out HI.out.bel⟩
     ·have hz9:99999<z:=by omega
      go_wp2_with fail
      go_ret2
      exact ⟨by rw [← Hr0.out]; rfl,below_trans HB.out HI.out.bel⟩
    ·have hz0:¬ z<0:=by omega
     have hz9:¬ 99999<z:=by omega
     obtain ⟨zn,rfl⟩:=Int.eq_ofNat_of_zero_le (show 0≤z by omega)
     have HD:=hid (dec_any zn wr (by omega))
     have HOut:Hid ((bB (wd.data.toList ++ numsO (ns.take k)) ++ (⟨#[32]⟩:ByteArray)) ++ bB (Lib.decDigits zn)=bB (wd.data.toList ++ numsO (ns.take (k+1)))):=by
      change _=_
      rw [HTs.out,numsO_snoc,show (⟨#[32]⟩:ByteArray)=bB [32] from rfl,bB_app,bB_app,Int.toNat_natCast]
      simp
     have q1:=dec_size zn (by omega)
     have q2:(bB (wd.data.toList ++ numsO (ns.take k))).size≤132:=by
      have h1:=fit_len _ _ _ HI.out.fit
      rw [List.length_take] at h1
      have h2:(bB (wd.data.toList ++ numsO (ns.take k))).size=wd.size+(numsO (ns.take k)).length:=by
       show (wd.data.toList ++ numsO (ns.take k)).length=_
       rw [List.length_append]; rfl
      omega
     generalize bB (wd.data.toList ++ numsO (ns.take k))=o1 at HOut q2
     generalize bB (Lib.decDigits zn)=o2 at HOut q1 HD
     have q3:(⟨#[32]⟩:ByteArray).size=1:=rfl
     have q4:(o1 ++ (⟨#[32]⟩:ByteArray)).size≤133:=by rw [ByteArray.size_append,q3]; omega
     go_wp2_with fail
     refine HD.out.mono ?_
     rintro e w2 ⟨rfl,hb2⟩
     have HB2:=hid (HI.out.bel.trans (hb2.mono HI.out.bel.size))
     clear hb2
     go_wp2_with fail
     go_roundw
     case rel=>exact ⟨k+1,by omega,by go_num,⟨HB2.out,by rw [HOut.out],HFa.out.2 ⟨HI.out.fit,by omega,by omega⟩⟩⟩
     case measure=>simp [intOf]; omega
   ·obtain rfl:k=n:=by omega
    have hlt2:¬ (k:Int)<(k:Int):=by omega
    have htk:ns.take k=ns:=List.take_of_length_le (Nat.le_of_eq Hn.out)
    have hfit:=HI.out.fit
    rw [htk] at hfit
    have Hr0:Hid (some (wd.data.toList ++ numsO (ns.take k))=r):=by rw [← Hr.out,if_pos ⟨HMany.out,hfit⟩,htk]; exact hid rfl
    generalize wd.data.toList ++ numsO (ns.take k)=o1 at Hr0
    clear htk hfit
    go_wp2_with fail
    go_ret2
    exact ⟨by rw [← Hr0.out]; rfl,below_trans HB.out HI.out.bel⟩
theorem lof_other (hc:cmdO wd.data.toList=some i) (hi:i≠0) (hv:IsSl w v ns) (hl:ns.length≤12) (hs:wd.size≤60):Calls Tryz.prog 11 #[.agg #[.string wd,v]] w fun e w'=>e=.returned (lofV (if manyO i ns∧fitO (lformO.getD i []) 0 ns then some (wd.data.toList ++ numsO ns) else none))∧Below w.heap.size w w':=by
 obtain ⟨W,HW⟩:∃ W,Hid (w.alloc (.cells #[.string wd,v] 36)=W):=⟨_,rfl⟩
 have HB:Hid (Below w.heap.size w W):=by rw [← HW.out]; exact (Below.refl _ _).alloc (Nat.le_refl _) _
 have hr:W.heap[w.heap.size]? = some (.cells #[.string wd,v] 36 (0,0)):=by rw [← HW.out]; exact heap_alloc_new w _
 have c0:W.cell? ⟨w.heap.size,0,none⟩=some (.string wd):=by rw [cell_of_row _ _ _ _ _ _ hr]; rfl
 have c1:W.cell? ⟨w.heap.size,1,none⟩=some v:=by rw [cell_of_row _ _ _ _ _ _ hr]; rfl
 have HF:=hid (fof_any wd W)
 have hf:fofO wd.data.toList=.tuple #[.string (bB (lformO.getD i [])),.bool true]:=by unfold fofO; rw [hc]
 rw [hf] at HF
 have hi19:=(cmdO_lt hc).1
 obtain ⟨t1,t2,t3⟩:=form_other i hi19 (by omega)
 obtain ⟨x,Hx⟩:∃ x,Hid (bB (lformO.getD i [])=x):=⟨_,rfl⟩
 have HXs:Hid (x.size=(lformO.getD i []).length):=by rw [← Hx.out]; exact hid rfl
 have p1:(x.toList == [43])=false:=by rw [← Hx.out,Lib.toList_data]; exact t1
 have p2:(x.toList != [43])=true:=by rw [bne,p1]; rfl
 rw [Hx.out] at HF
 have hW:=HW.out
 have HC1:=hid c1
 obtain ⟨n,Hn⟩:∃ n,Hid (ns.length=n):=⟨_,rfl⟩
 obtain ⟨r,Hr⟩:∃ r,Hid ((if manyO i ns∧fitO (lformO.getD i []) 0 ns then some (wd.data.toList ++ numsO ns) else none)=r):=⟨_,rfl⟩
 rw [Hr.out]
 obtain ⟨a,cap,hve,-,-,hcell⟩:=hv.later HB.out
 rw [Hn.out] at hve hcell hl
 subst hve
 have HCl:=hid hcell
 have hz:¬ n=x.size ∨ n=x.size:=by omega
 clear hr hf hc hv hcell
 rcases hz with hz|hz
 ·have hno:¬ (manyO i ns∧fitO (lformO.getD i []) 0 ns):=fun q=>by
   have h1:=q.1
   unfold manyO at h1
   rw [if_neg hi,Hn.out,← HXs.out] at h1
   exact hz h1
  have hz1:((n:Int) != (x.size:Int))=true:=by simp; omega
  have Hr0:Hid (none=r):=by rw [← Hr.out,if_neg hno]; exact hid rfl
  clear hno
  go_enter Tryz.func11,Tryz.ntmps11
  go_wp2_with fail
  refine HF.out.mono ?_
  rintro e w1 ⟨rfl,hx⟩
  subst w1
  go_wp2_with fail
  go_ret2
  exact ⟨by rw [← Hr0.out]; rfl,HB.out⟩
 ·have hz2:((n:Int) != (x.size:Int))=false:=by simp; omega
  have HMany:Hid (manyO i ns):=by
   change manyO i ns
   unfold manyO
   rw [if_neg hi,Hn.out,← HXs.out]
   exact hz
  have HZ:=hid hz
  clear hz
  have HE0:Hid (Value.string wd=.string (bB (wd.data.toList ++ numsO (ns.take 0)))):=by
   show Value.string wd=.string ⟨(wd.data.toList ++ []).toArray⟩
   rw [List.append_nil]
  go_enter Tryz.func11,Tryz.ntmps11
  go_wp2_with fail
  refine HF.out.mono ?_
  rintro e w1 ⟨rfl,hx⟩
  subst w1
  go_wp2_with fail
  go_loopw [6,7] (fun o u wr=>∃ k:Nat,k≤n∧u=.int .i64 (k:Int)∧Hid (LoI W wr (lformO.getD i []) wd.data.toList ns k o)) (fun _ u _=>n - (intOf u).toNat)
  case atStart=>exact ⟨0,Nat.zero_le _,rfl,⟨Below.refl _ _,HE0.out,rfl⟩⟩
  case round =>
   obtain ⟨k,hk,rfl,HI⟩:=hrel
   have d1:=cell_later HI.out.bel HC1.out
   have ho:=HI.out.out
   subst ho
   by_cases hlt:k<n
   ·have hlt2:(k:Int)<(n:Int):=by omega
    have hkx:k<ns.length:=by rw [Hn.out]; exact hlt
    obtain ⟨b,off,hab,hcl⟩:=HCl.out (by omega)
    subst hab
    have d2:=cell_later HI.out.bel (hcl k hlt)
    rw [getD_lt ns k hkx] at d2
    have hfa:=fit_at (f:=lformO.getD i []) hkx
    obtain ⟨z,Hz⟩:∃ z,Hid (ns[k]'hkx=z):=⟨_,rfl⟩
    have hts:=take_sn hkx
    rw [Hz.out] at d2 hfa hts
    have hkf:k<(lformO.getD i []).length:=by rw [← HXs.out,← HZ.out]; exact hlt
    have hkx2:k<x.size:=by rw [HXs.out]; exact hkf
    have hidx:=fun w'=>idx_strR x k (k:Int) hkx2 rfl w'
    have hxe:x[k]'hkx2=(lformO.getD i [])[k]'hkf:=by
     have:=Hx.out
     subst this
     rfl
    rw [hxe] at hidx
    have hletter:=t3 k hkf
    generalize (lformO.getD i [])[k]'hkf=ch at hidx hletter
    clear hxe
    rcases hletter with ⟨hch,hcap⟩|⟨hch,hcap⟩
    ·subst hch
     rw [hcap] at hfa
     have HFa:=hid hfa
     have HTs:=hid hts
     clear hcl hfa hts hcap
     by_cases hbad:z<0 ∨ 9<z
     ·have hno:¬ (manyO i ns∧fitO (lformO.getD i []) 0 ns):=fun q=>by
       have:=HFa.out.1 (fit_take (k+1) q.2)
       omega
      have Hr0:Hid (none=r):=by rw [← Hr.out,if_neg hno]; exact hid rfl
      clear hno
      by_cases hz0:z<0
      ·go_wp2_with fail
       go_ret2
       exact ⟨by rw [← Hr0.out]; rfl,below_trans HB.out HI.out.bel⟩
      ·have hz9:9<z:=by omega
       go_wp2_with fail
       go_ret2
       exact ⟨by rw [← Hr0.out]; rfl,below_trans HB.out HI.out.bel⟩
     ·have hz0:¬ z<0:=by omega
      have hz9:¬ 9<z:=by omega
      obtain ⟨zn,rfl⟩:=Int.eq_ofNat_of_zero_le (show 0≤z by omega)
      have HD:=hid (dec_any zn wr (by omega))
      have HOut:Hid ((bB (wd.data.toList ++ numsO (ns.take k)) ++ (⟨#[32]⟩:ByteArray)) ++ bB (Lib.decDigits zn)=bB (wd.data.toList ++ numsO (ns.take (k+1)))):=by
       change _=_
       rw [HTs.out,numsO_snoc,show (⟨#[32]⟩:ByteArray)=bB [32] from rfl,bB_app,bB_app,Int.toNat_natCast]
       simp
      have q1:=dec_size zn (by omega)
      have q2:(bB (wd.data.toList ++ numsO (ns.take k))).size≤132:=by
       have h1:=fit_len _ _ _ HI.out.fit
       rw [List.length_take] at h1
       have h2:(bB (wd.data.toList ++ numsO (ns.take k))).size=wd.size+(numsO (ns.take k)).length:=by
        show (wd.data.toList ++ numsO (ns.take k)).length=_
        rw [List.length_append]; rfl
       omega
      generalize bB (wd.data.toList ++ numsO (ns.take k))=o1 at HOut q2
      generalize bB (Lib.decDigits zn)=o2 at HOut q1 HD
      have q3:(⟨#[32]⟩:ByteArray).size=1:=rfl
      have q4:(o1 ++ (⟨#[32]⟩:ByteArray)).size≤133:=by rw [ByteArray.size_append,q3]; omega
      go_wp2_with fail
      refine HD.out.mono ?_
      rintro e w2 ⟨rfl,hb2⟩
      have HB2:=hid (HI.out.bel.trans (hb2.mono HI.out.bel.size))
      clear hb2
      go_wp2_with fail
      go_roundw
      case rel=>exact ⟨k+1,by omega,by go_num,⟨HB2.out,by rw [HOut.out],HFa.out.2 ⟨HI.out.fit,by omega,by omega⟩⟩⟩
      case measure=>simp [intOf]; omega
    ·subst hch
     rw [hcap] at hfa
     have HFa:=hid hfa
     have HTs:=hid hts
     clear hcl hfa hts hcap
     by_cases hbad:z<0 ∨ 99999<z
     ·have hno:¬ (manyO i ns∧fitO (lformO.getD i []) 0 ns):=fun q=>by
       have:=HFa.out.1 (fit_take (k+1) q.2)
       omega
      have Hr0:Hid (none=r):=by rw [← Hr.out,if_neg hno]; exact hid rfl
      clear hno
      by_cases hz0:z<0
      ·go_wp2_with fail
       go_ret2
       exact ⟨by rw [← Hr0.out]; rfl,below_trans HB.out HI.out.bel⟩
      ·have hz9:99999<z:=by omega
       go_wp2_with fail
       go_ret2
       exact ⟨by rw [← Hr0.out]; rfl,below_trans HB.out HI.out.bel⟩
     ·have hz0:¬ z<0:=by omega
      have hz9:¬ 99999<z:=by omega
      obtain ⟨zn,rfl⟩:=Int.eq_ofNat_of_zero_le (show 0≤z by omega)
      have HD:=hid (dec_any zn wr (by omega))
      have HOut:Hid ((bB (wd.data.toList ++ numsO (ns.take k)) ++ (⟨#[32]⟩:ByteArray)) ++ bB (Lib.decDigits zn)=bB (wd.data.toList ++ numsO (ns.take (k+1)))):=by
       change _=_
       rw [HTs.out,numsO_snoc,show (⟨#[32]⟩:ByteArray)=bB [32] from rfl,bB_app,bB_app,Int.toNat_natCast]
       simp
      have q1:=dec_size zn (by omega)
      have q2:(bB (wd.data.toList ++ numsO (ns.take k))).size≤132:=by
       have h1:=fit_len _ _ _ HI.out.fit
       rw [List.length_take] at h1
       have h2:(bB (wd.data.toList ++ numsO (ns.take k))).size=wd.size+(numsO (ns.take k)).length:=by
        show (wd.data.toList ++ numsO (ns.take k)).length=_
        rw [List.length_append]; rfl
       omega
      generalize bB (wd.data.toList ++ numsO (ns.take k))=o1 at HOut q2
      generalize bB (Lib.decDigits zn)=o2 at HOut q1 HD
      have q3:(⟨#[32]⟩:ByteArray).size=1:=rfl
      have q4:(o1 ++ (⟨#[32]⟩:ByteArray)).size≤133:=by rw [ByteArray.size_append,q3]; omega
      go_wp2_with fail
      refine HD.out.mono ?_
      rintro e w2 ⟨rfl,hb2⟩
      have HB2:=hid (HI.out.bel.trans (hb2.mono HI.out.bel.size))
      clear hb2
      go_wp2_with fail
      go_roundw
      case rel=>exact ⟨k+1,by omega,by go_num,⟨HB2.out,by rw [HOut.out],HFa.out.2 ⟨HI.out.fit,by omega,by omega⟩⟩⟩
      case measure=>simp [intOf]; omega
   ·obtain rfl:k=n:=by omega
    have hlt2:¬ (k:Int)<(k:Int):=by omega
    have htk:ns.take k=ns:=List.take_of_length_le (Nat.le_of_eq Hn.out)
    have hfit:=HI.out.fit
    rw [htk] at hfit
    have Hr0:Hid (some (wd.data.toList ++ numsO (ns.take k))=r):=by rw [← Hr.out,if_pos ⟨HMany.out,hfit⟩,htk]; exact hid rfl
    generalize wd.data.toList ++ numsO (ns.take k)=o1 at Hr0
    clear htk hfit
    go_wp2_with fail
    go_ret2
    exact ⟨by rw [← Hr0.out]; rfl,below_trans HB.out HI.out.bel⟩
theorem lof_any (hv:IsSl w v ns) (hl:ns.length≤12) (hs:wd.size≤60):Calls Tryz.prog 11 #[.agg #[.string wd,v]] w fun e w'=>e=.returned (lofV (lineO wd.data.toList ns))∧Below w.heap.size w w':=by
 unfold lineO
 cases hc:cmdO wd.data.toList with
 | none=>exact lof_none hc
 | some i =>
  by_cases h0:i=0
  ·subst h0; exact lof_zero hc hv hl hs
  ·exact lof_other hc h0 hv hl hs
end
end Go.Proofs.YtaehdgemkafinaaGreatDoor
