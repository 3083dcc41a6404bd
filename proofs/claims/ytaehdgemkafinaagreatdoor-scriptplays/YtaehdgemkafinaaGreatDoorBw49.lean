/-
  On the way to SPlaysProof: O37.
-/
import Derived.Test.YtaehdgemkafinaaGreatDoorBw48
set_option maxHeartbeats 8000000
set_option maxRecDepth 100000
namespace Go.Proofs.YtaehdgemkafinaaGreatDoor
open Go.RowKit
def jE (L:List E3):Bs:=Lib.join (L.map evB) [44,32]
theorem tail_snoc (sep x:Bs):∀ r:List Bs,Lib.joinTail sep (r ++ [x])=Lib.joinTail sep r ++ (sep ++ x):=fun r=>by
 unfold Lib.joinTail
 rw [List.map_append,List.flatten_append]
 simp
theorem jE_snoc {L:List E3} {e:E3} (h:L≠[]):jE (L ++ [e])=jE L ++ [44,32] ++ evB e:=by
 cases L with
 | nil=>exact absurd rfl h
 | cons y r =>
  unfold jE
  rw [List.cons_append,List.map_cons,Lib.join_cons,List.map_cons,Lib.join_cons,List.map_append,List.map_cons,List.map_nil,tail_snoc]
  simp
theorem jE_one (e:E3):jE [e]=evB e:=by
 unfold jE
 rw [List.map_cons,List.map_nil,Lib.join_cons]
 simp [Lib.joinTail]
theorem evB_ne (e:E3):evB e≠[]:=fun h=>by
 unfold evB at h
 exact dec_ne _ (List.append_eq_nil_iff.1 h).1
theorem jE_ne {L:List E3} (h:L≠[]):jE L≠[]:=by
 cases L with
 | nil=>exact absurd rfl h
 | cons y r =>
  unfold jE
  rw [List.map_cons]
  exact join_ne (evB_ne y)
theorem evN_of {zs:List Int} {V:PX} (hA:AX zs V) (hn:zs.length≤7):EvN V.evs:=fun e he=>by
 obtain ⟨i,d,p,rfl,h1,h2,-,-⟩:=hA.ex.at_ e he
 exact ⟨i,d,p,rfl,by omega,by omega⟩
theorem jE_len {L:List E3} (h:EvN L) (k:Nat) (hk:L.length≤500):(jE (L.take k)).length≤51000:=by
 have h1:=join_len [44,32] 100 ((L.take k).map evB) (fun x hx=>by
  obtain ⟨e,he,rfl⟩:=List.mem_map.1 hx
  exact evB_len h (List.mem_of_mem_take he))
 rw [List.length_map,List.length_take] at h1
 have h2:min k L.length≤500:=by omega
 have h3:min k L.length * (100+([44,32]:Bs).length)≤500 * 102:=Nat.mul_le_mul h2 (Nat.le_refl _)
 unfold jE
 omega
structure EvI (W wr:World) (L:List E3) (k:Nat) (u:Value):Prop where
 bel:Below W.heap.size W wr
 out:u=.string (bB (jE (L.take k)))
section
variable {w0 w:World} {wd:ByteArray} {v:Value} {C:Nat→Nat} {Y:YB} {aw:Option Addr} {cap m:Nat} {zs:List Int} {V:PX}
theorem an18_any (h:IsNm wd 18) (hR:RW w0 w C Y aw cap zs V m) (hA:AX zs V) :
  Calls Tryz.prog 16 #[.pointer (some ⟨Y.xb,0,none⟩),.agg #[.string wd,v]] w fun e w'=>e=.returned (.string (bB (eventsO V.evs)))∧Below w.heap.size w w':=by
 have k0:(wd.toList == [115,105,116,101,115])=false:=h 0 (by decide)
 have k1:(wd.toList == [98,101,103,105,110])=false:=h 1 (by decide)
 have k2:(wd.toList == [114,101,102,117,115,101])=false:=h 2 (by decide)
 have k3:(wd.toList == [116,105,99,107])=false:=h 3 (by decide)
 have k4:(wd.toList == [103,111])=false:=h 4 (by decide)
 have k5:(wd.toList == [108,111,115,101])=false:=h 5 (by decide)
 have k6:(wd.toList == [116,119,105,99,101])=false:=h 6 (by decide)
 have k7:(wd.toList == [108,105,110,107])=false:=h 7 (by decide)
 have k8:(wd.toList == [98,114,101,97,107])=false:=h 8 (by decide)
 have k9:(wd.toList == [99,117,116])=false:=h 9 (by decide)
 have k10:(wd.toList == [100,111,119,110])=false:=h 10 (by decide)
 have k11:(wd.toList == [117,112])=false:=h 11 (by decide)
 have k12:(wd.toList == [99,104,101,99,107])=false:=h 12 (by decide)
 have k13:(wd.toList == [97,108,108])=false:=h 13 (by decide)
 have k14:(wd.toList == [102,108,121])=false:=h 14 (by decide)
 have k15:(wd.toList == [115,116,97,116,101])=false:=h 15 (by decide)
 have k16:(wd.toList == [108,101,97,100])=false:=h 16 (by decide)
 have k17:(wd.toList == [105,115])=false:=h 17 (by decide)
 have k18:(wd.toList == [101,118,101,110,116,115])=true:=h 18 (by decide)
 have hbx:=bxL_new w wd v
 have hbW:Below w.heap.size w (bxW w wd v):=(Below.refl _ _).alloc (Nat.le_refl _) _
 have hRW:=hR.later hbW
 obtain ⟨W,HW⟩:∃ W,Hid (bxW w wd v=W):=⟨_,rfl⟩
 have hW:w.alloc (.cells #[.string wd,v] 36)=W:=HW.out
 rw [show w.alloc (.cells #[.string wd,v] 36)=bxW w wd v from rfl,HW.out] at hbx
 rw [HW.out] at hRW hbW
 obtain ⟨d0,d1⟩:=hbx
 have HRW:=hid hRW
 have HBW:=hid hbW
 obtain ⟨-,-,-,-,c4⟩:=hRW.cells
 obtain ⟨ae,ce,hv,-,-,hel⟩:=own_el hRW.evs
 have hev:=hRW.inv.ev
 have hn7:=hRW.n7
 have HLn:=hid (fun k=>jE_len (evN_of hA hn7.2) k hev)
 have HAt:=hid hA.ex.at_
 obtain ⟨L,HL⟩:∃ L,Hid (V.evs=L):=⟨_,rfl⟩
 rw [HL.out] at hv HLn HAt hel hev ⊢
 obtain ⟨le,Hle⟩:∃ le,Hid (L.length=le):=⟨_,rfl⟩
 rw [Hle.out] at hv hev
 rw [hv] at c4
 have HC4:=hid c4
 have HEL:=hid hel
 obtain ⟨r,Hr⟩:∃ r,Hid (eventsO L=r):=⟨_,rfl⟩
 rw [Hr.out]
 have HI0:Hid (EvI W W L 0 (.string ⟨#[]⟩)):=⟨Below.refl _ _,rfl⟩
 have HN7:=hid hn7.2
 clear hR h hbW hRW hv hel hA hn7
 go_enter Tryz.func16,Tryz.ntmps16
 go_wp2_with fail
 go_loopw [7,8] (fun u q wr=>∃ k:Nat,k≤le∧q=.int .i64 (k:Int)∧Hid (EvI W wr L k u)) (fun _ q _=>le - (intOf q).toNat)
 case atStart=>exact ⟨0,Nat.zero_le _,rfl,HI0.out⟩
 case round =>
  obtain ⟨k,hk,rfl,HI⟩:=hrel
  have f4:=cell_later HI.out.bel HC4.out
  have ho:=HI.out.out
  subst ho
  by_cases hlt:k<le
  ·have hlt2:(k:Int)<(le:Int):=by omega
   have hkx:k<L.length:=by rw [Hle.out]; exact hlt
   obtain ⟨b,off,hadr,e0,e1,e2⟩:=HEL.out.later HI.out.bel k hkx
   subst hadr
   have HTs:=hid (List.take_succ_eq_append_getElem hkx)
   obtain ⟨i,d,p,hx,hi,hd,hp,-⟩:=HAt.out (L[k]'hkx) (List.getElem_mem hkx)
   rw [hx] at e0 e1 e2 HTs
   simp only at e0 e1 e2
   have hzl:=HLn.out k
   have hn7:zs.length≤7:=HN7.out
   obtain ⟨W2,HW2⟩:∃ W2,Hid (wr.alloc (.cells #[.int .i64 (i:Int),.int .i64 (d:Int),.int .i64 (p:Int)] 77)=W2):=⟨_,rfl⟩
   have hW2:=HW2.out
   have HB2a:Hid (Below wr.heap.size wr W2):=by rw [← HW2.out]; exact (Below.refl _ _).alloc (Nat.le_refl _) _
   have HR2:Hid (W2.heap[wr.heap.size]? = some (.cells #[.int .i64 (i:Int),.int .i64 (d:Int),.int .i64 (p:Int)] 77 (0,0))):=by rw [← HW2.out]; exact heap_alloc_new wr _
   have a0:W2.cell? ⟨wr.heap.size,0,none⟩=some (.int .i64 (i:Int)):=by rw [cell_of_row _ _ _ _ _ _ HR2.out]; rfl
   have a1:W2.cell? ⟨wr.heap.size,1,none⟩=some (.int .i64 (d:Int)):=by rw [cell_of_row _ _ _ _ _ _ HR2.out]; rfl
   have a2:W2.cell? ⟨wr.heap.size,2,none⟩=some (.int .i64 (p:Int)):=by rw [cell_of_row _ _ _ _ _ _ HR2.out]; rfl
   by_cases hk0:k=0
   ·have hk0':¬ (0:Int)<(k:Int):=by omega
    have HK0:=hid hk0
    clear hk0
    have HOut:Hid ((((((bB (jE (L.take k))) ++ bB (Lib.decDigits i)) ++ (⟨#[32]⟩:ByteArray)) ++ bB (Lib.decDigits d)) ++ (⟨#[32]⟩:ByteArray)) ++ bB (phaseO (p:Int))=bB (jE (L.take k ++ [⟨i,d,p⟩]))):=by
     change _=_
     rw [HK0.out,List.take_zero,List.nil_append,jE_one,show (⟨#[32]⟩:ByteArray)=bB [32] from rfl,bB_app,bB_app,bB_app,bB_app,bB_app]
     unfold evB
     simp [jE,Lib.join_nil]
    have z0:(bB (jE (L.take k))).size≤51000:=hzl
    generalize bB (jE (L.take k))=o1 at z0 HOut
    have HDs:=hid (dec_any i W2.drew (by omega))
    have HS3:Hid (W2.drew.cell? ⟨wr.heap.size,0,none⟩=some (.int .i64 (i:Int))∧W2.drew.cell? ⟨wr.heap.size,1,none⟩=some (.int .i64 (d:Int))∧W2.drew.cell? ⟨wr.heap.size,2,none⟩=some (.int .i64 (p:Int))):=⟨a0,a1,a2⟩
    have HDd:Hid (∀ U:World,Calls Tryz.prog 20 #[.int .i64 (d:Int)] U fun e w'=>e=.returned (.string (bB (Lib.decDigits d)))∧Below U.heap.size U w'):=fun U=>dec_any d U (by omega)
    have HNm:Hid (∀ U:World,Calls Tryz.prog 33 #[.int .i64 (p:Int)] U fun e w'=>e=.returned (.string (bB (phaseO (p:Int))))∧Below U.heap.size U w'):=fun U=>named_any p (by omega) U
    have z1:=dec_size i (by omega)
    have z2:=dec_size d (by omega)
    have z3:(bB (phaseO (p:Int))).size≤20:=phaseO_len (p:Int)
    generalize bB (Lib.decDigits i)=x1 at HDs z1 HOut
    generalize bB (Lib.decDigits d)=x2 at HDd z2 HOut
    generalize bB (phaseO (p:Int))=x3 at HNm z3 HOut
    have z4:(⟨#[32]⟩:ByteArray).size=1:=rfl
    have u1:(9223372036854775807<o1.size+x1.size)=False:=eq_false (by omega)
    have u2:(9223372036854775807<o1.size+x1.size+1)=False:=eq_false (by omega)
    have u3:(9223372036854775807<o1.size+x1.size+1+x2.size)=False:=eq_false (by omega)
    have u4:(9223372036854775807<o1.size+x1.size+1+x2.size+1)=False:=eq_false (by omega)
    have u5:(9223372036854775807<o1.size+x1.size+1+x2.size+1+x3.size)=False:=eq_false (by omega)
    clear z1 z2 z3 z4 z0 hzl
    go_wp2_with fail
    go_region_held3 (fun U=>U.cell? ⟨wr.heap.size,0,none⟩=some (.int .i64 (i:Int))∧U.cell? ⟨wr.heap.size,1,none⟩=some (.int .i64 (d:Int))∧U.cell? ⟨wr.heap.size,2,none⟩=some (.int .i64 (p:Int))) (first|with_reducible exact hk3|with_reducible exact hk2|with_reducible exact hk1|with_reducible exact HS3.out|with_reducible exact ⟨a0,a1,a2⟩) (first
     | (go_at_call 20; (with_reducible refine HDs.out.mono ?_); rintro e w2 ⟨rfl,hb2⟩; have HB2:=hid hb2; have hk1:=And.intro (cell_later hb2 a0) (And.intro (cell_later hb2 a1) (cell_later hb2 a2)); clear hb2)
     | (go_at_call 20; (with_reducible refine (HDd.out w2).mono ?_); rintro e w3 ⟨rfl,hb3⟩; have HB3:=hid hb3; have hk2:=And.intro (cell_later hb3 hk1.1) (And.intro (cell_later hb3 hk1.2.1) (cell_later hb3 hk1.2.2)); clear hb3)
     | (go_at_call 33; (with_reducible refine (HNm.out w3).mono ?_); rintro e w4 ⟨rfl,hb4⟩; have HB4:=hid hb4; have hk3:=And.intro (cell_later hb4 hk2.1) (And.intro (cell_later hb4 hk2.2.1) (cell_later hb4 hk2.2.2)); clear hb4))
    go_wp2_with fail
    go_roundw
    case rel =>
     refine ⟨k+1,by omega,by go_num,?_⟩
     have hb24:Below W2.heap.size W2 w4:=below_trans (show Below W2.heap.size W2 w2 from ((Below.refl _ W2).drew).trans HB2.out) (below_trans HB3.out HB4.out)
     refine ⟨HI.out.bel.trans ((below_trans HB2a.out hb24).mono HI.out.bel.size),?_⟩
     rw [HTs.out,← HOut.out]
    case measure=>simp [intOf]; omega
   ·have hk0':(0:Int)<(k:Int):=by omega
    have hne:L.take k≠[]:=fun e=>by
     have:=congrArg List.length e
     rw [List.length_take,Nat.min_eq_left (by omega)] at this
     exact hk0 this
    have HOut:Hid ((((((bB (jE (L.take k)) ++ (⟨#[44,32]⟩:ByteArray)) ++ bB (Lib.decDigits i)) ++ (⟨#[32]⟩:ByteArray)) ++ bB (Lib.decDigits d)) ++ (⟨#[32]⟩:ByteArray)) ++ bB (phaseO (p:Int))=bB (jE (L.take k ++ [⟨i,d,p⟩]))):=by
     change _=_
     rw [jE_snoc hne,show (⟨#[32]⟩:ByteArray)=bB [32] from rfl,show (⟨#[44,32]⟩:ByteArray)=bB [44,32] from rfl,bB_app,bB_app,bB_app,bB_app,bB_app,bB_app]
     unfold evB
     simp
    have z0':(bB (jE (L.take k))).size≤51000:=hzl
    generalize bB (jE (L.take k))=o0 at z0' HOut
    have z9:(⟨#[44,32]⟩:ByteArray).size=2:=rfl
    have z0:(o0 ++ (⟨#[44,32]⟩:ByteArray)).size≤51002:=by rw [ByteArray.size_append]; omega
    obtain ⟨o1,Ho1⟩:∃ o1,Hid (o0 ++ (⟨#[44,32]⟩:ByteArray)=o1):=⟨_,rfl⟩
    have ho1:=Ho1.out
    rw [Ho1.out] at HOut z0
    have HDs:=hid (dec_any i W2.drew (by omega))
    have HS3:Hid (W2.drew.cell? ⟨wr.heap.size,0,none⟩=some (.int .i64 (i:Int))∧W2.drew.cell? ⟨wr.heap.size,1,none⟩=some (.int .i64 (d:Int))∧W2.drew.cell? ⟨wr.heap.size,2,none⟩=some (.int .i64 (p:Int))):=⟨a0,a1,a2⟩
    have HDd:Hid (∀ U:World,Calls Tryz.prog 20 #[.int .i64 (d:Int)] U fun e w'=>e=.returned (.string (bB (Lib.decDigits d)))∧Below U.heap.size U w'):=fun U=>dec_any d U (by omega)
    have HNm:Hid (∀ U:World,Calls Tryz.prog 33 #[.int .i64 (p:Int)] U fun e w'=>e=.returned (.string (bB (phaseO (p:Int))))∧Below U.heap.size U w'):=fun U=>named_any p (by omega) U
    have z1:=dec_size i (by omega)
    have z2:=dec_size d (by omega)
    have z3:(bB (phaseO (p:Int))).size≤20:=phaseO_len (p:Int)
    generalize bB (Lib.decDigits i)=x1 at HDs z1 HOut
    generalize bB (Lib.decDigits d)=x2 at HDd z2 HOut
    generalize bB (phaseO (p:Int))=x3 at HNm z3 HOut
    have z4:(⟨#[32]⟩:ByteArray).size=1:=rfl
    have u1:(9223372036854775807<o1.size+x1.size)=False:=eq_false (by omega)
    have u2:(9223372036854775807<o1.size+x1.size+1)=False:=eq_false (by omega)
    have u3:(9223372036854775807<o1.size+x1.size+1+x2.size)=False:=eq_false (by omega)
    have u4:(9223372036854775807<o1.size+x1.size+1+x2.size+1)=False:=eq_false (by omega)
    have u5:(9223372036854775807<o1.size+x1.size+1+x2.size+1+x3.size)=False:=eq_false (by omega)
    clear z1 z2 z3 z4 z0 hzl
    go_wp2_with fail
    go_region_held3 (fun U=>U.cell? ⟨wr.heap.size,0,none⟩=some (.int .i64 (i:Int))∧U.cell? ⟨wr.heap.size,1,none⟩=some (.int .i64 (d:Int))∧U.cell? ⟨wr.heap.size,2,none⟩=some (.int .i64 (p:Int))) (first|with_reducible exact hk3|with_reducible exact hk2|with_reducible exact hk1|with_reducible exact HS3.out|with_reducible exact ⟨a0,a1,a2⟩) (first
     | (go_at_call 20; (with_reducible refine HDs.out.mono ?_); rintro e w2 ⟨rfl,hb2⟩; have HB2:=hid hb2; have hk1:=And.intro (cell_later hb2 a0) (And.intro (cell_later hb2 a1) (cell_later hb2 a2)); clear hb2)
     | (go_at_call 20; (with_reducible refine (HDd.out w2).mono ?_); rintro e w3 ⟨rfl,hb3⟩; have HB3:=hid hb3; have hk2:=And.intro (cell_later hb3 hk1.1) (And.intro (cell_later hb3 hk1.2.1) (cell_later hb3 hk1.2.2)); clear hb3)
     | (go_at_call 33; (with_reducible refine (HNm.out w3).mono ?_); rintro e w4 ⟨rfl,hb4⟩; have HB4:=hid hb4; have hk3:=And.intro (cell_later hb4 hk2.1) (And.intro (cell_later hb4 hk2.2.1) (cell_later hb4 hk2.2.2)); clear hb4))
    go_wp2_with fail
    go_roundw
    case rel =>
     refine ⟨k+1,by omega,by go_num,?_⟩
     have hb24:Below W2.heap.size W2 w4:=below_trans (show Below W2.heap.size W2 w2 from ((Below.refl _ W2).drew).trans HB2.out) (below_trans HB3.out HB4.out)
     refine ⟨HI.out.bel.trans ((below_trans HB2a.out hb24).mono HI.out.bel.size),?_⟩
     rw [HTs.out,← HOut.out]
    case measure=>simp [intOf]; omega
  ·obtain rfl:k=le:=by omega
   have hlt2:¬ (k:Int)<(k:Int):=by omega
   have htk:L.take k=L:=List.take_of_length_le (Nat.le_of_eq Hle.out)
   rw [htk]
   by_cases hL0:L=[]
   ·have e1:eventsO L=[110,111,116,104,105,110,103]:=if_pos hL0
    have e2:bB (jE L)=⟨#[]⟩:=by rw [hL0]; rfl
    have HE1:=hid e1
    rw [e2]
    clear e1 e2 htk hL0
    go_wp2_with fail
    go_ret
    exact ⟨by rw [← Hr.out,HE1.out]; rfl,below_trans HBW.out HI.out.bel⟩
   ·have e1:eventsO L=jE L:=if_neg hL0
    have e2:((bB (jE L)).toList == [])=false:=by
     rw [Lib.toList_data]
     have:=jE_ne hL0
     cases hj:jE L with
     | nil=>exact absurd hj this
     | cons a r=>rfl
    have HE1:Hid (bB (eventsO L)=bB (jE L)):=by rw [e1]; exact hid rfl
    generalize bB (jE L)=o1 at e2 HE1 ⊢
    clear e1 htk hL0
    go_wp2_with fail
    go_ret
    exact ⟨by rw [← Hr.out,HE1.out]; rfl,below_trans HBW.out HI.out.bel⟩
end
end Go.Proofs.YtaehdgemkafinaaGreatDoor
