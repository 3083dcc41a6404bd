/-
  On the way to PRunsProof: W6 RB YB YHB.
-/
import Derived.Test.YtjcflddbaeiajacGreatDoorBt5
import Derived.Test.YtjcflddbaeiajacGreatDoorBt3
import Derived.Test.YtjcflddbaeiajacGreatDoorBt6
import Derived.Deep.RegionLaw
set_option maxHeartbeats 8000000
set_option maxRecDepth 100000
namespace Go.Proofs.YtjcflddbaeiajacGreatDoor
open Go.RowKit
theorem rErr_shape (a:Option Addr) (len cap:Nat) (w:World) (hm:len≤maxLen) (h:len<1 ∨ 7<len) :
  Calls Tryz.prog 15 #[.slice a len cap] w fun e w'=>e=.returned (.int .i64 3)∧w'=w:=by
 unfold maxLen at hm
 rcases h with h|h
 ·have:len=0:=by omega
  subst this
  go_enter Tryz.func15,Tryz.ntmps15
  go_wp2
  go_ret
  exact ⟨rfl,rfl⟩
 ·go_enter Tryz.func15,Tryz.ntmps15
  go_wp2
  go_ret
  exact ⟨rfl,rfl⟩
theorem rErr_in (b off cap:Nat) (zs:List Int) (w:World) (h:¬ (zs.length<1 ∨ 7<zs.length))
  (hc:∀ i,i<zs.length→w.cell? ⟨b,off+i,none⟩=some (.int .i64 (zs.getD i 0))) :
  Calls Tryz.prog 15 #[.slice (some ⟨b,off,none⟩) zs.length cap] w fun e w'=>e=.returned (.int .i64 (errW zs))∧w'=w:=by
 have hB:∀ k,k<zs.length→(zs.getD k 0<0 ∨ 1000<zs.getD k 0)→Hid ((errW zs:Int)=2):=fun k hk hb=>by unfold Hid; rw [errW_bound h hk hb]; rfl
 have hN:okTo zs zs.length→tot zs=0→Hid ((errW zs:Int)=4):=fun g e=>by unfold Hid; rw [errW_ok h g,if_pos e]; rfl
 have hZ:okTo zs zs.length→¬ tot zs=0→Hid ((errW zs:Int)=0):=fun g e=>by unfold Hid; rw [errW_ok h g,if_neg e]; rfl
 have hlo:¬ zs.length<1:=fun g=>h (.inl g)
 have hhi:¬ 7<zs.length:=fun g=>h (.inr g)
 clear h
 go_enter Tryz.func15,Tryz.ntmps15
 go_wp2
 go_loop [3,4] (fun x i=>∃ k:Nat,k≤zs.length∧okTo zs k∧i=.int .i64 k∧x=.int .i64 (psum zs k)) (fun _ i=>zs.length - (intOf i).toNat)
 case atStart=>exact ⟨0,Nat.zero_le _,fun i hi=>absurd hi (by omega),rfl,rfl⟩
 case round =>
  obtain ⟨k,hk,hok,rfl,rfl⟩:=hrel
  have hpb:=psum_bd hok
  by_cases hlt:k<zs.length
  ·have hck:=hc k hlt
   have hB':=hB k hlt
   have hS:Hid (psum zs (k+1)=psum zs k+zs.getD k 0):=rfl
   have hO:0≤zs.getD k 0→zs.getD k 0≤1000→okTo zs (k+1):=okTo_succ hok
   clear hB hN hZ hc
   rw [getD_lt zs k hlt] at hB' hO hck
   go_wp2
   ·go_ret
    exact ⟨ret_int (hB' (by omega)).out.symm,rfl⟩
   ·go_round
    case rel=>exact ⟨k+1,by omega,hO (by omega) (by omega),by go_num,val_int (by rw [hS.out,getD_lt zs k hlt])⟩
    case measure=>simp [intOf]; omega
   ·go_ret
    exact ⟨ret_int (hB' (by omega)).out.symm,rfl⟩
  ·have hke:k=zs.length:=by omega
   subst hke
   have hN':=hN hok
   have hZ':=hZ hok
   clear hB hN hZ hc
   go_wp2
   ·have hz:(psum zs zs.length == 0)=true:=by assumption
    go_ret
    exact ⟨ret_int (hN' (show psum zs zs.length=0 by simpa using hz)).out.symm,rfl⟩
   ·have hz:(psum zs zs.length == 0)=false:=by assumption
    go_ret
    exact ⟨ret_int (hZ' (show ¬ psum zs zs.length=0 by simpa using hz)).out.symm,rfl⟩
theorem rErr_any (v:Value) (zs:List Int) (w:World) (hv:IsSl w v zs) :
  Calls Tryz.prog 15 #[v] w fun e w'=>e=.returned (.int .i64 (errW zs))∧w'=w:=by
 obtain ⟨a,cap,rfl,hm,-,hc⟩:=hv
 by_cases h:zs.length<1 ∨ 7<zs.length
 ·rw [errW_shape h]; exact rErr_shape a zs.length cap w hm h
 ·obtain ⟨b,off,rfl,hcc⟩:=hc (by omega)
  exact rErr_in b off cap zs w h hcc
theorem rHas_any (s:Int) (i:Nat) (w:World) (hi:i≤30) (h0:0≤s) (h1:s≤1073741824) :
  Calls Tryz.prog 84 #[.int .i64 s,.int .i64 i] w fun e w'=>e=.returned (.bool (bit s i))∧w'=w:=by
 have hp:=pow_le30 hi
 have hb:=hid (bit_has i h0)
 go_enter Tryz.func84,Tryz.ntmps84
 go_wp2_with (go_at_call 146; refine (two_any i _ hi).mono ?_; rintro e w' ⟨rfl,rfl⟩)
 go_ret
 exact ⟨congrArg (fun x=>Ending.returned (.bool x)) (by rw [Int.tmod_eq_emod_of_nonneg (Int.ediv_nonneg h0 (by omega))]; exact hb.out),rfl⟩
theorem rHas_is (s:Int) (i:Nat) (x:Bool) (w:World) (hi:i≤30) (h0:0≤s) (h1:s≤1073741824) (hx:bit s i=x) :
  Calls Tryz.prog 84 #[.int .i64 s,.int .i64 i] w fun e w'=>e=.returned (.bool x)∧w'=w:=by
 subst hx; exact rHas_any s i w hi h0 h1
theorem rSum_any (b off cap:Nat) (zs:List Int) (s:Int) (w:World) (hl:zs.length≤7) (hok:okTo zs zs.length) (h0:0≤s) (h1:s≤1073741824)
  (hc:∀ i,i<zs.length→w.cell? ⟨b,off+i,none⟩=some (.int .i64 (zs.getD i 0))) :
  Calls Tryz.prog 248 #[.slice (some ⟨b,off,none⟩) zs.length cap,.int .i64 s] w fun e w'=>e=.returned (.int .i64 (sumTo zs s zs.length))∧w'=w:=by
 have HC:=hid hc
 clear hc
 go_enter Tryz.func248,Tryz.ntmps248
 go_wp2
 go_loop [5,6] (fun x i=>∃ k:Nat,k≤zs.length∧i=.int .i64 k∧x=.int .i64 (sumTo zs s k)) (fun _ i=>zs.length - (intOf i).toNat)
 case atStart=>exact ⟨0,Nat.zero_le _,rfl,rfl⟩
 case round =>
  obtain ⟨k,hk,rfl,rfl⟩:=hrel
  by_cases hlt:k<zs.length
  ·have hck:=HC.out k hlt
   have hbd:=sumTo_bd s (k:=k) (zs:=zs) (fun i hi=>hok i (by omega))
   have hpb:=psum_bd (k:=k) (zs:=zs) (fun i hi=>hok i (by omega))
   have hz:=hok k hlt
   have hS:Hid (sumTo zs s (k+1)=sumTo zs s k+if bit s k then zs.getD k 0 else 0):=rfl
   rw [getD_lt zs k hlt] at hz
   cases hx:bit s k with
   | false =>
    rw [hx] at hS
    have HX:=hid hx
    clear hx
    go_wp2_with (go_at_call 84; refine (rHas_is s k false _ (by omega) h0 h1 HX.out).mono ?_; rintro e w' ⟨rfl,rfl⟩)
    go_round
    case rel=>exact ⟨k+1,by omega,by go_num,val_int (by rw [hS.out]; simp)⟩
    case measure=>simp [intOf]; omega
   | true =>
    rw [hx] at hS
    have HX:=hid hx
    clear hx
    go_wp2_with (go_at_call 84; refine (rHas_is s k true _ (by omega) h0 h1 HX.out).mono ?_; rintro e w' ⟨rfl,rfl⟩)
    go_round
    case rel=>exact ⟨k+1,by omega,by go_num,val_int (by rw [hS.out,getD_lt zs k hlt]; simp)⟩
    case measure=>simp [intOf]; omega
  ·go_wp2
   go_ret
   exact ⟨ret_int (by rw [show k=zs.length by omega]),rfl⟩
theorem rEnough_any (b off cap:Nat) (zs:List Int) (s:Int) (w:World) (hl:zs.length≤7) (hok:okTo zs zs.length) (h0:0≤s) (h1:s≤1073741824)
  (hc:∀ i,i<zs.length→w.cell? ⟨b,off+i,none⟩=some (.int .i64 (zs.getD i 0))) :
  Calls Tryz.prog 207 #[.slice (some ⟨b,off,none⟩) zs.length cap,.int .i64 s] w fun e w'=>e=.returned (.bool (enoughB zs s))∧w'=w:=by
 have HC:=hid hc
 clear hc
 have hp:=pow_le7 hl
 have hbd:=sumTo_bd s (k:=zs.length) (zs:=zs) hok
 have hpb:=psum_bd (k:=zs.length) (zs:=zs) hok
 have hall:Hid (sumTo zs (2 ^ zs.length - 1) zs.length=tot zs):=sumTo_all zs (Nat.le_refl _)
 have ht:0≤tot zs∧tot zs≤1000 * zs.length:=hpb
 have hfin:=hid (enoughB_alt zs s)
 go_enter Tryz.func207,Tryz.ntmps207
 go_wp2_with fail
 refine (rSum_any b off cap zs s _ hl hok h0 h1 HC.out).mono ?_
 rintro e w1 ⟨rfl,h1'⟩
 subst h1'
 go_wp2_with fail
 refine (two_any zs.length _ (by omega)).mono ?_
 rintro e w1 ⟨rfl,h1'⟩
 subst h1'
 go_wp2_with fail
 refine (rSum_any b off cap zs (2 ^ zs.length - 1) _ hl hok (by omega) (by omega) HC.out).mono ?_
 rintro e w1 ⟨rfl,h1'⟩
 subst h1'
 rw [hall.out]
 go_wp2_with fail
 refine (rSum_any b off cap zs s _ hl hok h0 h1 HC.out).mono ?_
 rintro e w1 ⟨rfl,h1'⟩
 subst h1'
 go_wp2_with fail
 go_ret
 exact ⟨congrArg (fun x=>Ending.returned (.bool x)) hfin.out,rfl⟩
theorem rEnough_is (b off cap:Nat) (zs:List Int) (s:Int) (x:Bool) (w:World) (hl:zs.length≤7) (hok:okTo zs zs.length) (h0:0≤s) (h1:s≤1073741824)
  (hc:∀ i,i<zs.length→w.cell? ⟨b,off+i,none⟩=some (.int .i64 (zs.getD i 0))) (hx:enoughB zs s=x) :
  Calls Tryz.prog 207 #[.slice (some ⟨b,off,none⟩) zs.length cap,.int .i64 s] w fun e w'=>e=.returned (.bool x)∧w'=w:=by
 subst hx; exact rEnough_any b off cap zs s w hl hok h0 h1 hc
theorem wide4_is (n:Nat) (t:ByteArray) (w:World) (hn:n<9223372036854775808) (ht:bA (wideL n 4)=t) :
  Calls Tryz.prog 148 #[.int .i64 (n:Int),.int .i64 4] w fun e w'=>e=.returned (.string t)∧Below w.heap.size w w':=by
 rw [← ht]; exact wide_any n 4 w hn (by omega)
theorem wide1_is (n:Nat) (t:ByteArray) (w:World) (hn:n<9223372036854775808) (ht:bA (wideL n 1)=t) :
  Calls Tryz.prog 148 #[.int .i64 (n:Int),.int .i64 1] w fun e w'=>e=.returned (.string t)∧Below w.heap.size w w':=by
 rw [← ht]; exact wide_any n 1 w hn (by omega)
theorem crc_is (s:ByteArray) (c:Nat) (w:World) (hs:s.size≤1000) (hc:crcL s.data.toList=c) :
  Calls Tryz.prog 150 #[.string s] w fun e w'=>e=.returned (.int .i64 (c:Int))∧w'=w:=by
 rw [← hc]; exact crc_any s w hs
theorem below_step {a b c:World} (h:Hid (Below a.heap.size a b)) (k:Below b.heap.size b c):Hid (Below a.heap.size a c):=h.out.trans (k.mono h.out.size)
theorem body_any (n h1 h2 h3:Nat) (w:World) (hn:n<4294967296) (b1:h1<256) (b2:h2<4294967296) (b3:h3<4294967296) :
  Calls Tryz.prog 251 #[.int .i64 (n:Int),.agg #[.int .i64 (h1:Int),.int .i64 (h2:Int),.int .i64 (h3:Int)]] w fun e w'=>e=.returned (.string (bA (bodyL n ⟨h1,h2,h3⟩)))∧Below w.heap.size w w':=by
 obtain ⟨W,HW⟩:∃ W,Hid (w.alloc (.cells #[.int .i64 (h1:Int),.int .i64 (h2:Int),.int .i64 (h3:Int)] 127)=W):=⟨_,rfl⟩
 have hW:=HW.out
 have RW:Hid (W.heap[w.heap.size]? = some (.cells #[.int .i64 (h1:Int),.int .i64 (h2:Int),.int .i64 (h3:Int)] 127 (0,0))):=by rw [← HW.out]; exact heap_alloc_new w _
 have hsW:w.heap.size<W.heap.size:=(Array.getElem?_eq_some_iff.1 RW.out).1
 have HBW:Hid (Below w.heap.size w W):=by rw [← HW.out]; exact (Below.refl _ _).alloc (Nat.le_refl _) _
 obtain ⟨s1,S1⟩:∃ t,Hid (bA (wideL n 4)=t):=⟨_,rfl⟩
 obtain ⟨s2,S2⟩:∃ t,Hid (bA (wideL h1 1)=t):=⟨_,rfl⟩
 obtain ⟨s3,S3⟩:∃ t,Hid (bA (wideL h2 4)=t):=⟨_,rfl⟩
 obtain ⟨s4,S4⟩:∃ t,Hid (bA (wideL h3 4)=t):=⟨_,rfl⟩
 have z1:s1.size=4:=by rw [← S1.out,bA_size,wideL_length]
 have z2:s2.size=1:=by rw [← S2.out,bA_size,wideL_length]
 have z3:s3.size=4:=by rw [← S3.out,bA_size,wideL_length]
 have z4:s4.size=4:=by rw [← S4.out,bA_size,wideL_length]
 have HT:Hid (s1 ++ s2 ++ s3 ++ s4=bA (textL n ⟨h1,h2,h3⟩)):=by unfold Hid textL; rw [← S1.out,← S2.out,← S3.out,← S4.out,bA_append,bA_append,bA_append]
 have HC:Hid (∀ wx,Below W.heap.size W wx→wx.cell? ⟨w.heap.size,0,none⟩=some (.int .i64 (h1:Int))∧wx.cell? ⟨w.heap.size,1,none⟩=some (.int .i64 (h2:Int))∧wx.cell? ⟨w.heap.size,2,none⟩=some (.int .i64 (h3:Int))):=by
  intro wx hb
  have r:=(hb.block _ hsW).trans RW.out
  exact ⟨by rw [cell_of_row _ _ _ _ _ _ r]; rfl,by rw [cell_of_row _ _ _ _ _ _ r]; rfl,by rw [cell_of_row _ _ _ _ _ _ r]; rfl⟩
 obtain ⟨c0,c1,c2⟩:=HC.out _ (Below.refl _ _)
 go_enter Tryz.func251,Tryz.ntmps251
 go_wp2_with fail
 have HD0:Hid (Below W.heap.size W W.drew):=(Below.refl _ _).drew
 go_cut [5] from 6 (fun s5 wx=>s5=.string (s1 ++ s2 ++ s3 ++ s4)∧Hid (Below W.heap.size W wx))
 case first =>
  go_region_held3 (fun w'=>w'.cell? ⟨w.heap.size,0,none⟩=some (.int .i64 (h1:Int))∧w'.cell? ⟨w.heap.size,1,none⟩=some (.int .i64 (h2:Int))∧w'.cell? ⟨w.heap.size,2,none⟩=some (.int .i64 (h3:Int))) (go_keep) (first|(go_at_call 148; (with_reducible refine (wide4_is n s1 _ (by omega) S1.out).mono ?_); rintro e wn ⟨rfl,hbn⟩; have HBn:=below_step (by assumption) hbn; obtain ⟨x0,x1,x2⟩:=HC.out _ HBn.out; clear hbn)|(go_at_call 148; (with_reducible refine (wide1_is h1 s2 _ (by omega) S2.out).mono ?_); rintro e wn ⟨rfl,hbn⟩; have HBn:=below_step (by assumption) hbn; obtain ⟨x0,x1,x2⟩:=HC.out _ HBn.out; clear hbn)|(go_at_call 148; (with_reducible refine (wide4_is h2 s3 _ (by omega) S3.out).mono ?_); rintro e wn ⟨rfl,hbn⟩; have HBn:=below_step (by assumption) hbn; obtain ⟨x0,x1,x2⟩:=HC.out _ HBn.out; clear hbn)|(go_at_call 148; (with_reducible refine (wide4_is h3 s4 _ (by omega) S4.out).mono ?_); rintro e wn ⟨rfl,hbn⟩; have HBn:=below_step (by assumption) hbn; obtain ⟨x0,x1,x2⟩:=HC.out _ HBn.out; clear hbn))
  all_goals go_step
  all_goals go_step
  all_goals go_meet
  all_goals exact ⟨rfl,by assumption⟩
 case rest =>
  obtain ⟨rfl,hb⟩:=hcut
  rw [HT.out]
  have zt:(bA (textL n ⟨h1,h2,h3⟩)).size=13:=by rw [bA_size,textL_length]
  obtain ⟨c,HCc⟩:∃ c,Hid (crcL (textL n ⟨h1,h2,h3⟩)=c):=⟨_,rfl⟩
  have hc:c<9223372036854775808:=by rw [← HCc.out]; have:=crcL_lt (textL n ⟨h1,h2,h3⟩); omega
  obtain ⟨s5,S5⟩:∃ t,Hid (bA (wideL c 4)=t):=⟨_,rfl⟩
  have z5:s5.size=4:=by rw [← S5.out,bA_size,wideL_length]
  have HR:Hid (bA (textL n ⟨h1,h2,h3⟩) ++ s5=bA (bodyL n ⟨h1,h2,h3⟩)):=by unfold Hid bodyL; rw [← S5.out,bA_append,HCc.out]
  have HBc:=hb
  clear hb
  go_wp2_with fail
  refine (crc_is _ c _ (by rw [zt]; decide) (by rw [bA_list]; exact HCc.out)).mono ?_
  rintro e wx ⟨rfl,hx⟩
  subst wx
  go_wp2_with fail
  refine (wide4_is c s5 _ hc S5.out).mono ?_
  rintro e w9 ⟨rfl,hb9⟩
  have HB9:=below_step HBc hb9
  clear hb9
  go_wp2_with fail
  go_ret
  exact ⟨by rw [← HR.out]; rfl,HBW.out.trans (HB9.out.mono HBW.out.size)⟩
section
variable {zs:List Int} {s s':Nat→St} {g g':Gh}
theorem waitsY {P:PL} {att k:Int} (h:waitsB P att k=true):(k=2∧P.stt=0∧att=0) ∨ (k=4∧P.stt=0∧0<att) ∨ (k=6∧P.stt=1):=by
 unfold waitsB at h
 simp at h
 omega
end
theorem Tryz.infoME:(Tryz.prog.info? 146).map (fun i=>(i.zero,i.size,i.bytes))=some (some (.agg #[.int .i64 0,.int .i64 0,.int .i64 0]),3,24):=by kernel_rfl
theorem me3_one (x:E3):∀ u∈e3L x,u.oneCell'=true:=by
 intro u hu
 simp [e3L] at hu
 rcases hu with rfl|rfl|rfl <;> rfl
theorem step_append_me1 {w:World} {ops:Array Oper} {o:Oper} {a:Act} {K:Act→World→Prop} {Q:Exit→Act→World→Prop} {E:Prop} (hgd:o.guard=none) (s x:Operand)
  (ho:o.op=.call { callee:=.builtin .append,args:=#[s,x],argTypes:=#[52,52] })
  (base n:Nat) (v:Value) (xs:List Value) (ad:Addr) (c:Nat) (F:E3) (hs:a.eval s=v) (hx:a.eval x=.slice (some ad) 1 c) (hown:w.ownsRow base 146 3 v n xs) (hu:∀ j u,(e3L F)[j]? = some u→w.cell? (ad.add j)=some u) (hn:n≤1000000000000) (hb:base≤w.heap.size)
  (h:∀ ad' cap' w',w'.ownsRow base 146 3 (.slice ad' (n+1) cap') (n+1) (xs ++ e3L F)→w.grownBy w' v.ownBlock→K (a.put o.dst (.slice ad' (n+1) cap')) w') :
  if Region.wanted o (yielded ops a.tmps)=true then Oper.wp Tryz.prog o a w K Q else E:=by
 have hw:Region.wanted o (yielded ops a.tmps)=true:=by simp [Region.wanted,hgd]
 rw [if_pos hw]
 obtain ⟨i0,hi0,hz0,hz1,hz2⟩:=info_parts Tryz.infoME
 obtain ⟨v',w',hr,h2,h3,-,-⟩:=run_append_own_at (P:=Tryz.prog) w base 52 o.type 146 i0 _ 3 24 Tryz.underlying52 hi0 hz0 hz1 hz2 rfl (by decide) v n xs hown ad 1 c (e3L F) rfl hu (me3_one F) (by unfold maxLen; omega) (by omega) hb
 obtain ⟨ad',cap',rfl⟩:∃ ad' cap',v'=.slice ad' (n+1) cap':=by
  rcases h2.2 with ⟨e,h0⟩|⟨g,cap,cur,e,-⟩
  ·omega
  ·exact ⟨_,_,e⟩
 unfold Oper.wp execOp
 simp only [ho,resolve,invoke,builtin,Sem.run_bind,Sem.run_pure,Result.andThen_ok,List.map_toArray,List.map_cons,List.map_nil,hs,hx,hr]
 exact h ad' cap' w' h2 h3
theorem lit_cellsM (w:World) (t:TypeId) (L:List Value):∀ j u,L[j]? = some u→(w.alloc (.cells L.toArray t)).cell? ((⟨w.heap.size,0,none⟩:Addr).add j)=some u:=by
 intro j u h
 rw [addr_add,cell_of_row _ _ _ _ _ _ (heap_alloc_new w _),List.getElem?_toArray,Nat.zero_add]
 exact h
theorem evs_take (L:List E3) (k:Nat) (h:k<L.length):evCells (L.take (k+1))=evCells (L.take k) ++ e3L (L[k]'h):=by
 unfold evCells
 rw [take_snoc L k h,List.flatMap_append,List.flatMap_singleton]
theorem backEvents_any (ad:Option Addr) (cap:Nat) (L:List E3) (w:World) (hL:EL w ad L) (hl:L.length≤1000) :
  Calls Tryz.prog 28 #[.slice ad L.length cap] w fun e w'=>∃ ad' cap',e=.returned (.slice ad' L.length cap')∧EL w' ad' L∧Below w.heap.size w w':=by
 have HL:=hid hL
 clear hL
 go_enter Tryz.func28,Tryz.ntmps28
 go_wp2_with fail
 go_loopw [3,4] (fun v i wr=>∃ k:Nat,k≤L.length∧i=.int .i64 (k:Int)∧wr.ownsRow w.heap.size 146 3 v k (evCells (L.take k))∧Below w.heap.size w wr) (fun _ i _=>L.length - (intOf i).toNat)
 case atStart=>exact ⟨0,Nat.zero_le _,rfl,World.ownsRow_nil _ _ _ _,Below.refl _ _⟩
 case round =>
  obtain ⟨k,hk,rfl,hown,hb⟩:=hrel
  have HB:=hid hb
  by_cases hlt:k<L.length
  ·obtain ⟨b,o,rfl,y0,y1,y2⟩:=HL.out k hlt
   obtain ⟨⟨es,ed,ep⟩,HS⟩:∃ e,Hid (L[k]'hlt=e):=⟨_,rfl⟩
   rw [HS.out] at y0 y1 y2
   replace y0:=cell_later hb y0
   replace y1:=cell_later hb y1
   replace y2:=cell_later hb y2
   obtain ⟨W2,HW2⟩:∃ W2,Hid (wr.drew.alloc (.cells #[.int .i64 es,.int .i64 ed,.int .i64 ep] 146)=W2):=⟨_,rfl⟩
   have hW2:=HW2.out
   have HB2:Hid (Below wr.heap.size wr W2):=by rw [← HW2.out]; exact (Below.refl _ _).drew.alloc (Nat.le_refl _) _
   have HO:Hid (W2.ownsRow w.heap.size 146 3 u3 k (evCells (L.take k))):=own_later hown HB2.out (Nat.le_refl _)
   have HLit:Hid (∀ j u,(e3L ⟨es,ed,ep⟩)[j]? = some u→W2.cell? ((⟨wr.heap.size,0,none⟩:Addr).add j)=some u):=by rw [← HW2.out]; exact lit_cellsM wr.drew 146 (e3L ⟨es,ed,ep⟩)
   have HTk:=hid (evs_take L k hlt)
   rw [HS.out] at HTk
   have hbs:w.heap.size≤W2.heap.size:=Nat.le_trans hb.size HB2.out.size
   have hk60:k≤1000000000000:=by omega
   have HBo:Hid (∀ w',W2.grownBy w' u3.ownBlock→Below w.heap.size w w'):=fun w' hg=>Below.grown (below_trans HB.out HB2.out) hg hbs (fun q hq=>(HO.out.lt q hq).1)
   clear hb hown
   go_wp2_with fail
   go_region_law ((refine step_append_me1 (by rfl) _ _ (by rfl) w.heap.size k u3 (evCells (L.take k)) ⟨wr.heap.size,0,none⟩ 1 ⟨es,ed,ep⟩ (by rfl) (by rfl) (by exact HO.out) (by exact HLit.out) hk60 hbs ?_; intro ad' cap' w' hown hg; have HS2:=hid (And.intro hown (HBo.out w' hg)); clear hown hg))
   all_goals go_wp2_with fail
   all_goals go_roundw
   all_goals first|(simp [intOf]; omega)|skip
   all_goals exact ⟨k+1,by omega,by go_num,by rw [HTk.out]; exact HS2.out.1,HS2.out.2⟩
  ·obtain rfl:k=L.length:=by omega
   rw [List.take_length] at hown
   obtain ⟨adO,capO,rfl,-,-,hO⟩:=own_el hown
   have HOw:=hid hO
   have hk2:¬ ((L.length:Int)<(L.length:Int)):=by omega
   clear hown hb hO
   go_wp2_with fail
   go_ret
   exact ⟨_,⟨_,rfl⟩,HOw.out,HB.out⟩
end Go.Proofs.YtjcflddbaeiajacGreatDoor
