/-
  On the way to SActsProof: RA RB.
-/
import Derived.Test.YtkopfpaldmapdaaDoorBs6
import Derived.Deep.CutRange
set_option maxHeartbeats 8000000
set_option maxRecDepth 100000
namespace Go.Proofs.YtkopfpaldmapdaaDoor
open Go.RowKit
theorem idx_strR (s:ByteArray) (i:Nat) (z:Int) (h:i<s.size) (hz:z=i) (w:World):(Instr.index 9 (.string s) (.int .i64 z)).run Tryd.prog w=.ok (.int .u8 ((s[i]'h).toNat:Int)) w:=idx_str s i z h hz w
theorem conv_lit (w:World) (x:Int) (b:UInt8) (hb:(b.toNat:Int)=x):(convert 80 9 (.slice (some ⟨w.heap.size,0,none⟩) 1 1)).run Tryd.prog (w.alloc (.cells #[.int .u8 x] 5))=.ok (.string (bA [b])) (w.alloc (.cells #[.int .u8 x] 5)):=by
 subst hb
 have:=run_convert_bytes_back (P:=Tryd.prog) (w.alloc (.cells #[.int .u8 (b.toNat:Int)] 5)) 80 9 5 ⟨w.heap.size,0,none⟩ 1 [b] Tryd.underlying80 Tryd.underlying5 Tryd.underlying9 (fun j hj=>by
  obtain rfl:j=0:=by simpa using hj
  rw [addrAdd,cell_of_row _ w.heap.size 0 _ _ _ (heap_alloc_new w _)]; rfl)
 rw [show ([b]:List UInt8).length=1 from rfl] at this
 rw [this]; rfl
theorem byte_any (n:Nat) (w:World) (hn:n<256) :
  Calls Tryd.prog 75 #[.int .i64 (n:Int)] w fun e w'=>e=.returned (.string (bA [UInt8.ofNat n]))∧Below w.heap.size w w':=by
 have hc:=conv_lit w (n:Int) (UInt8.ofNat n) (by rw [UInt8.toNat_ofNat',Nat.mod_eq_of_lt (by omega)])
 go_enter Tryd.func75,Tryd.ntmps75
 go_wp2
 go_ret
 exact ⟨rfl,(Below.refl _ _).alloc (Nat.le_refl _) _⟩
theorem wide_front (i:Nat):∀ n,wideL n (i+1)=UInt8.ofNat (n / 256 ^ i % 256) :: wideL n i:=by
 induction i with
 | zero=>intro n; simp [wideL]
 | succ i ih =>
  intro n
  rw [wideL,ih (n / 256),Nat.div_div_eq_div_mul,← Nat.pow_succ']
  rfl
theorem bA_append (a b:List UInt8):bA a ++ bA b=bA (a ++ b):=by
 apply ba_ext
 rw [ByteArray.data_append,Array.toList_append,bA_list,bA_list,bA_list]
theorem wide_any (n k:Nat) (w:World) (hn:n<9223372036854775808) (hk:k≤4) :
  Calls Tryd.prog 101 #[.int .i64 (n:Int),.int .i64 (k:Int)] w fun e w'=>e=.returned (.string (bA (wideL n k)))∧Below w.heap.size w w':=by
 have HB:Hid (∀ i,UInt8.ofNat (n / 256 ^ i % 256) :: wideL n i=wideL n (i+1)):=fun i=>(wide_front i n).symm
 have HD:Hid (∀ i,n / 256 ^ i / 256=n / 256 ^ (i+1)):=fun i=>by rw [Nat.div_div_eq_div_mul,Nat.pow_succ]
 have HL:Hid (∀ i,n / 256 ^ i<9223372036854775808):=fun i=>Nat.lt_of_le_of_lt (Nat.div_le_self _ _) hn
 have H0:Hid (n / 256 ^ 0=n):=by unfold Hid; simp
 have HE:Hid (ByteArray.mk #[]=bA (wideL n 0)):=rfl
 go_enter Tryd.func101,Tryd.ntmps101
 go_wp2
 go_loopw [0,5,6] (fun x o i wr=>∃ m:Nat,m≤k∧i=.int .i64 (m:Int)∧x=.int .i64 ((n / 256 ^ m:Nat):Int)∧o=.string (bA (wideL n m))∧Below w.heap.size w wr) (fun _ _ i _=>k - (intOf i).toNat)
 case atStart=>exact ⟨0,Nat.zero_le _,rfl,by rw [H0.out],by rw [← HE.out],Below.refl _ _⟩
 case round =>
  obtain ⟨m,hm,rfl,rfl,rfl,hb⟩:=hrel
  have HBl:=hid hb
  have h1:=HL.out m
  have hD:=hid (HD.out m)
  have hB:=hid (HB.out m)
  clear hb
  by_cases hlt:m<k
  ·generalize n / 256 ^ m=x at h1 hD hB ⊢
   have z1:(bA [UInt8.ofNat (x % 256)]).size=1:=bA_size _
   have z2:(bA (wideL n m)).size=m:=by rw [bA_size,wideL_length]
   go_wp2_with (go_at_call 75; refine (byte_any (x % 256) _ (by omega)).mono ?_; rintro e w1 ⟨rfl,hb1⟩; have HB1:=hid (HBl.out.trans (hb1.mono HBl.out.size)); clear hb1)
   go_roundw
   case rel=>exact ⟨m+1,by omega,by go_num,val_int (by rw [← hD.out]; omega),by rw [bA_append,← hB.out]; rfl,HB1.out⟩
   case measure=>simp [intOf]; omega
  ·obtain rfl:m=k:=by omega
   go_wp2
   go_ret
   exact ⟨rfl,HBl.out⟩
theorem xor64 (a b:Nat) (ha:a<9223372036854775808) (hb:b<9223372036854775808):bits .xor .i64 (a:Int) (b:Int)=((a ^^^ b:Nat):Int):=by
 have hx:a ^^^ b<2 ^ 63:=Nat.xor_lt_two_pow (by omega) (by omega)
 show IntKind.i64.wrap ((BitVec.ofInt 64 (a:Int) ^^^ BitVec.ofInt 64 (b:Int)).toNat:Int)=_
 rw [BitVec.toNat_xor,ofInt_nat a ha,ofInt_nat b hb,IntKind.wrap_i64]
 omega
theorem crc_any (s:ByteArray) (w:World) (hs:s.size≤1000) :
  Calls Tryd.prog 102 #[.string s] w fun e w'=>e=.returned (.int .i64 (crcL s.data.toList:Nat))∧w'=w:=by
 go_enter Tryd.func102,Tryd.ntmps102
 go_wp2
 go_loop [3,4] (fun x i=>∃ k:Nat,k≤s.size∧i=.int .i64 (k:Int)∧x=.int .i64 (crcFold 4294967295 (s.data.toList.take k):Nat)) (fun _ i=>s.size - (intOf i).toNat)
 case atStart=>exact ⟨0,Nat.zero_le _,rfl,rfl⟩
 case round =>
  obtain ⟨k,hk,rfl,rfl⟩:=hrel
  have hc:crcFold 4294967295 (s.data.toList.take k)<4294967296:=crcFold_lt _ (by decide)
  by_cases hlt:k<s.size
  ·have ix:=idx_strR s k (k:Int) hlt rfl
   have hb:=UInt8.toNat_lt (s[k]'hlt)
   have HS:Hid (crcFold 4294967295 (s.data.toList.take (k+1))=crcBits (crcFold 4294967295 (s.data.toList.take k)) (s[k]'hlt).toNat 8):=by
    unfold Hid
    rw [← crcFold_snoc,List.take_add_one,List.getElem?_eq_getElem (by rw [← size_list]; exact hlt),getB hlt]
    rfl
   generalize (s[k]'hlt).toNat=x at ix hb HS
   generalize crcFold 4294967295 (s.data.toList.take k)=c at hc HS ⊢
   go_wp2
   go_loop [3,5] (fun y i=>∃ m:Nat,m≤8∧i=.int .i64 (m:Int)∧y=.int .i64 (crcBits c x m:Nat)) (fun _ i=>8 - (intOf i).toNat)
   case atStart=>exact ⟨0,Nat.zero_le _,rfl,rfl⟩
   case round =>
    obtain ⟨m,hm,rfl,rfl⟩:=hrel
    have hd:crcBits c x m<4294967296:=crcBits_lt hc x m
    have HD:Hid (crcBits c x (m+1)=crcBit (crcBits c x m) x m):=rfl
    by_cases hlt8:m<8
    ·generalize crcBits c x m=y at hd HD ⊢
     have hq:x / 2 ^ m<256:=Nat.lt_of_le_of_lt (Nat.div_le_self _ _) (by omega)
     have hx1:bits .xor .i64 (y:Int) ((x:Int) / 2 ^ m)=((y ^^^ x / 2 ^ m:Nat):Int):=by
      rw [show ((x:Int) / 2 ^ m)=((x / 2 ^ m:Nat):Int) by simp]; exact xor64 y (x / 2 ^ m) (by omega) (by omega)
     have HX:=hid (xor64 (y / 2) 3988292384 (by omega) (by decide))
     have HCb:Hid (crcBit y x m=if (y ^^^ x / 2 ^ m) % 2=1 then (y / 2) ^^^ 3988292384 else y / 2):=rfl
     generalize y ^^^ x / 2 ^ m=z at hx1 HCb
     have hpar:(z:Int) % 2=0 ∨ (z:Int) % 2=1:=by omega
     rcases hpar with hp|hp
     ·have hp2:(z:Int).tmod 2=0:=by rw [Int.tmod_eq_emod_of_nonneg (by omega)]; exact hp
      have HP:Hid (crcBits c x (m+1)=y / 2):=by unfold Hid; rw [HD.out,HCb.out,if_neg (by omega)]
      go_wp2
      all_goals go_round
      case rel=>exact ⟨m+1,by omega,by go_num,val_int (by rw [HP.out]; omega)⟩
      case measure=>simp [intOf]; omega
     ·have hp2:(z:Int).tmod 2=1:=by rw [Int.tmod_eq_emod_of_nonneg (by omega)]; exact hp
      have HP:Hid (crcBits c x (m+1)=(y / 2) ^^^ 3988292384):=by unfold Hid; rw [HD.out,HCb.out,if_pos (by omega)]
      go_wp2
      all_goals go_round
      case rel=>exact ⟨m+1,by omega,by go_num,val_int (by rw [HP.out]; exact HX.out)⟩
      case measure=>simp [intOf]; omega
    ·obtain rfl:m=8:=by omega
     go_wp2
     go_round
     case rel=>exact ⟨k+1,by omega,by go_num,val_int (by rw [HS.out])⟩
     case measure=>simp [intOf]; omega
  ·obtain rfl:k=s.size:=by omega
   rw [size_list,List.take_length] at hc
   have HC:=hid (xor64 (crcFold 4294967295 s.data.toList) 4294967295 (by omega) (by decide))
   have HT:Hid (s.data.toList.take s.size=s.data.toList):=by unfold Hid; rw [size_list,List.take_length]
   rw [HT.out]
   go_wp2
   go_ret
   exact ⟨ret_int HC.out,rfl⟩
theorem wide4_is (n:Nat) (t:ByteArray) (w:World) (hn:n<9223372036854775808) (ht:bA (wideL n 4)=t) :
  Calls Tryd.prog 101 #[.int .i64 (n:Int),.int .i64 4] w fun e w'=>e=.returned (.string t)∧Below w.heap.size w w':=by
 rw [← ht]; exact wide_any n 4 w hn (by omega)
theorem wide1_is (n:Nat) (t:ByteArray) (w:World) (hn:n<9223372036854775808) (ht:bA (wideL n 1)=t) :
  Calls Tryd.prog 101 #[.int .i64 (n:Int),.int .i64 1] w fun e w'=>e=.returned (.string t)∧Below w.heap.size w w':=by
 rw [← ht]; exact wide_any n 1 w hn (by omega)
theorem crc_is (s:ByteArray) (c:Nat) (w:World) (hs:s.size≤1000) (hc:crcL s.data.toList=c) :
  Calls Tryd.prog 102 #[.string s] w fun e w'=>e=.returned (.int .i64 (c:Int))∧w'=w:=by
 rw [← hc]; exact crc_any s w hs
theorem below_step {a b c:World} (h:Hid (Below a.heap.size a b)) (k:Below b.heap.size b c):Hid (Below a.heap.size a c):=h.out.trans (k.mono h.out.size)
theorem body_any (n h1 h2 h3:Nat) (w:World) (hn:n<4294967296) (b1:h1<256) (b2:h2<4294967296) (b3:h3<4294967296) :
  Calls Tryd.prog 76 #[.int .i64 (n:Int),.agg #[.int .i64 (h1:Int),.int .i64 (h2:Int),.int .i64 (h3:Int)]] w fun e w'=>e=.returned (.string (bA (bodyL n ⟨h1,h2,h3⟩)))∧Below w.heap.size w w':=by
 obtain ⟨W,HW⟩:∃ W,Hid (w.alloc (.cells #[.int .i64 (h1:Int),.int .i64 (h2:Int),.int .i64 (h3:Int)] 34)=W):=⟨_,rfl⟩
 have hW:=HW.out
 have RW:Hid (W.heap[w.heap.size]? = some (.cells #[.int .i64 (h1:Int),.int .i64 (h2:Int),.int .i64 (h3:Int)] 34 (0,0))):=by rw [← HW.out]; exact heap_alloc_new w _
 have hsW:w.heap.size<W.heap.size:=(Array.getElem?_eq_some_iff.1 RW.out).1
 have HBW:Hid (Below w.heap.size w W):=by rw [← HW.out]; exact (Below.refl _ _).alloc (Nat.le_refl _) _
 obtain ⟨s1,S1⟩:∃ t,Hid (bA (wideL n 4)=t):=⟨_,rfl⟩
 obtain ⟨s2,S2⟩:∃ t,Hid (bA (wideL h1 1)=t):=⟨_,rfl⟩
 obtain ⟨s3,S3⟩:∃ t,Hid (bA (wideL h2 4)=t):=⟨_,rfl⟩
 obtain ⟨s4,S4⟩:∃ t,Hid (bA (wideL h3 4)=t):=⟨_,rfl⟩
 have z1:s1.size=4:=by rw [← S1.out,bA_size,wideL_length]
 have z2:s2.size=1:=by rw [← S2.out,bA_size,wideL_length]
 have z3:s3.size=4:=by rw [← S3.out,bA_size,wideL_length]
 have z4:s4.size=4:=by rw [← S4.out,bA_size,wideL_length]
 have HT:Hid (s1 ++ s2 ++ s3 ++ s4=bA (textL n ⟨h1,h2,h3⟩)):=by unfold Hid textL; rw [← S1.out,← S2.out,← S3.out,← S4.out,bA_append,bA_append,bA_append]
 have HC:Hid (∀ wx,Below W.heap.size W wx→wx.cell? ⟨w.heap.size,0,none⟩=some (.int .i64 (h1:Int))∧wx.cell? ⟨w.heap.size,1,none⟩=some (.int .i64 (h2:Int))∧wx.cell? ⟨w.heap.size,2,none⟩=some (.int .i64 (h3:Int))):=by
  intro wx hb
  have r:=(hb.block _ hsW).trans RW.out
  exact ⟨by rw [cell_of_row _ _ _ _ _ _ r]; rfl,by rw [cell_of_row _ _ _ _ _ _ r]; rfl,by rw [cell_of_row _ _ _ _ _ _ r]; rfl⟩
 obtain ⟨c0,c1,c2⟩:=HC.out _ (Below.refl _ _)
 go_enter Tryd.func76,Tryd.ntmps76
 go_wp2_with fail
 have HD0:Hid (Below W.heap.size W W.drew):=(Below.refl _ _).drew
 go_cut [5] from 6 (fun s5 wx=>s5=.string (s1 ++ s2 ++ s3 ++ s4)∧Hid (Below W.heap.size W wx))
 case first =>
  go_region_held3 (fun w'=>w'.cell? ⟨w.heap.size,0,none⟩=some (.int .i64 (h1:Int))∧w'.cell? ⟨w.heap.size,1,none⟩=some (.int .i64 (h2:Int))∧w'.cell? ⟨w.heap.size,2,none⟩=some (.int .i64 (h3:Int))) (go_keep) (first|(go_at_call 101; (with_reducible refine (wide4_is n s1 _ (by omega) S1.out).mono ?_); rintro e wn ⟨rfl,hbn⟩; have HBn:=below_step (by assumption) hbn; obtain ⟨x0,x1,x2⟩:=HC.out _ HBn.out; clear hbn)|(go_at_call 101; (with_reducible refine (wide1_is h1 s2 _ (by omega) S2.out).mono ?_); rintro e wn ⟨rfl,hbn⟩; have HBn:=below_step (by assumption) hbn; obtain ⟨x0,x1,x2⟩:=HC.out _ HBn.out; clear hbn)|(go_at_call 101; (with_reducible refine (wide4_is h2 s3 _ (by omega) S3.out).mono ?_); rintro e wn ⟨rfl,hbn⟩; have HBn:=below_step (by assumption) hbn; obtain ⟨x0,x1,x2⟩:=HC.out _ HBn.out; clear hbn)|(go_at_call 101; (with_reducible refine (wide4_is h3 s4 _ (by omega) S4.out).mono ?_); rintro e wn ⟨rfl,hbn⟩; have HBn:=below_step (by assumption) hbn; obtain ⟨x0,x1,x2⟩:=HC.out _ HBn.out; clear hbn))
  all_goals go_step
  all_goals go_step
  all_goals go_meet
  all_goals exact ⟨rfl,by assumption⟩
 case rest =>
  obtain ⟨rfl,hb⟩:=hcut
  rw [HT.out]
  have zt:(bA (textL n ⟨h1,h2,h3⟩)).size=13:=by rw [bA_size,textL_length]
  obtain ⟨c,HCc⟩:∃ c,Hid (crcL (textL n ⟨h1,h2,h3⟩)=c):=⟨_,rfl⟩
  have hc:c<9223372036854775808:=by rw [← HCc.out]; have:=crcL_lt (textL n ⟨h1,h2,h3⟩); omega
  obtain ⟨s5,S5⟩:∃ t,Hid (bA (wideL c 4)=t):=⟨_,rfl⟩
  have z5:s5.size=4:=by rw [← S5.out,bA_size,wideL_length]
  have HR:Hid (bA (textL n ⟨h1,h2,h3⟩) ++ s5=bA (bodyL n ⟨h1,h2,h3⟩)):=by unfold Hid bodyL; rw [← S5.out,bA_append,HCc.out]
  have HBc:=hb
  clear hb
  go_wp2_with fail
  refine (crc_is _ c _ (by rw [zt]; decide) (by rw [bA_list]; exact HCc.out)).mono ?_
  rintro e wx ⟨rfl,hx⟩
  subst wx
  go_wp2_with fail
  refine (wide4_is c s5 _ hc S5.out).mono ?_
  rintro e w9 ⟨rfl,hb9⟩
  have HB9:=below_step HBc hb9
  clear hb9
  go_wp2_with fail
  go_ret
  exact ⟨by rw [← HR.out]; rfl,HBW.out.trans (HB9.out.mono HBW.out.size)⟩
end Go.Proofs.YtkopfpaldmapdaaDoor
