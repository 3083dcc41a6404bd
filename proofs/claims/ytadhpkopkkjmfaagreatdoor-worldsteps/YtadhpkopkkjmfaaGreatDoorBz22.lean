/-
  On the way to WStepsProof: L7 RA RB P6 P7 P8.
-/
import Derived.Test.YtadhpkopkkjmfaaGreatDoorBz8
import Derived.Test.YtadhpkopkkjmfaaGreatDoorBz14
set_option maxHeartbeats 8000000
set_option maxRecDepth 100000
namespace Go.Proofs.YtadhpkopkkjmfaaGreatDoor
open Go.RowKit
structure FIn (w W:World) (f t d k a:Int) (y:Bool) (p1 p2 p3:Int):Prop where
 row:W.heap[w.heap.size]? = some (.cells #[.int .i64 f,.int .i64 t,.int .i64 d,.int .i64 k,.int .i64 a,.bool y,.int .i64 p1,.int .i64 p2,.int .i64 p3] 104 (0,0))
theorem FIn.later {w W V:World} {f t d k a:Int} {y:Bool} {p1 p2 p3:Int} (h:FIn w W f t d k a y p1 p2 p3) (hb:Below W.heap.size W V):FIn w V f t d k a y p1 p2 p3:=⟨(hb.block _ (row_ltJ h.row)).trans h.row⟩
section
variable {w:World} {lb id n cap:Nat} {deal att:Int} {aw:Option Addr} {st:ByteArray} {wait:Int} {vh:Value} {hs:List F9} {ph seen:Int}
theorem rlhear_again (f:Nat) (k:Int) (y:Bool) (p1 p2 p3:Int) (x:F9) (h:RLd w lb id n cap deal att aw st k vh hs ph seen) (hl:hs.length≤1000) (hw:k≠0) (hf:f<n) (hx:fromL hs f=some x) :
  Calls Tryz.prog 126 #[.pointer (some ⟨lb,0,none⟩),frV f id deal k att y p1 p2 p3] w fun e w'=>e=.returned (.slice none 0 0)∧Below w.heap.size w w':=by
 obtain ⟨W,HW⟩:∃ W,Hid (w.alloc (.cells #[.int .i64 (f:Int),.int .i64 (id:Int),.int .i64 deal,.int .i64 k,.int .i64 att,.bool y,.int .i64 p1,.int .i64 p2,.int .i64 p3] 104)=W):=⟨_,rfl⟩
 have HB:Hid (Below w.heap.size w W):=by rw [← HW.out]; exact (Below.refl _ _).alloc (Nat.le_refl _) _
 have HR:Hid (FIn w W f id deal k att y p1 p2 p3):=by rw [← HW.out]; exact ⟨heap_alloc_new w _⟩
 obtain ⟨b0,b1,b2,b3,b4,b5,b6,b7,b8⟩:=nine HR.out.row
 have HI:=hid (h.later HB.out)
 obtain ⟨c0,c1,c2,c3,c4,c5,c6,c7,c8⟩:=HI.out.cells
 have hW:=HW.out
 have e0:(k == 0)=false:=beq_eq_false_iff_ne.2 hw
 have f7:¬ (n:Int)≤(f:Int):=by omega
 have HX:=hid hx
 obtain ⟨xf,xt,xd,xk,xa,xy,xph,xpr,xpa⟩:=x
 clear h hx
 go_enter Tryz.func126,Tryz.ntmps126
 go_wp2_with fail
 go_quiet (fail)
 have HB2:=hid (below_drewN (Below.refl W.heap.size W) nq)
 generalize W.drewN nq=V at HB2 ⊢
 have HI2:=hid (HI.out.later HB2.out)
 have HR2:=hid (HR.out.later HB2.out)
 have HB3:=hid (HB.out.trans (HB2.out.mono HB.out.size))
 clear b0 b1 b2 b3 b4 b5 b6 b7 b8 c0 c1 c2 c3 c4 c5 c6 c7 c8
 obtain ⟨b0,b1,b2,b3,b4,b5,b6,b7,b8⟩:=nine HR2.out.row
 go_wp2_with fail
 refine (rlfrom_any lb id n cap deal att aw st k vh hs ph seen f _ HI2.out hl).mono ?_
 rw [HX.out]
 unfold frO
 simp only [Option.isSome]
 rintro e w1 ⟨rfl,hb1⟩
 have HB4:=hid (HB3.out.trans (hb1.mono HB3.out.size))
 clear hb1
 go_wp2_with fail
 go_ret
 exact ⟨rfl,HB4.out.alloc HB4.out.size _⟩
end
theorem idx_strR (s:ByteArray) (i:Nat) (z:Int) (h:i<s.size) (hz:z=i) (w:World):(Instr.index 9 (.string s) (.int .i64 z)).run Tryz.prog w=.ok (.int .u8 ((s[i]'h).toNat:Int)) w:=idx_str s i z h hz w
theorem conv_lit (w:World) (x:Int) (b:UInt8) (hb:(b.toNat:Int)=x):(convert 149 9 (.slice (some ⟨w.heap.size,0,none⟩) 1 1)).run Tryz.prog (w.alloc (.cells #[.int .u8 x] 5))=.ok (.string (bA [b])) (w.alloc (.cells #[.int .u8 x] 5)):=by
 subst hb
 have:=run_convert_bytes_back (P:=Tryz.prog) (w.alloc (.cells #[.int .u8 (b.toNat:Int)] 5)) 149 9 5 ⟨w.heap.size,0,none⟩ 1 [b] Tryz.underlying149 Tryz.underlying5 Tryz.underlying9 (fun j hj=>by
  obtain rfl:j=0:=by simpa using hj
  rw [addrAdd,cell_of_row _ w.heap.size 0 _ _ _ (heap_alloc_new w _)]; rfl)
 rw [show ([b]:List UInt8).length=1 from rfl] at this
 rw [this]; rfl
theorem byte_any (n:Nat) (w:World) (hn:n<256) :
  Calls Tryz.prog 185 #[.int .i64 (n:Int)] w fun e w'=>e=.returned (.string (bA [UInt8.ofNat n]))∧Below w.heap.size w w':=by
 have hc:=conv_lit w (n:Int) (UInt8.ofNat n) (by rw [UInt8.toNat_ofNat',Nat.mod_eq_of_lt (by omega)])
 go_enter Tryz.func185,Tryz.ntmps185
 go_wp2
 go_ret
 exact ⟨rfl,(Below.refl _ _).alloc (Nat.le_refl _) _⟩
theorem wide_front (i:Nat):∀ n,wideL n (i+1)=UInt8.ofNat (n / 256 ^ i % 256) :: wideL n i:=by
 induction i with
 | zero=>intro n; simp [wideL]
 | succ i ih =>
  intro n
  rw [wideL,ih (n / 256),Nat.div_div_eq_div_mul,← Nat.pow_succ']
  rfl
theorem bA_append (a b:List UInt8):bA a ++ bA b=bA (a ++ b):=by
 apply ba_ext
 rw [ByteArray.data_append,Array.toList_append,bA_list,bA_list,bA_list]
theorem wide_any (n k:Nat) (w:World) (hn:n<9223372036854775808) (hk:k≤4) :
  Calls Tryz.prog 202 #[.int .i64 (n:Int),.int .i64 (k:Int)] w fun e w'=>e=.returned (.string (bA (wideL n k)))∧Below w.heap.size w w':=by
 have HB:Hid (∀ i,UInt8.ofNat (n / 256 ^ i % 256) :: wideL n i=wideL n (i+1)):=fun i=>(wide_front i n).symm
 have HD:Hid (∀ i,n / 256 ^ i / 256=n / 256 ^ (i+1)):=fun i=>by rw [Nat.div_div_eq_div_mul,Nat.pow_succ]
 have HL:Hid (∀ i,n / 256 ^ i<9223372036854775808):=fun i=>Nat.lt_of_le_of_lt (Nat.div_le_self _ _) hn
 have H0:Hid (n / 256 ^ 0=n):=by unfold Hid; simp
 have HE:Hid (ByteArray.mk #[]=bA (wideL n 0)):=rfl
 go_enter Tryz.func202,Tryz.ntmps202
 go_wp2
 go_loopw [0,5,6] (fun x o i wr=>∃ m:Nat,m≤k∧i=.int .i64 (m:Int)∧x=.int .i64 ((n / 256 ^ m:Nat):Int)∧o=.string (bA (wideL n m))∧Below w.heap.size w wr) (fun _ _ i _=>k - (intOf i).toNat)
 case atStart=>exact ⟨0,Nat.zero_le _,rfl,by rw [H0.out],by rw [← HE.out],Below.refl _ _⟩
 case round =>
  obtain ⟨m,hm,rfl,rfl,rfl,hb⟩:=hrel
  have HBl:=hid hb
  have h1:=HL.out m
  have hD:=hid (HD.out m)
  have hB:=hid (HB.out m)
  clear hb
  by_cases hlt:m<k
  ·generalize n / 256 ^ m=x at h1 hD hB ⊢
   have z1:(bA [UInt8.ofNat (x % 256)]).size=1:=bA_size _
   have z2:(bA (wideL n m)).size=m:=by rw [bA_size,wideL_length]
   go_wp2_with (go_at_call 185; refine (byte_any (x % 256) _ (by omega)).mono ?_; rintro e w1 ⟨rfl,hb1⟩; have HB1:=hid (HBl.out.trans (hb1.mono HBl.out.size)); clear hb1)
   go_roundw
   case rel=>exact ⟨m+1,by omega,by go_num,val_int (by rw [← hD.out]; omega),by rw [bA_append,← hB.out]; rfl,HB1.out⟩
   case measure=>simp [intOf]; omega
  ·obtain rfl:m=k:=by omega
   go_wp2
   go_ret
   exact ⟨rfl,HBl.out⟩
theorem xor64 (a b:Nat) (ha:a<9223372036854775808) (hb:b<9223372036854775808):bits .xor .i64 (a:Int) (b:Int)=((a ^^^ b:Nat):Int):=by
 have hx:a ^^^ b<2 ^ 63:=Nat.xor_lt_two_pow (by omega) (by omega)
 show IntKind.i64.wrap ((BitVec.ofInt 64 (a:Int) ^^^ BitVec.ofInt 64 (b:Int)).toNat:Int)=_
 rw [BitVec.toNat_xor,ofInt_nat a ha,ofInt_nat b hb,IntKind.wrap_i64]
 omega
theorem crc_any (s:ByteArray) (w:World) (hs:s.size≤1000) :
  Calls Tryz.prog 203 #[.string s] w fun e w'=>e=.returned (.int .i64 (crcL s.data.toList:Nat))∧w'=w:=by
 go_enter Tryz.func203,Tryz.ntmps203
 go_wp2
 go_loop [3,4] (fun x i=>∃ k:Nat,k≤s.size∧i=.int .i64 (k:Int)∧x=.int .i64 (crcFold 4294967295 (s.data.toList.take k):Nat)) (fun _ i=>s.size - (intOf i).toNat)
 case atStart=>exact ⟨0,Nat.zero_le _,rfl,rfl⟩
 case round =>
  obtain ⟨k,hk,rfl,rfl⟩:=hrel
  have hc:crcFold 4294967295 (s.data.toList.take k)<4294967296:=crcFold_lt _ (by decide)
  by_cases hlt:k<s.size
  ·have ix:=idx_strR s k (k:Int) hlt rfl
   have hb:=UInt8.toNat_lt (s[k]'hlt)
   have HS:Hid (crcFold 4294967295 (s.data.toList.take (k+1))=crcBits (crcFold 4294967295 (s.data.toList.take k)) (s[k]'hlt).toNat 8):=by
    unfold Hid
    rw [← crcFold_snoc,List.take_add_one,List.getElem?_eq_getElem (by rw [← size_list]; exact hlt),getB hlt]
    rfl
   generalize (s[k]'hlt).toNat=x at ix hb HS
   generalize crcFold 4294967295 (s.data.toList.take k)=c at hc HS ⊢
   go_wp2
   go_loop [3,5] (fun y i=>∃ m:Nat,m≤8∧i=.int .i64 (m:Int)∧y=.int .i64 (crcBits c x m:Nat)) (fun _ i=>8 - (intOf i).toNat)
   case atStart=>exact ⟨0,Nat.zero_le _,rfl,rfl⟩
   case round =>
    obtain ⟨m,hm,rfl,rfl⟩:=hrel
    have hd:crcBits c x m<4294967296:=crcBits_lt hc x m
    have HD:Hid (crcBits c x (m+1)=crcBit (crcBits c x m) x m):=rfl
    by_cases hlt8:m<8
    ·generalize crcBits c x m=y at hd HD ⊢
     have hq:x / 2 ^ m<256:=Nat.lt_of_le_of_lt (Nat.div_le_self _ _) (by omega)
     have hx1:bits .xor .i64 (y:Int) ((x:Int) / 2 ^ m)=((y ^^^ x / 2 ^ m:Nat):Int):=by
      rw [show ((x:Int) / 2 ^ m)=((x / 2 ^ m:Nat):Int) by simp]; exact xor64 y (x / 2 ^ m) (by omega) (by omega)
     have HX:=hid (xor64 (y / 2) 3988292384 (by omega) (by decide))
     have HCb:Hid (crcBit y x m=if (y ^^^ x / 2 ^ m) % 2=1 then (y / 2) ^^^ 3988292384 else y / 2):=rfl
     generalize y ^^^ x / 2 ^ m=z at hx1 HCb
     have hpar:(z:Int) % 2=0 ∨ (z:Int) % 2=1:=by omega
     rcases hpar with hp|hp
     ·have hp2:(z:Int).tmod 2=0:=by rw [Int.tmod_eq_emod_of_nonneg (by omega)]; exact hp
      have HP:Hid (crcBits c x (m+1)=y / 2):=by unfold Hid; rw [HD.out,HCb.out,if_neg (by omega)]
      go_wp2
      all_goals go_round
      case rel=>exact ⟨m+1,by omega,by go_num,val_int (by rw [HP.out]; omega)⟩
      case measure=>simp [intOf]; omega
     ·have hp2:(z:Int).tmod 2=1:=by rw [Int.tmod_eq_emod_of_nonneg (by omega)]; exact hp
      have HP:Hid (crcBits c x (m+1)=(y / 2) ^^^ 3988292384):=by unfold Hid; rw [HD.out,HCb.out,if_pos (by omega)]
      go_wp2
      all_goals go_round
      case rel=>exact ⟨m+1,by omega,by go_num,val_int (by rw [HP.out]; exact HX.out)⟩
      case measure=>simp [intOf]; omega
    ·obtain rfl:m=8:=by omega
     go_wp2
     go_round
     case rel=>exact ⟨k+1,by omega,by go_num,val_int (by rw [HS.out])⟩
     case measure=>simp [intOf]; omega
  ·obtain rfl:k=s.size:=by omega
   rw [size_list,List.take_length] at hc
   have HC:=hid (xor64 (crcFold 4294967295 s.data.toList) 4294967295 (by omega) (by decide))
   have HT:Hid (s.data.toList.take s.size=s.data.toList):=by unfold Hid; rw [size_list,List.take_length]
   rw [HT.out]
   go_wp2
   go_ret
   exact ⟨ret_int HC.out,rfl⟩
theorem wide4_is (n:Nat) (t:ByteArray) (w:World) (hn:n<9223372036854775808) (ht:bA (wideL n 4)=t) :
  Calls Tryz.prog 202 #[.int .i64 (n:Int),.int .i64 4] w fun e w'=>e=.returned (.string t)∧Below w.heap.size w w':=by
 rw [← ht]; exact wide_any n 4 w hn (by omega)
theorem wide1_is (n:Nat) (t:ByteArray) (w:World) (hn:n<9223372036854775808) (ht:bA (wideL n 1)=t) :
  Calls Tryz.prog 202 #[.int .i64 (n:Int),.int .i64 1] w fun e w'=>e=.returned (.string t)∧Below w.heap.size w w':=by
 rw [← ht]; exact wide_any n 1 w hn (by omega)
theorem crc_is (s:ByteArray) (c:Nat) (w:World) (hs:s.size≤1000) (hc:crcL s.data.toList=c) :
  Calls Tryz.prog 203 #[.string s] w fun e w'=>e=.returned (.int .i64 (c:Int))∧w'=w:=by
 rw [← hc]; exact crc_any s w hs
theorem below_step {a b c:World} (h:Hid (Below a.heap.size a b)) (k:Below b.heap.size b c):Hid (Below a.heap.size a c):=h.out.trans (k.mono h.out.size)
theorem body_any (n h1 h2 h3:Nat) (w:World) (hn:n<4294967296) (b1:h1<256) (b2:h2<4294967296) (b3:h3<4294967296) :
  Calls Tryz.prog 184 #[.int .i64 (n:Int),.agg #[.int .i64 (h1:Int),.int .i64 (h2:Int),.int .i64 (h3:Int)]] w fun e w'=>e=.returned (.string (bA (bodyL n ⟨h1,h2,h3⟩)))∧Below w.heap.size w w':=by
 obtain ⟨W,HW⟩:∃ W,Hid (w.alloc (.cells #[.int .i64 (h1:Int),.int .i64 (h2:Int),.int .i64 (h3:Int)] 43)=W):=⟨_,rfl⟩
 have hW:=HW.out
 have RW:Hid (W.heap[w.heap.size]? = some (.cells #[.int .i64 (h1:Int),.int .i64 (h2:Int),.int .i64 (h3:Int)] 43 (0,0))):=by rw [← HW.out]; exact heap_alloc_new w _
 have hsW:w.heap.size<W.heap.size:=(Array.getElem?_eq_some_iff.1 RW.out).1
 have HBW:Hid (Below w.heap.size w W):=by rw [← HW.out]; exact (Below.refl _ _).alloc (Nat.le_refl _) _
 obtain ⟨s1,S1⟩:∃ t,Hid (bA (wideL n 4)=t):=⟨_,rfl⟩
 obtain ⟨s2,S2⟩:∃ t,Hid (bA (wideL h1 1)=t):=⟨_,rfl⟩
 obtain ⟨s3,S3⟩:∃ t,Hid (bA (wideL h2 4)=t):=⟨_,rfl⟩
 obtain ⟨s4,S4⟩:∃ t,Hid (bA (wideL h3 4)=t):=⟨_,rfl⟩
 have z1:s1.size=4:=by rw [← S1.out,bA_size,wideL_length]
 have z2:s2.size=1:=by rw [← S2.out,bA_size,wideL_length]
 have z3:s3.size=4:=by rw [← S3.out,bA_size,wideL_length]
 have z4:s4.size=4:=by rw [← S4.out,bA_size,wideL_length]
 have HT:Hid (s1 ++ s2 ++ s3 ++ s4=bA (textL n ⟨h1,h2,h3⟩)):=by unfold Hid textL; rw [← S1.out,← S2.out,← S3.out,← S4.out,bA_append,bA_append,bA_append]
 have HC:Hid (∀ wx,Below W.heap.size W wx→wx.cell? ⟨w.heap.size,0,none⟩=some (.int .i64 (h1:Int))∧wx.cell? ⟨w.heap.size,1,none⟩=some (.int .i64 (h2:Int))∧wx.cell? ⟨w.heap.size,2,none⟩=some (.int .i64 (h3:Int))):=by
  intro wx hb
  have r:=(hb.block _ hsW).trans RW.out
  exact ⟨by rw [cell_of_row _ _ _ _ _ _ r]; rfl,by rw [cell_of_row _ _ _ _ _ _ r]; rfl,by rw [cell_of_row _ _ _ _ _ _ r]; rfl⟩
 obtain ⟨c0,c1,c2⟩:=HC.out _ (Below.refl _ _)
 go_enter Tryz.func184,Tryz.ntmps184
 go_wp2_with fail
 have HD0:Hid (Below W.heap.size W W.drew):=(Below.refl _ _).drew
 go_cut [5] from 6 (fun s5 wx=>s5=.string (s1 ++ s2 ++ s3 ++ s4)∧Hid (Below W.heap.size W wx))
 case first =>
  go_region_held3 (fun w'=>w'.cell? ⟨w.heap.size,0,none⟩=some (.int .i64 (h1:Int))∧w'.cell? ⟨w.heap.size,1,none⟩=some (.int .i64 (h2:Int))∧w'.cell? ⟨w.heap.size,2,none⟩=some (.int .i64 (h3:Int))) (go_keep) (first|(go_at_call 202; (with_reducible refine (wide4_is n s1 _ (by omega) S1.out).mono ?_); rintro e wn ⟨rfl,hbn⟩; have HBn:=below_step (by assumption) hbn; obtain ⟨x0,x1,x2⟩:=HC.out _ HBn.out; clear hbn)|(go_at_call 202; (with_reducible refine (wide1_is h1 s2 _ (by omega) S2.out).mono ?_); rintro e wn ⟨rfl,hbn⟩; have HBn:=below_step (by assumption) hbn; obtain ⟨x0,x1,x2⟩:=HC.out _ HBn.out; clear hbn)|(go_at_call 202; (with_reducible refine (wide4_is h2 s3 _ (by omega) S3.out).mono ?_); rintro e wn ⟨rfl,hbn⟩; have HBn:=below_step (by assumption) hbn; obtain ⟨x0,x1,x2⟩:=HC.out _ HBn.out; clear hbn)|(go_at_call 202; (with_reducible refine (wide4_is h3 s4 _ (by omega) S4.out).mono ?_); rintro e wn ⟨rfl,hbn⟩; have HBn:=below_step (by assumption) hbn; obtain ⟨x0,x1,x2⟩:=HC.out _ HBn.out; clear hbn))
  all_goals go_step
  all_goals go_step
  all_goals go_meet
  all_goals exact ⟨rfl,by assumption⟩
 case rest =>
  obtain ⟨rfl,hb⟩:=hcut
  rw [HT.out]
  have zt:(bA (textL n ⟨h1,h2,h3⟩)).size=13:=by rw [bA_size,textL_length]
  obtain ⟨c,HCc⟩:∃ c,Hid (crcL (textL n ⟨h1,h2,h3⟩)=c):=⟨_,rfl⟩
  have hc:c<9223372036854775808:=by rw [← HCc.out]; have:=crcL_lt (textL n ⟨h1,h2,h3⟩); omega
  obtain ⟨s5,S5⟩:∃ t,Hid (bA (wideL c 4)=t):=⟨_,rfl⟩
  have z5:s5.size=4:=by rw [← S5.out,bA_size,wideL_length]
  have HR:Hid (bA (textL n ⟨h1,h2,h3⟩) ++ s5=bA (bodyL n ⟨h1,h2,h3⟩)):=by unfold Hid bodyL; rw [← S5.out,bA_append,HCc.out]
  have HBc:=hb
  clear hb
  go_wp2_with fail
  refine (crc_is _ c _ (by rw [zt]; decide) (by rw [bA_list]; exact HCc.out)).mono ?_
  rintro e wx ⟨rfl,hx⟩
  subst wx
  go_wp2_with fail
  refine (wide4_is c s5 _ hc S5.out).mono ?_
  rintro e w9 ⟨rfl,hb9⟩
  have HB9:=below_step HBc hb9
  clear hb9
  go_wp2_with fail
  go_ret
  exact ⟨by rw [← HR.out]; rfl,HBW.out.trans (HB9.out.mono HBW.out.size)⟩
def RP (w:World) (r:Nat) (B:ByteArray) (off:Bool) (l:Int) (cuts:Bool):Prop :=
 w.heap[r]? = some (.cells #[.string B,.bool off,.int .i64 l,.bool cuts] 151 (0,0))
theorem RP.c0 {w:World} {r:Nat} {B:ByteArray} {off cuts:Bool} {l:Int} (h:RP w r B off l cuts):w.cell? ⟨r,0,none⟩=some (.string B):=by rw [cell_of_row w r 0 _ _ _ h]; rfl
theorem RP.c1 {w:World} {r:Nat} {B:ByteArray} {off cuts:Bool} {l:Int} (h:RP w r B off l cuts):w.cell? ⟨r,1,none⟩=some (.bool off):=by rw [cell_of_row w r 1 _ _ _ h]; rfl
theorem RP.c2 {w:World} {r:Nat} {B:ByteArray} {off cuts:Bool} {l:Int} (h:RP w r B off l cuts):w.cell? ⟨r,2,none⟩=some (.int .i64 l):=by rw [cell_of_row w r 2 _ _ _ h]; rfl
theorem RP.c3 {w:World} {r:Nat} {B:ByteArray} {off cuts:Bool} {l:Int} (h:RP w r B off l cuts):w.cell? ⟨r,3,none⟩=some (.bool cuts):=by rw [cell_of_row w r 3 _ _ _ h]; rfl
theorem RP.fz {w:World} {r:Nat} {B:ByteArray} {off cuts:Bool} {l:Int} (h:RP w r B off l cuts) (i:Nat):w.frozen? ⟨r,i,none⟩=false:=frozen_of_row w r i _ _ h
theorem RP.s0 {w:World} {r:Nat} {B:ByteArray} {off cuts:Bool} {l:Int} (h:RP w r B off l cuts) (B':ByteArray):RP (w.setCell ⟨r,0,none⟩ (.string B')) r B' off l cuts:=by unfold RP; rw [heap_setCell_same w r 0 _ _ _ h]; rfl
theorem RP.s1 {w:World} {r:Nat} {B:ByteArray} {off cuts:Bool} {l:Int} (h:RP w r B off l cuts) (b:Bool):RP (w.setCell ⟨r,1,none⟩ (.bool b)) r B b l cuts:=by unfold RP; rw [heap_setCell_same w r 1 _ _ _ h]; rfl
theorem RP.s2 {w:World} {r:Nat} {B:ByteArray} {off cuts:Bool} {l:Int} (h:RP w r B off l cuts) (l':Int):RP (w.setCell ⟨r,2,none⟩ (.int .i64 l')) r B off l' cuts:=by unfold RP; rw [heap_setCell_same w r 2 _ _ _ h]; rfl
theorem RP.s3 {w:World} {r:Nat} {B:ByteArray} {off cuts:Bool} {l:Int} (h:RP w r B off l cuts) (b:Bool):RP (w.setCell ⟨r,3,none⟩ (.bool b)) r B off l b:=by unfold RP; rw [heap_setCell_same w r 3 _ _ _ h]; rfl
theorem RP.drew {w:World} {r:Nat} {B:ByteArray} {off cuts:Bool} {l:Int} (h:RP w r B off l cuts):RP w.drew r B off l cuts:=h
theorem RP.kept {S:Nat→Prop} {w w':World} {r:Nat} {B:ByteArray} {off cuts:Bool} {l:Int} (h:RP w r B off l cuts) (k:Kept S w w') (hr:¬ S r):RP w' r B off l cuts:=k.row h hr
theorem rperr_bound (r:Nat) (B:ByteArray) (off cuts:Bool) (l a n:Int) (w:World) (h:RP w r B off l cuts) (hB:B.size≤1000) (hb:a<0 ∨ n<0 ∨ (B.size:Int) - n<a) :
  Calls Tryz.prog 200 #[.pointer (some ⟨r,0,none⟩),.int .i64 a,.int .i64 n] w fun e w'=>e=.returned (.int .i64 2)∧w'=w:=by
 have c0:=h.c0
 clear h
 by_cases h1:a<0
 ·clear hb
  go_enter Tryz.func200,Tryz.ntmps200
  go_wp2
  go_ret
  exact ⟨rfl,rfl⟩
 ·by_cases h2:n<0
  ·clear hb
   go_enter Tryz.func200,Tryz.ntmps200
   go_wp2
   go_ret
   exact ⟨rfl,rfl⟩
  ·by_cases h3:(B.size:Int)<a
   ·clear hb
    go_enter Tryz.func200,Tryz.ntmps200
    go_wp2
    go_ret
    exact ⟨rfl,rfl⟩
   ·have h4:(B.size:Int) - a<n:=by omega
    clear hb
    go_enter Tryz.func200,Tryz.ntmps200
    go_wp2
    go_ret
    exact ⟨rfl,rfl⟩
theorem rperr_in (r:Nat) (B:ByteArray) (off cuts:Bool) (l a n:Int) (w:World) (h:RP w r B off l cuts) (hB:B.size≤1000) (hb:¬ (a<0 ∨ n<0 ∨ (B.size:Int) - n<a)) :
  Calls Tryz.prog 200 #[.pointer (some ⟨r,0,none⟩),.int .i64 a,.int .i64 n] w fun e w'=>e=.returned (.int .i64 (if off then 6 else 0))∧w'=w:=by
 have c0:=h.c0
 have c1:=h.c1
 have h1:¬ a<0:=fun g=>hb (.inl g)
 have h2:¬ n<0:=fun g=>hb (.inr (.inl g))
 have h3:¬ (B.size:Int) - n<a:=fun g=>hb (.inr (.inr g))
 have h4:¬ (B.size:Int)<a:=by omega
 have h5:¬ (B.size:Int) - a<n:=by omega
 clear h hb
 cases off with
 | true =>
  go_enter Tryz.func200,Tryz.ntmps200
  go_wp2
  go_ret
  exact ⟨rfl,rfl⟩
 | false =>
  go_enter Tryz.func200,Tryz.ntmps200
  go_wp2
  go_ret
  exact ⟨rfl,rfl⟩
theorem rpcut_bound (v:Value) (n:Int) (w:World) (hn:n<0) :
  Calls Tryz.prog 131 #[v,.int .i64 n] w fun e w'=>e=.returned (.int .i64 2)∧w'=w:=by
 go_enter Tryz.func131,Tryz.ntmps131
 go_wp2
 go_ret
 exact ⟨rfl,rfl⟩
theorem rpcut_off (r:Nat) (B:ByteArray) (cuts:Bool) (l n:Int) (w:World) (h:RP w r B true l cuts) (hn:¬ n<0) :
  Calls Tryz.prog 131 #[.pointer (some ⟨r,0,none⟩),.int .i64 n] w fun e w'=>e=.returned (.int .i64 6)∧w'=w:=by
 have c1:=h.c1
 clear h
 go_enter Tryz.func131,Tryz.ntmps131
 go_wp2
 go_ret
 exact ⟨rfl,rfl⟩
theorem rpcut_ok (r:Nat) (B:ByteArray) (cuts:Bool) (l n:Int) (w:World) (h:RP w r B false l cuts) (hn:¬ n<0) :
  Calls Tryz.prog 131 #[.pointer (some ⟨r,0,none⟩),.int .i64 n] w fun e w'=>e=.returned (.int .i64 0)∧RP w' r B false n true∧Kept (In1 r) w w':=by
 have c1:=h.c1
 have c2:=h.c2
 have c3:=h.c3
 have f2:=h.fz 2
 have f3:=h.fz 3
 have H:=hid ((h.s3 true).s2 n)
 clear h
 go_enter Tryz.func131,Tryz.ntmps131
 go_wp2
 go_ret
 exact ⟨rfl,H.out,((Kept.refl _ w).set1 _ _).set1 _ _⟩
theorem rpon_any (r:Nat) (B:ByteArray) (off cuts:Bool) (l:Int) (w:World) (h:RP w r B off l cuts) :
  Calls Tryz.prog 128 #[.pointer (some ⟨r,0,none⟩)] w fun e w'=>e=.returned (.tuple #[])∧RP w' r B false l false∧Kept (In1 r) w w':=by
 have c1:=h.c1
 have c3:=h.c3
 have f1:=h.fz 1
 have f3:=h.fz 3
 have H:=hid ((h.s1 false).s3 false)
 clear h
 go_enter Tryz.func128,Tryz.ntmps128
 go_wp2
 go_end0
 exact ⟨rfl,H.out,((Kept.refl _ w).set1 _ _).set1 _ _⟩
theorem rpwrite_bound (r:Nat) (B s:ByteArray) (off cuts:Bool) (l a:Int) (w:World) (h:RP w r B off l cuts) (hB:B.size≤1000) (hb:a<0 ∨ (B.size:Int) - s.size<a) :
  Calls Tryz.prog 201 #[.pointer (some ⟨r,0,none⟩),.int .i64 a,.string s] w fun e w'=>e=.returned (.int .i64 2)∧w'=w:=by
 have H:=hid h
 clear h
 go_enter Tryz.func201,Tryz.ntmps201
 go_wp2_with (go_at_call 200; refine (rperr_bound r B off cuts l _ _ _ H.out hB (by omega)).mono ?_; rintro e w' ⟨rfl,rfl⟩)
 go_ret
 exact ⟨rfl,rfl⟩
theorem rpwrite_off (r:Nat) (B s:ByteArray) (cuts:Bool) (l a:Int) (w:World) (h:RP w r B true l cuts) (hB:B.size≤1000) (hb:¬ (a<0 ∨ (B.size:Int) - s.size<a)) :
  Calls Tryz.prog 201 #[.pointer (some ⟨r,0,none⟩),.int .i64 a,.string s] w fun e w'=>e=.returned (.int .i64 6)∧w'=w:=by
 have H:=hid h
 clear h
 go_enter Tryz.func201,Tryz.ntmps201
 go_wp2_with (go_at_call 200; refine (rperr_in r B true cuts l _ _ _ H.out hB (by omega)).mono ?_; rw [if_pos rfl]; rintro e w' ⟨rfl,rfl⟩)
 go_ret
 exact ⟨rfl,rfl⟩
theorem putB_full (B:ByteArray) (a:Nat) (s:ByteArray):putB B a s s.size=B.extract 0 a ++ s ++ B.extract (a+s.size) B.size:=by
 unfold putB; simp
theorem rpwrite_free (r:Nat) (B s:ByteArray) (l:Int) (a:Nat) (w:World) (h:RP w r B false l false) (hB:B.size≤1000) (ha:a+s.size≤B.size) :
  Calls Tryz.prog 201 #[.pointer (some ⟨r,0,none⟩),.int .i64 a,.string s] w fun e w'=>e=.returned (.int .i64 0)∧RP w' r (putB B a s s.size) false l false∧Kept (In1 r) w w':=by
 have H:=hid h
 have c0:=h.c0
 have c1:=h.c1
 have c3:=h.c3
 have f0:=h.fz 0
 rw [putB_full]
 clear h
 go_enter Tryz.func201,Tryz.ntmps201
 go_wp2_with (go_at_call 200; refine (rperr_in r B false false l _ _ _ H.out hB (by omega)).mono ?_; rintro e wx ⟨rfl,hx⟩; subst wx)
 go_region
 all_goals go_wp2
 all_goals go_ret
 all_goals exact ⟨rfl,(H.out.s0 _).drew,((Kept.refl _ w).set1 _ _).drew⟩
theorem rpwrite_far (r:Nat) (B s:ByteArray) (l:Int) (a:Nat) (w:World) (h:RP w r B false l true) (hB:B.size≤1000) (ha:a+s.size≤B.size) (hl:(s.size:Int)≤l) (hl2:l≤9223372036854775807) :
  Calls Tryz.prog 201 #[.pointer (some ⟨r,0,none⟩),.int .i64 a,.string s] w fun e w'=>e=.returned (.int .i64 0)∧RP w' r (putB B a s s.size) false (l - s.size) true∧Kept (In1 r) w w':=by
 have H:=hid h
 have c0:=h.c0
 have c1:=h.c1
 have c2:=h.c2
 have c3:=h.c3
 have f0:=h.fz 0
 have f2:=h.fz 2
 rw [putB_full]
 clear h
 go_enter Tryz.func201,Tryz.ntmps201
 go_wp2_with (go_at_call 200; refine (rperr_in r B false true l _ _ _ H.out hB (by omega)).mono ?_; rintro e wx ⟨rfl,hx⟩; subst wx)
 go_region
 all_goals go_wp2
 all_goals go_ret
 all_goals exact ⟨rfl,((H.out.s0 _).s2 _).drew,(((Kept.refl _ w).set1 _ _).set1 _ _).drew⟩
theorem rpwrite_near (r:Nat) (B s:ByteArray) (l a:Nat) (w:World) (h:RP w r B false l true) (hB:B.size≤1000) (ha:a+s.size≤B.size) (hl:l<s.size) :
  Calls Tryz.prog 201 #[.pointer (some ⟨r,0,none⟩),.int .i64 a,.string s] w fun e w'=>e=.returned (.int .i64 6)∧RP w' r (putB B a s l) true 0 true∧Kept (In1 r) w w':=by
 have H:=hid h
 have c0:=h.c0
 have c1:=h.c1
 have c2:=h.c2
 have c3:=h.c3
 have f0:=h.fz 0
 have f1:=h.fz 1
 have f2:=h.fz 2
 unfold putB
 clear h
 go_enter Tryz.func201,Tryz.ntmps201
 go_wp2_with (go_at_call 200; refine (rperr_in r B false true l _ _ _ H.out hB (by omega)).mono ?_; rintro e wx ⟨rfl,hx⟩; subst wx)
 go_region
 all_goals go_wp2
 all_goals go_ret
 all_goals exact ⟨rfl,(((H.out.s1 _).s0 _).s2 _).drew,((((Kept.refl _ w).set1 _ _).set1 _ _).set1 _ _).drew⟩
theorem write_rp (r:Nat) (B s:ByteArray) (l a l':Int) (off cuts:Bool) (w:World) (h:RP w r B off l' cuts) (hk:Lk l off l' cuts) (hB:B.size≤1000) :
  Calls Tryz.prog 201 #[.pointer (some ⟨r,0,none⟩),.int .i64 a,.string s] w fun e w'=>e=.returned (.int .i64 (wC B s l a))∧(∃ off2 l2 cuts2,RP w' r (wB B s l a) off2 l2 cuts2∧Lk (wL B s l a) off2 l2 cuts2)∧Kept (In1 r) w w':=by
 by_cases hb:wBad B s a
 ·simp only [wC,wB,wL,if_pos hb]
  refine (rpwrite_bound r B s off cuts l' a w h hB hb).mono ?_
  rintro e w' ⟨rfl,rfl⟩
  exact ⟨rfl,⟨off,l',cuts,h,hk⟩,Kept.refl _ _⟩
 ·rcases hk with ⟨rfl,rfl⟩|⟨rfl,rfl,rfl⟩|⟨rfl,rfl,rfl,h0,h1⟩
  ·simp only [wC,wB,wL,if_neg hb,if_pos]
   refine (rpwrite_off r B s cuts l' a w h hB hb).mono ?_
   rintro e w' ⟨rfl,rfl⟩
   exact ⟨rfl,⟨true,l',cuts,h,.inl ⟨rfl,rfl⟩⟩,Kept.refl _ _⟩
  ·have hb':=hb
   unfold wBad at hb'
   obtain ⟨a',rfl⟩:∃ a':Nat,a=a':=⟨a.toNat,by omega⟩
   simp only [wC,wB,wL,if_neg hb,if_neg (show ¬ (-1:Int)=-2 by omega),if_neg (show ¬ ((0:Int)≤-1∧(-1:Int)<(s.size:Int)) by omega),if_pos (show (-1:Int)<0 by omega),Int.toNat_natCast]
   refine (rpwrite_free r B s l' a' w h hB (by omega)).mono ?_
   rintro e w' ⟨rfl,h1,h2⟩
   exact ⟨rfl,⟨_,_,_,h1,.inr (.inl ⟨rfl,rfl,rfl⟩)⟩,h2⟩
  ·have hb':=hb
   unfold wBad at hb'
   obtain ⟨a',rfl⟩:∃ a':Nat,a=a':=⟨a.toNat,by omega⟩
   obtain ⟨l',rfl⟩:∃ l':Nat,l=l':=⟨l.toNat,by omega⟩
   simp only [wC,wB,wL,if_neg hb,if_neg (show ¬ (l':Int)=-2 by omega),Int.toNat_natCast,if_neg (show ¬ (l':Int)<0 by omega)]
   by_cases hn:(0:Int)≤l'∧(l':Int)<s.size
   ·simp only [if_pos hn]
    refine (rpwrite_near r B s l' a' w h hB (by omega) (by omega)).mono ?_
    rintro e w' ⟨rfl,h1,h2⟩
    exact ⟨rfl,⟨_,_,_,h1,.inl ⟨rfl,rfl⟩⟩,h2⟩
   ·simp only [if_neg hn]
    refine (rpwrite_far r B s l' a' w h hB (by omega) (by omega) h1).mono ?_
    rintro e w' ⟨rfl,h3,h4⟩
    exact ⟨rfl,⟨_,_,_,h3,.inr (.inr ⟨rfl,rfl,rfl,by omega,by omega⟩)⟩,h4⟩
theorem cut_rp (r:Nat) (B:ByteArray) (l n l':Int) (off cuts:Bool) (w:World) (h:RP w r B off l' cuts) (hk:Lk l off l' cuts) (hn9:n≤9223372036854775807) :
  Calls Tryz.prog 131 #[.pointer (some ⟨r,0,none⟩),.int .i64 n] w fun e w'=>e=.returned (.int .i64 (cC l n))∧(∃ off2 l2 cuts2,RP w' r B off2 l2 cuts2∧Lk (cL l n) off2 l2 cuts2)∧Kept (In1 r) w w':=by
 by_cases hn:n<0
 ·simp only [cC,cL,if_pos hn]
  refine (rpcut_bound _ n w hn).mono ?_
  rintro e w' ⟨rfl,rfl⟩
  exact ⟨rfl,⟨_,_,_,h,hk⟩,Kept.refl _ _⟩
 ·have fin:∀ (hl:¬ l=-2),off=false→Calls Tryz.prog 131 #[.pointer (some ⟨r,0,none⟩),.int .i64 n] w fun e w'=>e=.returned (.int .i64 (cC l n))∧(∃ off2 l2 cuts2,RP w' r B off2 l2 cuts2∧Lk (cL l n) off2 l2 cuts2)∧Kept (In1 r) w w':=by
   rintro hl rfl
   simp only [cC,cL,if_neg hn,if_neg hl]
   refine (rpcut_ok r B cuts l' n w h hn).mono ?_
   rintro e w' ⟨rfl,h3,h4⟩
   exact ⟨rfl,⟨_,_,_,h3,.inr (.inr ⟨rfl,rfl,rfl,by omega,by omega⟩)⟩,h4⟩
  rcases hk with ⟨rfl,rfl⟩|⟨rfl,rfl,rfl⟩|⟨rfl,rfl,rfl,h0,h1⟩
  ·simp only [cC,cL,if_neg hn,if_pos]
   refine (rpcut_off r B cuts l' n w h hn).mono ?_
   rintro e w' ⟨rfl,rfl⟩
   exact ⟨rfl,⟨_,_,_,h,.inl ⟨rfl,rfl⟩⟩,Kept.refl _ _⟩
  ·exact fin (by omega) rfl
  ·exact fin (by omega) rfl
theorem err_rp (r:Nat) (B:ByteArray) (l a n l':Int) (off cuts:Bool) (w:World) (h:RP w r B off l' cuts) (hk:Lk l off l' cuts) (hB:B.size≤1000) :
  Calls Tryz.prog 200 #[.pointer (some ⟨r,0,none⟩),.int .i64 a,.int .i64 n] w fun e w'=>e=.returned (.int .i64 (rC B l a n))∧w'=w:=by
 by_cases hb:a<0 ∨ n<0 ∨ (B.size:Int) - n<a
 ·simp only [rC,if_pos hb]
  exact rperr_bound r B off cuts l' a n w h hB hb
 ·simp only [rC,if_neg hb]
  refine (rperr_in r B off cuts l' a n w h hB hb).mono ?_
  rintro e w' ⟨rfl,rfl⟩
  refine ⟨?_,rfl⟩
  rcases hk with ⟨rfl,rfl⟩|⟨rfl,rfl,rfl⟩|⟨rfl,rfl,rfl,h0,h1⟩
  ·rfl
  ·rfl
  ·rw [if_neg (show ¬ l=-2 by omega)]; rfl
end Go.Proofs.YtadhpkopkkjmfaaGreatDoor
