/-
  On the way to SPlaysProof: JA JB JC JE W1 W2 W3 W4 W5 RA SN HI.
-/
import Derived.Test.YtaehdgemkafinaaGreatDoorBw1
import Derived.Test.YtaehdgemkafinaaGreatDoorBw2
import Derived.Deep.CutRange
set_option maxHeartbeats 8000000
set_option maxRecDepth 100000
namespace Go.Proofs.YtaehdgemkafinaaGreatDoor
open Go.RowKit
theorem ofInt_nat32 (a:Nat) (ha:a<4294967296):(BitVec.ofInt 32 (a:Int)).toNat=a:=by
 rw [BitVec.ofInt_natCast,BitVec.toNat_ofNat]; exact Nat.mod_eq_of_lt (by omega)
theorem xor32 (a b:Nat) (ha:a<4294967296) (hb:b<4294967296):bits .xor .u32 (a:Int) (b:Int)=((a ^^^ b:Nat):Int):=by
 have hx:a ^^^ b<2 ^ 32:=Nat.xor_lt_two_pow (by omega) (by omega)
 show IntKind.u32.wrap ((BitVec.ofInt 32 (a:Int) ^^^ BitVec.ofInt 32 (b:Int)).toNat:Int)=_
 rw [BitVec.toNat_xor,ofInt_nat32 a ha,ofInt_nat32 b hb,IntKind.wrap_u32]
 omega
theorem and32_1 (a:Nat) (ha:a<4294967296):bits .and .u32 (a:Int) 1=((a % 2:Nat):Int):=by
 have h:=ofInt_nat32 1 (by omega)
 show IntKind.u32.wrap ((BitVec.ofInt 32 (a:Int) &&& BitVec.ofInt 32 ((1:Nat):Int)).toNat:Int)=_
 rw [BitVec.toNat_and,ofInt_nat32 a ha,h,IntKind.wrap_u32,Nat.and_one_is_mod]
 omega
def BytesAt (w:World) (b o:Nat) (l:List UInt8):Prop:=∀ j (h:j<l.length),w.cell? ⟨b,o+j,none⟩=some (.int .u8 ((l[j]'h).toNat:Int))
theorem idx_strA (s:ByteArray) (i:Nat) (z:Int) (h:i<s.size) (hz:z=i) (w:World):(Instr.index 9 (.string s) (.int .i64 z)).run Tryz.prog w=.ok (.int .u8 ((s[i]'h).toNat:Int)) w:=by
 subst hz
 rw [run_index_string w 9 s .i64 i Tryz.underlying9,dif_pos ⟨by omega,by omega⟩]
 rfl
theorem sum_any (s:ByteArray) (w:World) (hl:s.size≤1000) :
  Calls Tryz.prog 260 #[.string s] w fun e w'=>e=.returned (.int .u32 (crcL s.data.toList:Nat))∧w'=w:=by
 go_enter Tryz.func260,Tryz.ntmps260
 go_wp2
 go_loop [3,8] (fun x i=>∃ k:Nat,k≤s.size∧i=.int .i64 k∧x=.int .u32 (crcFold 4294967295 (s.data.toList.take k):Nat)) (fun _ i=>s.size - (intOf i).toNat)
 case atStart=>exact ⟨0,Nat.zero_le _,rfl,rfl⟩
 case round =>
  obtain ⟨k,hk,rfl,rfl⟩:=hrel
  have hc:crcFold 4294967295 (s.data.toList.take k)<4294967296:=crcFold_lt _ (by decide)
  by_cases hlt:k<s.size
  ·have ix:=idx_strA s k (k:Int) hlt rfl
   have hb:=UInt8.toNat_lt (s[k]'hlt)
   have HS:Hid (crcFold 4294967295 (s.data.toList.take (k+1))=devBits (crcFold 4294967295 (s.data.toList.take k) ^^^ (s[k]'hlt).toNat) 8):=by
    unfold Hid
    rw [dev_eight,← crcFold_snoc,List.take_add_one,List.getElem?_eq_getElem hlt,getB hlt]
    rfl
   generalize (s[k]'hlt).toNat=x at ix hb HS
   generalize crcFold 4294967295 (s.data.toList.take k)=c at hc HS ⊢
   have hx:=xor32 c x hc (by omega)
   have hcx:c ^^^ x<4294967296:=Nat.xor_lt_two_pow (n:=32) hc (by omega)
   go_wp2
   go_loop [3,17] (fun y i=>∃ m:Nat,m≤8∧i=.int .i64 m∧y=.int .u32 (devBits (c ^^^ x) m:Nat)) (fun _ i=>8 - (intOf i).toNat)
   case atStart=>exact ⟨0,Nat.zero_le _,rfl,rfl⟩
   case round =>
    obtain ⟨m,hm,rfl,rfl⟩:=hrel
    have hd:devBits (c ^^^ x) m<4294967296:=devBits_lt hcx m
    have HD:Hid (devBits (c ^^^ x) (m+1)=devBit (devBits (c ^^^ x) m)):=rfl
    have ha:=and32_1 _ hd
    have hx2:=xor32 (devBits (c ^^^ x) m / 2) 3988292384 (by omega) (by decide)
    have HX:=hid hx2
    clear hx2
    have hpar:devBits (c ^^^ x) m % 2=0 ∨ devBits (c ^^^ x) m % 2=1:=by omega
    by_cases hlt8:m<8
    ·generalize devBits (c ^^^ x) m=y at hd HD ha HX hpar ⊢
     rcases hpar with hp|hp
     ·rw [hp] at ha
      go_wp2
      go_round
      case rel=>exact ⟨m+1,by omega,by go_num,val_int (by rw [HD.out,devBit,if_neg (by omega)]; omega)⟩
      case measure=>simp [intOf]; omega
     ·rw [hp] at ha
      go_wp2
      go_round
      case rel=>exact ⟨m+1,by omega,by go_num,val_int (by rw [HD.out,devBit,if_pos hp]; exact HX.out)⟩
      case measure=>simp [intOf]; omega
    ·obtain rfl:m=8:=by omega
     go_wp2
     go_round
     case rel=>exact ⟨k+1,by omega,by go_num,val_int (by rw [HS.out])⟩
     case measure=>simp [intOf]; omega
  ·obtain rfl:k=s.size:=by omega
   have htk:s.data.toList.take s.size=s.data.toList:=List.take_length
   rw [htk] at hc
   have HC:Hid (bits BinOp.xor IntKind.u32 IntKind.u32.max ((crcFold 4294967295 s.data.toList:Nat):Int)=((crcL s.data.toList:Nat):Int)):=by
    unfold Hid
    rw [show IntKind.u32.max=((4294967295:Nat):Int) by decide,xor32 4294967295 _ (by decide) hc,Nat.xor_comm]
    rfl
   rw [htk]
   go_wp2
   go_ret
   exact ⟨ret_int HC.out,rfl⟩
theorem Tryz.infoB1:(Tryz.prog.info? 5).map (fun i=>(i.zero,i.size,i.bytes))=some (some (.int .u8 0),1,1):=by kernel_rfl
def cellsL (l:List UInt8):List Value:=l.map fun b=>.int .u8 (b.toNat:Int)
theorem cellsL_one (l:List UInt8):∀ u∈cellsL l,u.oneCell'=true:=by
 intro u hu
 obtain ⟨n,-,rfl⟩:=List.mem_map.1 hu
 rfl
theorem cellsL_append (a b:List UInt8):cellsL (a ++ b)=cellsL a ++ cellsL b:=by simp [cellsL]
theorem wide4 (n:Nat):wideL n 4=[UInt8.ofNat (n / 16777216 % 256),UInt8.ofNat (n / 65536 % 256),UInt8.ofNat (n / 256 % 256),UInt8.ofNat (n % 256)]:=by
 simp [wideL,Nat.div_div_eq_div_mul]
theorem wide1 (n:Nat):wideL n 1=[UInt8.ofNat (n % 256)]:=by simp [wideL]
theorem ofNat_cell (n:Nat):Value.int .u8 ((UInt8.ofNat (n % 256)).toNat:Int)=.int .u8 ((n:Int) % 256):=by
 have:(UInt8.ofNat (n % 256)).toNat=n % 256:=by simp
 rw [this]; congr 1
def OwnB (w:World) (base:Nat) (v:Value) (l:List UInt8):Prop:=w.ownsRow base 5 1 v l.length (cellsL l)
theorem own_below {B:Nat} {w0 w W w':World} {e:TypeId} {size n:Nat} {v:Value} {xs:List Value} (hnx:Below B w0 w) (hB:B≤w.heap.size) (hW:Below w.heap.size w W) (hown:w.ownsRow B e size v n xs) (hg:W.grownBy w' v.ownBlock):Below B w0 w':=by
 refine Below.grown (hnx.trans (hW.mono hB)) hg (Nat.le_trans hB hW.size) ?_
 intro g hg
 rcases hown.2 with ⟨rfl,_⟩|⟨g',c',cur,rfl,hb',_⟩
 ·cases hg
 ·have:g'=g:=by simpa [Value.ownBlock] using hg
  omega
theorem addrAdd (b off j:Nat):(⟨b,off,none⟩:Addr).add j=⟨b,off+j,none⟩:=by unfold Addr.add; split <;> simp_all
theorem lit_cells (w:World) (cs:List Value) (t:TypeId):∀ j u,cs[j]? = some u→(w.alloc (.cells cs.toArray t)).cell? ((⟨w.heap.size,0,none⟩:Addr).add j)=some u:=by
 intro j u hj
 rw [addrAdd,cell_of_row _ w.heap.size (0+j) cs.toArray t (0,0) (heap_alloc_new w _),Nat.zero_add,List.getElem?_toArray]
 exact hj
theorem wide4_cells (n:Nat) (hn:n<4294967296):cellsL (wideL n 4)=[.int .u8 ((n:Int) / 16777216),.int .u8 ((n:Int) / 65536 % 256),.int .u8 ((n:Int) / 256 % 256),.int .u8 ((n:Int) % 256)]:=by
 rw [wide4]
 simp only [cellsL,List.map_cons,List.map_nil,ofNat_cell]
 have e1:((n / 16777216:Nat):Int) % 256=(n:Int) / 16777216:=by omega
 rw [e1]
 rfl
theorem add_any (base n:Nat) (v:Value) (l:List UInt8) (w:World) (h:OwnB w base v l) (hb:base≤w.heap.size) (hl:l.length≤1000) (hn:n<4294967296) :
  Calls Tryz.prog 259 #[v,.int .u32 (n:Int)] w fun e w'=>∃ v',e=.returned v'∧OwnB w' base v' (l ++ wideL n 4)∧Below base w w':=by
 obtain ⟨i0,hi,hz0,hz1,hz2⟩:=info_parts Tryz.infoB1
 have H:=hid h
 have HW:=hid (wide4_cells n hn)
 clear h
 go_enter Tryz.func259,Tryz.ntmps259
 go_wp2_with (at_builtin; refine wpList_append_own _ rfl (.tmp 5) (.tmp 17) 60 rfl base 5 i0 (.int .u8 0) 1 1 Tryz.underlying60 hi hz0 hz1 hz2 rfl (by decide) _ l.length (cellsL l) rfl (by exact World.ownsRow.alloc H.out _) ⟨w.heap.size,0,none⟩ 4 4 [.int .u8 ((n:Int) / 16777216),.int .u8 ((n:Int) / 65536 % 256),.int .u8 ((n:Int) / 256 % 256),.int .u8 ((n:Int) % 256)] rfl rfl (lit_cells _ _ _) ?c2 ?c3 ?c4 ?c5 ?_)
 case c2=>intro u hu; rw [← HW.out] at hu; exact cellsL_one _ u hu
 case c3=>unfold maxLen; omega
 case c4=>omega
 case c5=>simp; omega
 intro v' w1 hown hg _
 have HO:Hid (OwnB w1 base v' (l ++ wideL n 4)):=by
  unfold Hid OwnB
  rw [cellsL_append,HW.out,List.length_append,wideL_length]; exact hown
 have HB:=hid (own_below (Below.refl base w) hb ((Below.refl _ _).alloc (Nat.le_refl _) _) H.out hg)
 clear hown hg
 go_wp2
 go_ret
 exact ⟨v',rfl,HO.out,HB.out⟩
theorem or32 (a b:Nat) (ha:a<4294967296) (hb:b<4294967296):bits .or .u32 (a:Int) (b:Int)=((a ||| b:Nat):Int):=by
 have hx:a ||| b<2 ^ 32:=Nat.or_lt_two_pow (by omega) (by omega)
 show IntKind.u32.wrap ((BitVec.ofInt 32 (a:Int) ||| BitVec.ofInt 32 (b:Int)).toNat:Int)=_
 rw [BitVec.toNat_or,ofInt_nat32 a ha,ofInt_nat32 b hb,IntKind.wrap_u32]
 omega
theorem or_low (a b i:Nat) (hb:b<2 ^ i):(a * 2 ^ i) ||| b=a * 2 ^ i+b:=by
 rw [Nat.mul_comm]; exact (Nat.two_pow_add_eq_or_of_lt hb a).symm
theorem idx_str (s:ByteArray) (i:Nat) (z:Int) (h:i<s.size) (hz:z=i) (w:World):(Instr.index 9 (.string s) (.int .i64 z)).run Tryz.prog w=.ok (.int .u8 ((s[i]'h).toNat:Int)) w:=by
 subst hz
 rw [run_index_string w 9 s .i64 i Tryz.underlying9,dif_pos ⟨by omega,by omega⟩]
 rfl
theorem take4:∀ (l:List UInt8) (h:4≤l.length),l.take 4=[l[0]'(by omega),l[1]'(by omega),l[2]'(by omega),l[3]'(by omega)]
 | _ :: _ :: _ :: _ :: _,_=>rfl
theorem first4 (s:ByteArray) (h:4≤s.size):s.data.toList.take 4=[s[0]'(by omega),s[1]'(by omega),s[2]'(by omega),s[3]'(by omega)]:=by
 rw [getB,getB,getB,getB]
 exact take4 _ h
theorem or24 (a b:Nat) (h:b<16777216):a * 16777216 ||| b=a * 16777216+b:=or_low a b 24 h
theorem or16 (a b:Nat) (h:b<65536):a * 65536 ||| b=a * 65536+b:=or_low a b 16 h
theorem or8 (a b:Nat) (h:b<256):a * 256 ||| b=a * 256+b:=or_low a b 8 h
theorem four_num (a b c d:Nat) (hb:b<256) (hc:c<256) (hd:d<256):((a * 16777216 ||| b * 65536) ||| c * 256) ||| d=256 * (256 * (256 * a+b)+c)+d:=by
 rw [or24 _ _ (by omega),show a * 16777216+b * 65536=(a * 256+b) * 65536 by omega,or16 _ _ (by omega),show (a * 256+b) * 65536+c * 256=((a * 256+b) * 256+c) * 256 by omega,or8 _ _ hd]
 omega
theorem four_or (a b c d:Nat) (ha:a<256) (hb:b<256) (hc:c<256) (hd:d<256) :
  bits BinOp.or IntKind.u32 (bits BinOp.or IntKind.u32 (bits BinOp.or IntKind.u32 ((a:Int) * 16777216) ((b:Int) * 65536)) ((c:Int) * 256)) (d:Int)=((256 * (256 * (256 * (256 * 0+a)+b)+c)+d:Nat):Int):=by
 have e1:=or32 (a * 16777216) (b * 65536) (by omega) (by omega)
 have n1:=or24 a (b * 65536) (by omega)
 have e2:=or32 (a * 16777216 ||| b * 65536) (c * 256) (by omega) (by omega)
 have n2:a * 16777216 ||| b * 65536 ||| c * 256=a * 16777216+b * 65536+c * 256:=by
  rw [n1,show a * 16777216+b * 65536=(a * 256+b) * 65536 by omega,or16 _ _ (by omega)]
 have e3:=or32 (a * 16777216 ||| b * 65536 ||| c * 256) d (by omega) (by omega)
 simp only [Int.natCast_mul] at e1 e2
 rw [show ((a:Int) * 16777216)=(a:Int) * ((16777216:Nat):Int) from rfl,show ((b:Int) * 65536)=(b:Int) * ((65536:Nat):Int) from rfl,show ((c:Int) * 256)=(c:Int) * ((256:Nat):Int) from rfl,e1,e2,e3,four_num a b c d hb hc hd]
 congr 1
 omega
theorem four_any (s:ByteArray) (w:World) (h:4≤s.size) :
  Calls Tryz.prog 248 #[.string s] w fun e w'=>e=.returned (.int .u32 (numL (s.data.toList.take 4):Nat))∧∃ m,w'=w.drewN m:=by
 have b0:=UInt8.toNat_lt (s[0]'(by omega))
 have b1:=UInt8.toNat_lt (s[1]'(by omega))
 have b2:=UInt8.toNat_lt (s[2]'(by omega))
 have b3:=UInt8.toNat_lt (s[3]'(by omega))
 have x0:=idx_str s 0 0 (by omega) rfl
 have x1:=idx_str s 1 1 (by omega) rfl
 have x2:=idx_str s 2 2 (by omega) rfl
 have x3:=idx_str s 3 3 (by omega) rfl
 rw [first4 s h]
 simp only [numL,List.foldl_cons,List.foldl_nil]
 generalize (s[0]'(by omega)).toNat=a at b0 x0 ⊢
 generalize (s[1]'(by omega)).toNat=b at b1 x1 ⊢
 generalize (s[2]'(by omega)).toNat=c at b2 x2 ⊢
 generalize (s[3]'(by omega)).toNat=d at b3 x3 ⊢
 have HN:=hid (four_or a b c d b0 b1 b2 b3)
 clear h
 go_enter Tryz.func248,Tryz.ntmps248
 go_wp2
 go_quiet (fail)
 go_wp2
 go_ret
 exact ⟨ret_int HN.out,_,rfl⟩
def bA (l:List UInt8):ByteArray:=⟨l.toArray⟩
theorem bA_list (l:List UInt8):(bA l).data.toList=l:=by simp [bA]
theorem bA_size (l:List UInt8):(bA l).size=l.length:=by rw [size_list,bA_list]
def entV (n:Nat) (s:St):Value:=.agg #[.int .i64 s.ph,.int .i64 s.pr,.int .i64 s.at_,.int .u32 n]
theorem OwnB.nil (w:World) (base:Nat):OwnB w base (.slice none 0 0) []:=World.ownsRow_nil _ _ _ _
theorem OwnB.at_ {w:World} {base:Nat} {v:Value} {l:List UInt8} (h:OwnB w base v l) (h0:0<l.length):∃ g cap,v=.slice (some ⟨g,0,none⟩) l.length cap∧BytesAt w g 0 l:=by
 rcases h.2 with ⟨_,h2⟩|⟨g,cap,cur,hv,hg,hh,hle,hm,hsz,ht⟩
 ·omega
 ·refine ⟨g,cap,hv,fun j hj=>?_⟩
  rw [Nat.zero_add,cell_of_row w g j cur _ _ hh]
  have e:(cur.toList.take (l.length * 1))[j]? = (cellsL l)[j]?:=by rw [ht]
  rw [List.getElem?_take,if_pos (by omega)] at e
  rw [← Array.getElem?_toList,e]
  simp [cellsL,hj]
theorem OwnB.app {w W w':World} {base:Nat} {v v':Value} {l r:List UInt8} (hB:base≤w.heap.size) (h:OwnB w base v l) (hW:Below w.heap.size w W) (hown:w'.ownsRow base 5 1 v' (l.length+r.length) (cellsL l ++ cellsL r)) (hg:W.grownBy w' v.ownBlock) :
  OwnB w' base v' (l ++ r)∧Below base w w' :=
 ⟨by unfold OwnB; rw [cellsL_append,List.length_append]; exact hown,own_below (Below.refl base w) hB hW h hg⟩
theorem conv_own {w:World} {base:Nat} {v:Value} {l:List UInt8} (h:OwnB w base v l) (h0:0<l.length):(convert 60 9 v).run Tryz.prog w=.ok (.string (bA l)) w:=by
 obtain ⟨g,cap,rfl,hc⟩:=h.at_ h0
 have:=run_convert_bytes_back (P:=Tryz.prog) w 60 9 5 ⟨g,0,none⟩ cap l Tryz.underlying60 Tryz.underlying5 Tryz.underlying9 (fun j hj=>by rw [addrAdd]; exact hc j hj)
 rw [this]; rfl
theorem sum_is (s:ByteArray) (c:Nat) (w:World) (hs:s.size≤1000) (hc:crcL s.data.toList=c) :
  Calls Tryz.prog 260 #[.string s] w fun e w'=>e=.returned (.int .u32 (c:Int))∧w'=w:=by
 rw [← hc]; exact sum_any s w hs
theorem slot_any (n:Nat) (s:St) (w:World) (hn:n<4294967296) (hs:s.fits) :
  Calls Tryz.prog 245 #[entV n s] w fun e w'=>e=.returned (.string (bA (bodyL n s ++ [165])))∧Below w.heap.size w w':=by
 obtain ⟨i0,hi,hz0,hz1,hz2⟩:=info_parts Tryz.infoB1
 obtain ⟨h1,h2,h3⟩:=hs
 obtain ⟨t1,E1⟩:∃ t,Hid (wideL n 4=t):=⟨_,rfl⟩
 obtain ⟨t2,E2⟩:∃ t,Hid (t1 ++ [UInt8.ofNat s.ph]=t):=⟨_,rfl⟩
 obtain ⟨t3,E3⟩:∃ t,Hid (t2 ++ wideL s.pr 4=t):=⟨_,rfl⟩
 obtain ⟨t4,E4⟩:∃ t,Hid (t3 ++ wideL s.at_ 4=t):=⟨_,rfl⟩
 obtain ⟨t5,E5⟩:∃ t,Hid (t4 ++ wideL (crcL t4) 4=t):=⟨_,rfl⟩
 have HT:Hid (bodyL n s ++ [165]=t5 ++ [165]):=by
  unfold Hid bodyL textL
  rw [wide1,Nat.mod_eq_of_lt h1,E1.out,E2.out,E3.out,E4.out,E5.out]
 have l1:t1.length=4:=by rw [← E1.out]; exact wideL_length 4 n
 have l2:t2.length=5:=by rw [← E2.out]; simp [l1]
 have l3:t3.length=9:=by rw [← E3.out]; simp [wideL_length,l2]
 have l4:t4.length=13:=by rw [← E4.out]; simp [wideL_length,l3]
 have l5:t5.length=17:=by rw [← E5.out]; simp [wideL_length,l4]
 have HP:Hid (((UInt8.ofNat s.ph).toNat:Int)=(s.ph:Int)):=by
  unfold Hid
  rw [UInt8.toNat_ofNat',Nat.mod_eq_of_lt (by omega)]
 unfold entV
 obtain ⟨W0,HW0⟩:∃ W0,Hid (W0=w.alloc (.cells #[.int .i64 s.ph,.int .i64 s.pr,.int .i64 s.at_,.int .u32 n] 164)):=⟨_,rfl⟩
 have sz0:W0.heap.size=w.heap.size+1:=by rw [HW0.out]; simp
 have HC:Hid (∀ wx,Below (w.heap.size+1) W0 wx→w.heap.size+1≤wx.heap.size∧wx.cell? ⟨w.heap.size,0,none⟩=some (.int .i64 s.ph)∧wx.cell? ⟨w.heap.size,1,none⟩=some (.int .i64 s.pr)∧wx.cell? ⟨w.heap.size,2,none⟩=some (.int .i64 s.at_)∧Below w.heap.size w wx):=by
  intro wx hb
  have hr:W0.heap[w.heap.size]? = some (.cells #[.int .i64 s.ph,.int .i64 s.pr,.int .i64 s.at_,.int .u32 n] 164 (0,0)):=by rw [HW0.out]; exact heap_alloc_new w _
  refine ⟨by have:=hb.size; omega,?_,?_,?_,?_⟩
  ·rw [hb.cell (by simp),cell_of_row _ _ _ _ _ _ hr]; rfl
  ·rw [hb.cell (by simp),cell_of_row _ _ _ _ _ _ hr]; rfl
  ·rw [hb.cell (by simp),cell_of_row _ _ _ _ _ _ hr]; rfl
  ·rw [HW0.out] at hb
   exact ((Below.refl _ _).alloc (Nat.le_refl _) _).trans (hb.mono (by omega))
 rw [HT.out]
 go_enter Tryz.func245,Tryz.ntmps245
 go_wp2_with fail
 rw [← HW0.out]
 refine (add_any (w.heap.size+1) n _ [] _ (OwnB.nil _ _) (by omega) (by simp) hn).mono ?_
 rintro e w1 ⟨v1,rfl,ho1,hb1⟩
 rw [List.nil_append,E1.out] at ho1
 obtain ⟨z1,c0,-,-,-⟩:=HC.out _ hb1
 have HO1:=hid ho1
 go_wp2_with (at_builtin; refine wpList_append_own _ rfl (.tmp 7) (.tmp 12) 60 rfl (w.heap.size+1) 5 i0 (.int .u8 0) 1 1 Tryz.underlying60 hi hz0 hz1 hz2 rfl (by decide) _ t1.length (cellsL t1) rfl (by exact World.ownsRow.alloc HO1.out _) ⟨w1.heap.size,0,none⟩ 1 1 [.int .u8 (s.ph:Int)] rfl rfl (lit_cells _ _ _) ?c2 ?c3 ?c4 ?c5 ?_)
 case c2=>intro u hu; simp at hu; subst hu; rfl
 case c3=>unfold maxLen; omega
 case c4=>omega
 case c5=>simp; omega
 intro v2 w2 hown2 hg2 _
 obtain ⟨ho2,hb2⟩:=OwnB.app (v':=v2) (r:=[UInt8.ofNat s.ph]) z1 HO1.out ((Below.refl _ _).alloc (Nat.le_refl _) _) (by rw [l1,show cellsL [UInt8.ofNat s.ph]=[.int .u8 (s.ph:Int)] by rw [← HP.out]; rfl]; exact hown2) hg2
 rw [E2.out] at ho2
 have HB2:=hid (hb1.trans hb2)
 have HO2:=hid ho2
 clear hown2 hg2 ho1 hb1 c0 ho2 hb2
 obtain ⟨z2,-,c1,-,-⟩:=HC.out _ HB2.out
 go_wp2_with fail
 refine (add_any (w.heap.size+1) s.pr _ t2 _ HO2.out z2 (by omega) h2).mono ?_
 rintro e w3 ⟨v3,rfl,ho3,hb3⟩
 rw [E3.out] at ho3
 have HO3:=hid ho3
 have HB3:=hid (HB2.out.trans hb3)
 clear ho3 hb3
 obtain ⟨z3,-,-,c2,-⟩:=HC.out _ HB3.out
 go_wp2_with fail
 refine (add_any (w.heap.size+1) s.at_ _ t3 _ HO3.out z3 (by omega) h3).mono ?_
 rintro e w4 ⟨v4,rfl,ho4,hb4⟩
 rw [E4.out] at ho4
 have HO4:=hid ho4
 have HB4:=hid (HB3.out.trans hb4)
 clear ho4 hb4
 obtain ⟨z4,-,-,-,-⟩:=HC.out _ HB4.out
 have hcv4:=conv_own HO4.out (by omega)
 go_wp2_with fail
 refine (sum_is (bA t4) (crcL t4) _ (by rw [bA_size]; omega) (by rw [bA_list])).mono ?_
 rintro e wx ⟨rfl,hx⟩
 subst wx
 clear hcv4
 go_wp2_with fail
 refine (add_any (w.heap.size+1) (crcL t4) _ t4 _ HO4.out z4 (by omega) (crcL_lt t4)).mono ?_
 rintro e w5 ⟨v5,rfl,ho5,hb5⟩
 rw [E5.out] at ho5
 have HO5:=hid ho5
 have HB5:=hid (HB4.out.trans hb5)
 clear ho5 hb5
 obtain ⟨z5,-,-,-,-⟩:=HC.out _ HB5.out
 go_wp2_with (at_builtin; refine wpList_append_own _ rfl (.tmp 31) (.tmp 32) 60 rfl (w.heap.size+1) 5 i0 (.int .u8 0) 1 1 Tryz.underlying60 hi hz0 hz1 hz2 rfl (by decide) _ t5.length (cellsL t5) rfl (by exact World.ownsRow.alloc HO5.out _) ⟨w5.heap.size,0,none⟩ 1 1 [.int .u8 165] rfl rfl (lit_cells _ _ _) ?c2 ?c3 ?c4 ?c5 ?_)
 case c2=>intro u hu; simp at hu; subst hu; rfl
 case c3=>unfold maxLen; omega
 case c4=>omega
 case c5=>simp; omega
 intro v6 w6 hown6 hg6 _
 obtain ⟨ho6,hb6⟩:=OwnB.app (v':=v6) (r:=[165]) z5 HO5.out ((Below.refl _ _).alloc (Nat.le_refl _) _) (by rw [l5]; exact hown6) hg6
 have hcv:=conv_own ho6 (by simp)
 have HB6:=hid (HC.out _ (HB5.out.trans hb6)).2.2.2.2
 clear hown6 hg6 ho6 hb6
 go_wp2
 go_ret
 exact ⟨rfl,HB6.out⟩
theorem place_any (d n:Nat) (w:World) (hd:d≤100) (hn:n<4294967296) :
  Calls Tryz.prog 198 #[.int .i64 d,.int .u32 n] w fun e w'=>e=.returned (.int .i64 ((18 * (2 * d+n % 2):Nat):Int))∧w'=w:=by
 go_enter Tryz.func198,Tryz.ntmps198
 go_wp2
 go_ret
 exact ⟨ret_int (by omega),rfl⟩
theorem known_any (d:Int) (w:World) :
  Calls Tryz.prog 188 #[.int .i64 d] w fun e w'=>e=.returned (.bool (decide (0≤d∧d<6)))∧w'=w:=by
 by_cases h:0≤d
 ·go_enter Tryz.func188,Tryz.ntmps188
  go_wp2
  go_ret
  exact ⟨by simp [h],rfl⟩
 ·go_enter Tryz.func188,Tryz.ntmps188
  go_wp2
  go_ret
  exact ⟨by simp; omega,rfl⟩
theorem attempt_any (d:Int) (w:World) :
  Calls Tryz.prog 257 #[.int .i64 d] w fun e w'=>e=.returned (.bool (decide (0≤d∧d≤1048576)))∧w'=w:=by
 by_cases h:0≤d
 ·go_enter Tryz.func257,Tryz.ntmps257
  go_wp2
  go_ret
  exact ⟨by simp [h],rfl⟩
 ·go_enter Tryz.func257,Tryz.ntmps257
  go_wp2
  go_ret
  exact ⟨by simp; omega,rfl⟩
def fitsB (ph pr at_:Int):Bool:=decide (0≤ph∧ph≤255∧0≤pr∧pr≤1048576∧0≤at_∧at_≤1048576)
theorem fits_and (ph pr at_:Int):(decide (0≤ph) && decide (ph≤255) && decide (0≤pr∧pr≤1048576) && decide (0≤at_∧at_≤1048576))=fitsB ph pr at_:=by
 unfold fitsB
 rw [← Bool.decide_and,← Bool.decide_and,← Bool.decide_and]
 exact decide_eq_decide.2 ⟨fun ⟨⟨⟨a,b⟩,c,d⟩,e,f⟩=>⟨a,b,c,d,e,f⟩,fun ⟨a,b,c,d,e,f⟩=>⟨⟨⟨a,b⟩,c,d⟩,e,f⟩⟩
theorem fits_any (ph pr at_:Int) (w:World) :
  Calls Tryz.prog 243 #[.agg #[.int .i64 ph,.int .i64 pr,.int .i64 at_]] w fun e w'=>e=.returned (.bool (fitsB ph pr at_))∧Below w.heap.size w w':=by
 have HB:=hid ((Below.refl w.heap.size w).alloc (Nat.le_refl _) (.cells #[.int .i64 ph,.int .i64 pr,.int .i64 at_] 80))
 obtain ⟨r,HR⟩:∃ r,Hid (fitsB ph pr at_=r):=⟨_,rfl⟩
 rw [HR.out]
 obtain ⟨x1,X1⟩:∃ x,Hid (decide (0≤pr∧pr≤1048576)=x):=⟨_,rfl⟩
 obtain ⟨x2,X2⟩:∃ x,Hid (decide (0≤at_∧at_≤1048576)=x):=⟨_,rfl⟩
 have R0:=fits_and ph pr at_
 rw [X1.out,X2.out,HR.out] at R0
 have R:=hid R0
 clear R0
 clear HR
 by_cases h1:0≤ph
 ·by_cases h2:ph≤255
  ·cases x1 with
   | true =>
    go_enter Tryz.func243,Tryz.ntmps243
    go_wp2_with (first|(go_at_call 257; with_reducible refine (attempt_any pr _).mono ?_; rw [X1.out]; rintro e wx ⟨rfl,hx⟩; subst wx)|(go_at_call 257; with_reducible refine (attempt_any at_ _).mono ?_; rw [X2.out]; rintro e wx ⟨rfl,hx⟩; subst wx))
    go_ret
    exact ⟨by rw [← R.out]; simp [h1,h2],HB.out⟩
   | false =>
    go_enter Tryz.func243,Tryz.ntmps243
    go_wp2_with (first|(go_at_call 257; with_reducible refine (attempt_any pr _).mono ?_; rw [X1.out]; rintro e wx ⟨rfl,hx⟩; subst wx))
    go_ret
    exact ⟨by rw [← R.out]; simp,HB.out⟩
  ·have H2:=hid (decide_eq_false h2)
   go_enter Tryz.func243,Tryz.ntmps243
   go_wp2_with fail
   go_ret
   exact ⟨by rw [← R.out,H2.out,Bool.and_false]; rfl,HB.out⟩
 ·have H1:=hid (decide_eq_false h1)
  go_enter Tryz.func243,Tryz.ntmps243
  go_wp2_with fail
  go_ret
  exact ⟨by rw [← R.out,H1.out]; rfl,HB.out⟩
theorem slice_low (s:ByteArray) (a:Nat) (z:Int) (hz:z=a) (h:a≤s.size) (w:World):(Instr.slice 9 (.string s) (some (.int .i64 z)) none none).run Tryz.prog w=.ok (.string (s.extract a s.size)) w:=by
 subst hz
 rw [run_slice_string_l w 9 s Tryz.underlying9 .i64 a (by omega) (by omega)]
 rfl
theorem slice_mid (s:ByteArray) (a b:Nat) (y z:Int) (hy:y=a) (hz:z=b) (h:a≤b) (hb:b≤s.size) (w:World):(Instr.slice 9 (.string s) (some (.int .i64 y)) (some (.int .i64 z)) none).run Tryz.prog w=.ok (.string (s.extract a b)) w:=by
 subst hy hz
 rw [run_slice_string w 9 s .i64 .i64 a b Tryz.underlying9 (by omega) (by omega) (by omega)]
 rfl
theorem slice_high (s:ByteArray) (b:Nat) (z:Int) (hz:z=b) (hb:b≤s.size) (w:World):(Instr.slice 9 (.string s) none (some (.int .i64 z)) none).run Tryz.prog w=.ok (.string (s.extract 0 b)) w:=by
 subst hz
 rw [run_slice_string_h w 9 s Tryz.underlying9 .i64 b (by omega) (by omega)]
 rfl
theorem four_is (s:ByteArray) (n:Nat) (w:World) (h:4≤s.size) (hn:numL (s.data.toList.take 4)=n) :
  Calls Tryz.prog 248 #[.string s] w fun e w'=>e=.returned (.int .u32 (n:Int))∧∃ m,w'=w.drewN m:=by
 rw [← hn]; exact four_any s w h
theorem two_any (n:Nat) (w:World) (h:n≤30) :
  Calls Tryz.prog 147 #[.int .i64 n] w fun e w'=>e=.returned (.int .i64 (2 ^ n))∧w'=w:=by
 go_enter Tryz.func147,Tryz.ntmps147
 go_wp2
 go_loop [3,4] (fun x i=>∃ k:Nat,k≤n∧i=.int .i64 k∧x=.int .i64 (2 ^ k)) (fun _ i=>n - (intOf i).toNat)
 case atStart=>exact ⟨0,Nat.zero_le _,rfl,rfl⟩
 case round =>
  obtain ⟨k,hk,rfl,rfl⟩:=hrel
  have hp:=pow_le30 (n:=k) (by omega)
  have hs:Hid ((2:Int) ^ (k+1)=2 * 2 ^ k):=by unfold Hid; rw [Int.pow_succ]; omega
  by_cases hlt:k<n
  ·go_wp2
   go_round
   case rel=>exact ⟨k+1,by omega,by go_num,val_int hs.out.symm⟩
   case measure=>simp [intOf]; omega
  ·go_wp2
   go_ret
   exact ⟨ret_int (by rw [show k=n by omega]),rfl⟩
theorem everyone_any (a:Option Addr) (len cap:Nat) (w:World) (h:len≤30) :
  Calls Tryz.prog 266 #[.slice a len cap] w fun e w'=>e=.returned (.int .i64 (2 ^ len - 1))∧w'=w:=by
 have hp:=pow_le30 h
 go_enter Tryz.func266,Tryz.ntmps266
 go_wp2
 go_ret
 exact ⟨ret_int (by omega),rfl⟩
theorem scale1_any (p:Addr) (b off cap:Nat) (zs:List Int) (set:Int) (w:World) (hl:zs.length≤7) (hok:okTo zs zs.length) (h0:0≤set) (h1:set<128)
  (hp:w.cell? p=some (.slice (some ⟨b,off,none⟩) zs.length cap)) (hc:∀ i,i<zs.length→w.cell? ⟨b,off+i,none⟩=some (.int .i64 (zs.getD i 0))) :
  Calls Tryz.prog 269 #[.int .i64 set,.pointer (some p)] w fun e w'=>e=.returned (.int .i64 (sumTo zs set zs.length))∧w'=w:=by
 go_enter Tryz.func269,Tryz.ntmps269
 go_wp2
 go_loop [4,9] (fun x i=>∃ k:Nat,k≤zs.length∧i=.int .i64 k∧x=.int .i64 (sumTo zs set k)) (fun _ i=>zs.length - (intOf i).toNat)
 case atStart=>exact ⟨0,Nat.zero_le _,rfl,rfl⟩
 case round =>
  obtain ⟨k,hk,rfl,rfl⟩:=hrel
  by_cases hlt:k<zs.length
  ·have hck:=hc k hlt
   have hbd:=sumTo_bd set (k:=k) (zs:=zs) (fun i hi=>hok i (by omega))
   have hpb:=psum_bd (k:=k) (zs:=zs) (fun i hi=>hok i (by omega))
   have hz:=hok k hlt
   have hbit:Hid ((bits BinOp.and IntKind.i64 (set / 2 ^ k) 1 == 1)=bit set k):=bit_and k h0 (by omega)
   have hS:Hid (sumTo zs set (k+1)=sumTo zs set k+if bit set k then zs.getD k 0 else 0):=rfl
   rw [getD_lt zs k hlt] at hz
   go_wp2
   all_goals
    go_round
    case rel=>exact ⟨k+1,by omega,by go_num,val_int (by rw [hS.out,← hbit.out]; simp [*])⟩
    case measure=>simp [intOf]; omega
  ·go_wp2
   go_ret
   exact ⟨ret_int (by rw [show k=zs.length by omega]),rfl⟩
theorem scale_any (a:Option Addr) (len cap:Nat) (w:World) :
  Calls Tryz.prog 267 #[.slice a len cap] w fun e w'=>e=.returned (.func (.func 269) #[] #[.pointer (some ⟨w.heap.size,0,none⟩)])∧w'=w.alloc (.cells #[.slice a len cap] 34):=by
 have hmf:∀ (fn:Fn) (first cap:Array Value) (w:World),(Instr.makeFunc fn first cap).run Tryz.prog w=.ok (.func fn first cap) w:=fun _ _ _ _=>rfl
 go_enter Tryz.func267,Tryz.ntmps267
 go_wp2
 go_ret
 exact ⟨rfl,rfl⟩
theorem quorum_any (b off cap:Nat) (zs:List Int) (w:World) (hl:zs.length≤7) (hok:okTo zs zs.length)
  (hc:∀ i,i<zs.length→w.cell? ⟨b,off+i,none⟩=some (.int .i64 (zs.getD i 0))) :
  Calls Tryz.prog 262 #[.slice (some ⟨b,off,none⟩) zs.length cap] w fun e w'=>e=.returned (.func (.func 268) #[] #[.pointer (some ⟨w.heap.size+1,0,none⟩),.pointer (some ⟨w.heap.size+2,0,none⟩)]) ∧
   w'=(((w.alloc (.cells #[.slice (some ⟨b,off,none⟩) zs.length cap] 34)).alloc (.cells #[.func (.func 269) #[] #[.pointer (some ⟨w.heap.size,0,none⟩)]] 71)).alloc (.cells #[.int .i64 (tot zs)] 3)).drew:=by
 have hmf:∀ (fn:Fn) (first cap:Array Value) (w:World),(Instr.makeFunc fn first cap).run Tryz.prog w=.ok (.func fn first cap) w:=fun _ _ _ _=>rfl
 have hp:=pow_le7 hl
 have hall:Hid (sumTo zs (2 ^ zs.length - 1) zs.length=tot zs):=sumTo_all zs (Nat.le_refl _)
 have hcw:∀ (wx:World),Below w.heap.size w wx→∀ i,i<zs.length→wx.cell? ⟨b,off+i,none⟩=some (.int .i64 (zs.getD i 0)):=fun wx hb i hi=>cell_later hb (hc i hi)
 clear hc
 go_enter Tryz.func262,Tryz.ntmps262
 go_wp2_with (go_at_call 267; refine (scale_any _ _ _ _).mono ?_; rintro e w' ⟨rfl,rfl⟩)
 go_region_held3 (fun w'=>w'.cell? ⟨w.heap.size+1,0,none⟩=some (.func (.func 269) #[] #[.pointer (some ⟨w.heap.size,0,none⟩)])) (go_keep)
  (first|(go_at_call 266; refine (everyone_any _ _ _ _ (by omega)).mono ?_; rintro e w' ⟨rfl,rfl⟩)|(go_at_call 269; refine (scale1_any ⟨w.heap.size,0,none⟩ b off cap zs _ _ hl hok (by omega) (by omega) (by first|(simp; done)|exact cell_alloc _ (by simp)) (fun i hi=>hcw _ (by repeat (first|exact Below.refl _ _|refine Below.drew ?_|refine Below.alloc ?_ (by simp; try omega) _)) i hi)).mono ?_; rw [hall.out]; rintro e w' ⟨rfl,rfl⟩))
 all_goals go_wp2
 all_goals go_ret
 all_goals exact ⟨rfl,rfl⟩
theorem quorum1_any (p q r:Addr) (b off cap:Nat) (zs:List Int) (set:Int) (w:World) (hl:zs.length≤7) (hok:okTo zs zs.length) (h0:0≤set) (h1:set<128)
  (hp:w.cell? p=some (.func (.func 269) #[] #[.pointer (some r)])) (hq:w.cell? q=some (.int .i64 (tot zs)))
  (hr:w.cell? r=some (.slice (some ⟨b,off,none⟩) zs.length cap)) (hc:∀ i,i<zs.length→w.cell? ⟨b,off+i,none⟩=some (.int .i64 (zs.getD i 0))) :
  Calls Tryz.prog 268 #[.int .i64 set,.pointer (some p),.pointer (some q)] w fun e w'=>e=.returned (.bool (enoughB zs set))∧∃ n,w'=w.drewN n:=by
 have hbd:=sumTo_bd set (k:=zs.length) (zs:=zs) hok
 have hpb:=psum_bd (k:=zs.length) (zs:=zs) hok
 go_enter Tryz.func268,Tryz.ntmps268
 go_wp2_with fail
 go_quiet ((go_at_call 269; exact Calls.quiet_of_same (scale1_any r b off cap zs set _ hl hok h0 h1 (by simpa using hr) (fun i hi=>by simpa using hc i hi))))
 go_wp2
 go_ret
 exact ⟨rfl,_,rfl⟩
def gW:Nat→Nat
 | 1=>0
 | 2=>2
 | _=>3
def Held3 (w:World) (A:Nat→Addr):Prop:=∀ i,1≤i→i≤3→w.cell? ⟨gW i,0,none⟩=some (.iface 318 (.pointer (some (A i))))
theorem check_shape (A:Nat→Addr) (a:Option Addr) (len cap:Nat) (w:World) (hm:len≤maxLen) (h:len<1 ∨ 7<len) (hE:Held3 w A) :
  Calls Tryz.prog 153 #[.slice a len cap] w fun e w'=>e=.returned (ev A 3)∧w'=w:=by
 have h2:w.cell? ⟨2,0,none⟩=some (.iface 318 (.pointer (some (A 2)))):=hE 2 (by omega) (by omega)
 unfold maxLen at hm
 rcases h with h|h
 ·have:len=0:=by omega
  subst this
  go_enter Tryz.func153,Tryz.ntmps153
  go_wp2
  go_ret
  exact ⟨rfl,rfl⟩
 ·go_enter Tryz.func153,Tryz.ntmps153
  go_wp2
  go_ret
  exact ⟨rfl,rfl⟩
theorem check_in (A:Nat→Addr) (b off cap:Nat) (zs:List Int) (w:World) (h:¬ (zs.length<1 ∨ 7<zs.length)) (hE:Held3 w A)
  (hc:∀ i,i<zs.length→w.cell? ⟨b,off+i,none⟩=some (.int .i64 (zs.getD i 0))) :
  Calls Tryz.prog 153 #[.slice (some ⟨b,off,none⟩) zs.length cap] w fun e w'=>e=.returned (ev A (errW zs))∧w'=w:=by
 have h1:w.cell? ⟨0,0,none⟩=some (.iface 318 (.pointer (some (A 1)))):=hE 1 (by omega) (by omega)
 have h3:w.cell? ⟨3,0,none⟩=some (.iface 318 (.pointer (some (A 3)))):=hE 3 (by omega) (by omega)
 have hB:∀ k,k<zs.length→(zs.getD k 0<0 ∨ 1000<zs.getD k 0)→Hid (ev A (errW zs)=.iface 318 (.pointer (some (A 1)))):=fun k hk hb=>by unfold Hid; rw [errW_bound h hk hb]; rfl
 have hN:okTo zs zs.length→tot zs=0→Hid (ev A (errW zs)=.iface 318 (.pointer (some (A 3)))):=fun g e=>by unfold Hid; rw [errW_ok h g,if_pos e]; rfl
 have hZ:okTo zs zs.length→¬ tot zs=0→Hid (ev A (errW zs)=.nilIface):=fun g e=>by unfold Hid; rw [errW_ok h g,if_neg e]; rfl
 have hlo:¬ zs.length<1:=fun g=>h (.inl g)
 have hhi:¬ 7<zs.length:=fun g=>h (.inr g)
 clear h
 go_enter Tryz.func153,Tryz.ntmps153
 go_wp2
 go_loop [3,17] (fun x i=>∃ k:Nat,k≤zs.length∧okTo zs k∧i=.int .i64 k∧x=.int .i64 (psum zs k)) (fun _ i=>zs.length - (intOf i).toNat)
 case atStart=>exact ⟨0,Nat.zero_le _,fun i hi=>absurd hi (by omega),rfl,rfl⟩
 case round =>
  obtain ⟨k,hk,hok,rfl,rfl⟩:=hrel
  have hpb:=psum_bd hok
  by_cases hlt:k<zs.length
  ·have hck:=hc k hlt
   have hB':=hB k hlt
   have hS:Hid (psum zs (k+1)=psum zs k+zs.getD k 0):=rfl
   have hO:0≤zs.getD k 0→zs.getD k 0≤1000→okTo zs (k+1):=okTo_succ hok
   clear hB hN hZ hc
   rw [getD_lt zs k hlt] at hB' hO hck
   go_wp2
   ·go_ret
    exact ⟨congrArg Ending.returned (hB' (by omega)).out.symm,rfl⟩
   ·go_round
    case rel=>exact ⟨k+1,by omega,hO (by omega) (by omega),by go_num,val_int (by rw [hS.out,getD_lt zs k hlt])⟩
    case measure=>simp [intOf]; omega
   ·go_ret
    exact ⟨congrArg Ending.returned (hB' (by omega)).out.symm,rfl⟩
  ·have hke:k=zs.length:=by omega
   subst hke
   have hN':=hN hok
   have hZ':=hZ hok
   clear hB hN hZ hc
   go_wp2
   ·have hz:(psum zs zs.length == 0)=true:=by assumption
    go_ret
    exact ⟨congrArg Ending.returned (hN' (show psum zs zs.length=0 by simpa using hz)).out.symm,rfl⟩
   ·have hz:(psum zs zs.length == 0)=false:=by assumption
    go_ret
    exact ⟨congrArg Ending.returned (hZ' (show ¬ psum zs zs.length=0 by simpa using hz)).out.symm,rfl⟩
theorem checkSet_w (A:Nat→Addr) (a:Option Addr) (len cap c:Nat) (set:Int) (w:World)
  (hck:Calls Tryz.prog 153 #[.slice a len cap] w fun e w'=>e=.returned (ev A (c+1))∧w'=w) :
  Calls Tryz.prog 261 #[.slice a len cap,.int .i64 set] w fun e w'=>e=.returned (ev A (c+1))∧w'=w:=by
 have H:Hid (Calls Tryz.prog 153 #[.slice a len cap] w fun e w'=>e=.returned (ev A (c+1))∧w'=w):=hck
 clear hck
 have he:ev A (c+1)=.iface 318 (.pointer (some (A c))):=rfl
 rw [he] at H ⊢
 clear he
 go_enter Tryz.func261,Tryz.ntmps261
 go_wp2_with (go_at_call 153; refine H.out.mono ?_; rintro e w' ⟨rfl,rfl⟩)
 go_ret
 exact ⟨rfl,rfl⟩
theorem checkSet_s (A:Nat→Addr) (a:Option Addr) (len cap:Nat) (set:Int) (w:World) (hl:len≤7) (hE:Held3 w A)
  (hck:Calls Tryz.prog 153 #[.slice a len cap] w fun e w'=>e=.returned .nilIface∧w'=w) :
  Calls Tryz.prog 261 #[.slice a len cap,.int .i64 set] w fun e w'=>e=.returned (ev A (if set<0 ∨ 2 ^ len≤set then 2 else 0))∧w'=w:=by
 have H:Hid (Calls Tryz.prog 153 #[.slice a len cap] w fun e w'=>e=.returned .nilIface∧w'=w):=hck
 have h1:w.cell? ⟨0,0,none⟩=some (.iface 318 (.pointer (some (A 1)))):=hE 1 (by omega) (by omega)
 have hp:=pow_le7 hl
 clear hck
 by_cases c1:set<0
 ·rw [if_pos (Or.inl c1)]
  go_enter Tryz.func261,Tryz.ntmps261
  go_wp2_with (first|(go_at_call 153; refine H.out.mono ?_; rintro e w' ⟨rfl,rfl⟩)|(go_at_call 266; refine (everyone_any _ _ _ _ (by omega)).mono ?_; rintro e w' ⟨rfl,rfl⟩))
  go_ret
  exact ⟨rfl,rfl⟩
 ·by_cases c2:2 ^ len≤set
  ·rw [if_pos (Or.inr c2)]
   go_enter Tryz.func261,Tryz.ntmps261
   go_wp2_with (first|(go_at_call 153; refine H.out.mono ?_; rintro e w' ⟨rfl,rfl⟩)|(go_at_call 266; refine (everyone_any _ _ _ _ (by omega)).mono ?_; rintro e w' ⟨rfl,rfl⟩))
   go_ret
   exact ⟨rfl,rfl⟩
  ·rw [if_neg (by omega)]
   go_enter Tryz.func261,Tryz.ntmps261
   go_wp2_with (first|(go_at_call 153; refine H.out.mono ?_; rintro e w' ⟨rfl,rfl⟩)|(go_at_call 266; refine (everyone_any _ _ _ _ (by omega)).mono ?_; rintro e w' ⟨rfl,rfl⟩))
   go_ret
   exact ⟨rfl,rfl⟩
def IsSl (w:World) (v:Value) (zs:List Int):Prop :=
 ∃ a cap,v=.slice a zs.length cap∧zs.length≤maxLen∧(a=none→cap=0)∧(0<zs.length→∃ b off,a=some ⟨b,off,none⟩∧∀ i,i<zs.length→w.cell? ⟨b,off+i,none⟩=some (.int .i64 (zs.getD i 0)))
theorem IsSl.later {w w':World} {v:Value} {zs:List Int} (h:IsSl w v zs) (hb:Below w.heap.size w w'):IsSl w' v zs:=by
 obtain ⟨a,cap,hv,hm,hn,hc⟩:=h
 refine ⟨a,cap,hv,hm,hn,fun hl=>?_⟩
 obtain ⟨b,off,ha,hcc⟩:=hc hl
 exact ⟨b,off,ha,fun i hi=>cell_later hb (hcc i hi)⟩
theorem Held3.later {w w':World} {A:Nat→Addr} (h:Held3 w A) (hb:Below w.heap.size w w'):Held3 w' A:=fun i h1 h3=>cell_later hb (h i h1 h3)
theorem check_any (A:Nat→Addr) (v:Value) (zs:List Int) (w:World) (hv:IsSl w v zs) (hE:Held3 w A) :
  Calls Tryz.prog 153 #[v] w fun e w'=>e=.returned (ev A (errW zs))∧w'=w:=by
 obtain ⟨a,cap,rfl,hm,-,hc⟩:=hv
 by_cases h:zs.length<1 ∨ 7<zs.length
 ·rw [errW_shape h]; exact check_shape A a zs.length cap w hm h hE
 ·obtain ⟨b,off,rfl,hcc⟩:=hc (by omega)
  exact check_in A b off cap zs w h hE hcc
theorem checkSet_any (A:Nat→Addr) (v:Value) (zs:List Int) (set:Int) (w:World) (hv:IsSl w v zs) (hE:Held3 w A) :
  Calls Tryz.prog 261 #[v,.int .i64 set] w fun e w'=>e=.returned (ev A (errS zs set))∧w'=w:=by
 have hck:=check_any A v zs w hv hE
 obtain ⟨a,cap,rfl,hm,-,hc⟩:=hv
 by_cases h:errW zs=0
 ·rw [h] at hck
  have:=checkSet_s A a zs.length cap set w (errW_zero h).2.1 hE hck
  unfold errS; rw [if_pos h]; exact this
 ·obtain ⟨c,hcc⟩:∃ c,errW zs=c+1:=⟨errW zs - 1,by omega⟩
  unfold errS; rw [if_neg h,hcc]; rw [hcc] at hck
  exact checkSet_w A a zs.length cap c set w hck
def QF (w:World) (p q:Addr) (zs:List Int):Prop :=
 ∃ (r:Addr) (b off cap:Nat),w.cell? p=some (.func (.func 269) #[] #[.pointer (some r)])∧w.cell? q=some (.int .i64 (tot zs))∧w.cell? r=some (.slice (some ⟨b,off,none⟩) zs.length cap) ∧
  ∀ i,i<zs.length→w.cell? ⟨b,off+i,none⟩=some (.int .i64 (zs.getD i 0))
theorem quorum_q (b off cap:Nat) (zs:List Int) (w:World) (hl:zs.length≤7) (hok:okTo zs zs.length)
  (hc:∀ i,i<zs.length→w.cell? ⟨b,off+i,none⟩=some (.int .i64 (zs.getD i 0))) :
  Calls Tryz.prog 262 #[.slice (some ⟨b,off,none⟩) zs.length cap] w fun e w'=>∃ p q:Addr,e=.returned (.func (.func 268) #[] #[.pointer (some p),.pointer (some q)])∧QF w' p q zs∧Below w.heap.size w w':=by
 refine (quorum_any b off cap zs w hl hok hc).mono ?_
 rintro e w' ⟨rfl,rfl⟩
 have hb:Below w.heap.size w (((w.alloc (.cells #[.slice (some ⟨b,off,none⟩) zs.length cap] 34)).alloc (.cells #[.func (.func 269) #[] #[.pointer (some ⟨w.heap.size,0,none⟩)]] 71)).alloc (.cells #[.int .i64 (tot zs)] 3)).drew :=
  ((((Below.refl _ _).alloc (Nat.le_refl _) _).alloc (by simp) _).alloc (by simp; omega) _).drew
 refine ⟨_,_,rfl,⟨⟨w.heap.size,0,none⟩,b,off,cap,?_,?_,?_,fun i hi=>cell_later hb (hc i hi)⟩,hb⟩
 ·simp only [World.cell?_drew]; exact cell_alloc _ (by simp)
 ·simp only [World.cell?_drew]; rw [World.cell?_alloc_at _ _ _ _ (by simp)]; rfl
 ·simp only [World.cell?_drew]; exact cell_alloc _ (cell_alloc _ (by simp))
theorem quorum1_q (p q:Addr) (zs:List Int) (set:Int) (w:World) (hl:zs.length≤7) (hok:okTo zs zs.length) (h0:0≤set) (h1:set<128) (hq:QF w p q zs) :
  Calls Tryz.prog 268 #[.int .i64 set,.pointer (some p),.pointer (some q)] w fun e w'=>e=.returned (.bool (enoughB zs set))∧Below w.heap.size w w':=by
 obtain ⟨r,b,off,cap,g1,g2,g3,g4⟩:=hq
 refine (quorum1_any p q r b off cap zs set w hl hok h0 h1 g1 g2 g3 g4).mono ?_
 rintro e w' ⟨rfl,n,rfl⟩
 exact ⟨rfl,below_drewN (Below.refl _ _) n⟩
theorem enough_ok (A:Nat→Addr) (v:Value) (zs:List Int) (set:Int) (w:World) (hv:IsSl w v zs) (hE:Held3 w A) (hc:errS zs set=0) :
  Calls Tryz.prog 246 #[v,.int .i64 set] w fun e w'=>e=.returned (.tuple #[.bool (enoughB zs set),.nilIface])∧Below w.heap.size w w':=by
 have hck:=checkSet_any A v zs set w hv hE
 rw [hc] at hck
 have H:Hid (Calls Tryz.prog 261 #[v,.int .i64 set] w fun e w'=>e=.returned .nilIface∧w'=w):=hck
 obtain ⟨h1,h2,h3⟩:=errS_zero hc
 obtain ⟨h4,h5,h6,-⟩:=errW_zero h1
 have hp:=pow_le7 h5
 clear hck hE hc
 obtain ⟨a,cap,rfl,-,-,hcc⟩:=hv
 obtain ⟨b,off,rfl,hcell⟩:=hcc (by omega)
 clear hcc
 have HC:=hid hcell
 clear hcell h1
 go_enter Tryz.func246,Tryz.ntmps246
 go_wp2_with (first|(go_at_call 261; refine H.out.mono ?_; rintro e w' ⟨rfl,rfl⟩)|(go_at_call 262; refine (quorum_q b off cap zs _ h5 h6 HC.out).mono ?_; rintro e w1 ⟨p,q,rfl,hQ,hb⟩)|(go_at_call 268; refine (quorum1_q p q zs set _ h5 h6 h2 (by omega) hQ).mono ?_; rintro e w2 ⟨rfl,hb2⟩))
 go_ret2
 exact ⟨rfl,hb.trans (hb2.mono hb.size)⟩
theorem Tryz.infoInt:(Tryz.prog.info? 3).map (fun i=>(i.zero,i.size,i.bytes))=some (some (.int .i64 0),1,8):=by kernel_rfl
theorem IsSl.owned {w:World} {base:Nat} {v:Value} {zs:List Int} (h:w.ownsRow base 3 1 v zs.length (zs.map (Value.int .i64))) (hm:zs.length≤maxLen):IsSl w v zs:=by
 have hc:=h
 rcases h.2 with ⟨rfl,h0⟩|⟨g,cap,cur,rfl,hb,hg,hle,hcap,hsz,htk⟩
 ·exact ⟨none,0,by rw [h0],hm,fun _=>rfl,fun hl=>by omega⟩
 ·refine ⟨_,cap,rfl,hm,(fun h=>by cases h),fun _=>⟨g,0,rfl,fun i hi=>?_⟩⟩
  have:=hc.cellAt i (by omega)
  rw [Nat.zero_add,this]
  simp [hi]
theorem idx_strR (s:ByteArray) (i:Nat) (z:Int) (h:i<s.size) (hz:z=i) (w:World):(Instr.index 9 (.string s) (.int .i64 z)).run Tryz.prog w=.ok (.int .u8 ((s[i]'h).toNat:Int)) w:=idx_str s i z h hz w
theorem conv_lit (w:World) (x:Int) (b:UInt8) (hb:(b.toNat:Int)=x):(convert 60 9 (.slice (some ⟨w.heap.size,0,none⟩) 1 1)).run Tryz.prog (w.alloc (.cells #[.int .u8 x] 5))=.ok (.string (bA [b])) (w.alloc (.cells #[.int .u8 x] 5)):=by
 subst hb
 have:=run_convert_bytes_back (P:=Tryz.prog) (w.alloc (.cells #[.int .u8 (b.toNat:Int)] 5)) 60 9 5 ⟨w.heap.size,0,none⟩ 1 [b] Tryz.underlying60 Tryz.underlying5 Tryz.underlying9 (fun j hj=>by
  obtain rfl:j=0:=by simpa using hj
  rw [addrAdd,cell_of_row _ w.heap.size 0 _ _ _ (heap_alloc_new w _)]; rfl)
 rw [show ([b]:List UInt8).length=1 from rfl] at this
 rw [this]; rfl
theorem byte_any (n:Nat) (w:World) (hn:n<256) :
  Calls Tryz.prog 143 #[.int .i64 (n:Int)] w fun e w'=>e=.returned (.string (bA [UInt8.ofNat n]))∧Below w.heap.size w w':=by
 have hc:=conv_lit w (n:Int) (UInt8.ofNat n) (by rw [UInt8.toNat_ofNat',Nat.mod_eq_of_lt (by omega)])
 go_enter Tryz.func143,Tryz.ntmps143
 go_wp2
 go_ret
 exact ⟨rfl,(Below.refl _ _).alloc (Nat.le_refl _) _⟩
theorem wide_front (i:Nat):∀ n,wideL n (i+1)=UInt8.ofNat (n / 256 ^ i % 256) :: wideL n i:=by
 induction i with
 | zero=>intro n; simp [wideL]
 | succ i ih =>
  intro n
  rw [wideL,ih (n / 256),Nat.div_div_eq_div_mul,← Nat.pow_succ']
  rfl
theorem bA_append (a b:List UInt8):bA a ++ bA b=bA (a ++ b):=by
 apply ba_ext
 rw [ByteArray.data_append,Array.toList_append,bA_list,bA_list,bA_list]
theorem wide_any (n k:Nat) (w:World) (hn:n<9223372036854775808) (hk:k≤4) :
  Calls Tryz.prog 212 #[.int .i64 (n:Int),.int .i64 (k:Int)] w fun e w'=>e=.returned (.string (bA (wideL n k)))∧Below w.heap.size w w':=by
 have HB:Hid (∀ i,UInt8.ofNat (n / 256 ^ i % 256) :: wideL n i=wideL n (i+1)):=fun i=>(wide_front i n).symm
 have HD:Hid (∀ i,n / 256 ^ i / 256=n / 256 ^ (i+1)):=fun i=>by rw [Nat.div_div_eq_div_mul,Nat.pow_succ]
 have HL:Hid (∀ i,n / 256 ^ i<9223372036854775808):=fun i=>Nat.lt_of_le_of_lt (Nat.div_le_self _ _) hn
 have H0:Hid (n / 256 ^ 0=n):=by unfold Hid; simp
 have HE:Hid (ByteArray.mk #[]=bA (wideL n 0)):=rfl
 go_enter Tryz.func212,Tryz.ntmps212
 go_wp2
 go_loopw [0,5,6] (fun x o i wr=>∃ m:Nat,m≤k∧i=.int .i64 (m:Int)∧x=.int .i64 ((n / 256 ^ m:Nat):Int)∧o=.string (bA (wideL n m))∧Below w.heap.size w wr) (fun _ _ i _=>k - (intOf i).toNat)
 case atStart=>exact ⟨0,Nat.zero_le _,rfl,by rw [H0.out],by rw [← HE.out],Below.refl _ _⟩
 case round =>
  obtain ⟨m,hm,rfl,rfl,rfl,hb⟩:=hrel
  have HBl:=hid hb
  have h1:=HL.out m
  have hD:=hid (HD.out m)
  have hB:=hid (HB.out m)
  clear hb
  by_cases hlt:m<k
  ·generalize n / 256 ^ m=x at h1 hD hB ⊢
   have z1:(bA [UInt8.ofNat (x % 256)]).size=1:=bA_size _
   have z2:(bA (wideL n m)).size=m:=by rw [bA_size,wideL_length]
   go_wp2_with (go_at_call 143; refine (byte_any (x % 256) _ (by omega)).mono ?_; rintro e w1 ⟨rfl,hb1⟩; have HB1:=hid (HBl.out.trans (hb1.mono HBl.out.size)); clear hb1)
   go_roundw
   case rel=>exact ⟨m+1,by omega,by go_num,val_int (by rw [← hD.out]; omega),by rw [bA_append,← hB.out]; rfl,HB1.out⟩
   case measure=>simp [intOf]; omega
  ·obtain rfl:m=k:=by omega
   go_wp2
   go_ret
   exact ⟨rfl,HBl.out⟩
theorem xor64 (a b:Nat) (ha:a<9223372036854775808) (hb:b<9223372036854775808):bits .xor .i64 (a:Int) (b:Int)=((a ^^^ b:Nat):Int):=by
 have hx:a ^^^ b<2 ^ 63:=Nat.xor_lt_two_pow (by omega) (by omega)
 show IntKind.i64.wrap ((BitVec.ofInt 64 (a:Int) ^^^ BitVec.ofInt 64 (b:Int)).toNat:Int)=_
 rw [BitVec.toNat_xor,ofInt_nat a ha,ofInt_nat b hb,IntKind.wrap_i64]
 omega
theorem crc_any (s:ByteArray) (w:World) (hs:s.size≤1000) :
  Calls Tryz.prog 213 #[.string s] w fun e w'=>e=.returned (.int .i64 (crcL s.data.toList:Nat))∧w'=w:=by
 go_enter Tryz.func213,Tryz.ntmps213
 go_wp2
 go_loop [3,4] (fun x i=>∃ k:Nat,k≤s.size∧i=.int .i64 (k:Int)∧x=.int .i64 (crcFold 4294967295 (s.data.toList.take k):Nat)) (fun _ i=>s.size - (intOf i).toNat)
 case atStart=>exact ⟨0,Nat.zero_le _,rfl,rfl⟩
 case round =>
  obtain ⟨k,hk,rfl,rfl⟩:=hrel
  have hc:crcFold 4294967295 (s.data.toList.take k)<4294967296:=crcFold_lt _ (by decide)
  by_cases hlt:k<s.size
  ·have ix:=idx_strR s k (k:Int) hlt rfl
   have hb:=UInt8.toNat_lt (s[k]'hlt)
   have HS:Hid (crcFold 4294967295 (s.data.toList.take (k+1))=crcBits (crcFold 4294967295 (s.data.toList.take k)) (s[k]'hlt).toNat 8):=by
    unfold Hid
    rw [← crcFold_snoc,List.take_add_one,List.getElem?_eq_getElem (by rw [← size_list]; exact hlt),getB hlt]
    rfl
   generalize (s[k]'hlt).toNat=x at ix hb HS
   generalize crcFold 4294967295 (s.data.toList.take k)=c at hc HS ⊢
   go_wp2
   go_loop [3,5] (fun y i=>∃ m:Nat,m≤8∧i=.int .i64 (m:Int)∧y=.int .i64 (crcBits c x m:Nat)) (fun _ i=>8 - (intOf i).toNat)
   case atStart=>exact ⟨0,Nat.zero_le _,rfl,rfl⟩
   case round =>
    obtain ⟨m,hm,rfl,rfl⟩:=hrel
    have hd:crcBits c x m<4294967296:=crcBits_lt hc x m
    have HD:Hid (crcBits c x (m+1)=crcBit (crcBits c x m) x m):=rfl
    by_cases hlt8:m<8
    ·generalize crcBits c x m=y at hd HD ⊢
     have hq:x / 2 ^ m<256:=Nat.lt_of_le_of_lt (Nat.div_le_self _ _) (by omega)
     have hx1:bits .xor .i64 (y:Int) ((x:Int) / 2 ^ m)=((y ^^^ x / 2 ^ m:Nat):Int):=by
      rw [show ((x:Int) / 2 ^ m)=((x / 2 ^ m:Nat):Int) by simp]; exact xor64 y (x / 2 ^ m) (by omega) (by omega)
     have HX:=hid (xor64 (y / 2) 3988292384 (by omega) (by decide))
     have HCb:Hid (crcBit y x m=if (y ^^^ x / 2 ^ m) % 2=1 then (y / 2) ^^^ 3988292384 else y / 2):=rfl
     generalize y ^^^ x / 2 ^ m=z at hx1 HCb
     have hpar:(z:Int) % 2=0 ∨ (z:Int) % 2=1:=by omega
     rcases hpar with hp|hp
     ·have hp2:(z:Int).tmod 2=0:=by rw [Int.tmod_eq_emod_of_nonneg (by omega)]; exact hp
      have HP:Hid (crcBits c x (m+1)=y / 2):=by unfold Hid; rw [HD.out,HCb.out,if_neg (by omega)]
      go_wp2
      all_goals go_round
      case rel=>exact ⟨m+1,by omega,by go_num,val_int (by rw [HP.out]; omega)⟩
      case measure=>simp [intOf]; omega
     ·have hp2:(z:Int).tmod 2=1:=by rw [Int.tmod_eq_emod_of_nonneg (by omega)]; exact hp
      have HP:Hid (crcBits c x (m+1)=(y / 2) ^^^ 3988292384):=by unfold Hid; rw [HD.out,HCb.out,if_pos (by omega)]
      go_wp2
      all_goals go_round
      case rel=>exact ⟨m+1,by omega,by go_num,val_int (by rw [HP.out]; exact HX.out)⟩
      case measure=>simp [intOf]; omega
    ·obtain rfl:m=8:=by omega
     go_wp2
     go_round
     case rel=>exact ⟨k+1,by omega,by go_num,val_int (by rw [HS.out])⟩
     case measure=>simp [intOf]; omega
  ·obtain rfl:k=s.size:=by omega
   rw [size_list,List.take_length] at hc
   have HC:=hid (xor64 (crcFold 4294967295 s.data.toList) 4294967295 (by omega) (by decide))
   have HT:Hid (s.data.toList.take s.size=s.data.toList):=by unfold Hid; rw [size_list,List.take_length]
   rw [HT.out]
   go_wp2
   go_ret
   exact ⟨ret_int HC.out,rfl⟩
theorem rfinal_is (p:Nat) (b:Bool) (w:World) (h:finB p=b):Calls Tryz.prog 85 #[.int .i64 (p:Int)] w fun e w'=>e=.returned (.bool b)∧w'=w:=by
 subst h
 unfold finB
 by_cases h2:p=2
 ·subst h2
  go_enter Tryz.func85,Tryz.ntmps85
  go_wp2_with fail
  go_ret
  exact ⟨rfl,rfl⟩
 ·by_cases h3:p=3
  ·subst h3
   go_enter Tryz.func85,Tryz.ntmps85
   go_wp2_with fail
   go_ret
   exact ⟨rfl,rfl⟩
  ·rw [decide_eq_false (by omega)]
   have g2:¬ (p:Int)=2:=by omega
   have g3:¬ (p:Int)=3:=by omega
   go_enter Tryz.func85,Tryz.ntmps85
   go_wp2_with fail
   go_ret
   exact ⟨by simp; omega,rfl⟩
end Go.Proofs.YtaehdgemkafinaaGreatDoor
namespace Go.Proofs.YtaehdgemkafinaaGreatDoor
open Go.ChangeShapes Go.WideShapes Go.RowKit
theorem isSl_of_trod {H:Type} {enc:TypeId×Value→H} {W:World} {a:Option Addr} {len cap fuel:Nat} {d:DataW H} {p:List MemPlace} {sp:Nat→Bool} {held:Bool}
  (hf:DataW.trod enc Tryz.prog W 0 sp held fuel 34 (Value.slice a len cap).cells.toList=some (d,p)):∃ zs,IsSl W (.slice a len cap) zs:=by
 rcases open_ints Tryz.underlying34 Tryz.underlying3 (by kernel_rfl) hf with ⟨hcs,_⟩|⟨x,l,c,zs,hcs,_,hl,hm,hz,_,hcell,hwz⟩
 ·simp [Value.cells] at hcs
  obtain ⟨rfl,rfl,rfl⟩:=hcs
  exact ⟨[],none,0,rfl,by simp,fun _=>rfl,fun h=>by cases h⟩
 ·simp [Value.cells] at hcs
  obtain ⟨rfl,rfl,rfl⟩:=hcs
  have hzl:len≤zs.length:=by rw [hz]; split <;> omega
  have hlen:(zs.take len).length=len:=by rw [List.length_take]; omega
  refine ⟨zs.take len,some x,cap,by rw [hlen],by omega,(fun h=>by cases h),fun h0=>?_⟩
  rw [hlen] at h0
  have hx:=hcell 0 (by omega)
  have hsp:x.spot=none:=by
   cases hq:x.spot with
   | none=>rfl
   | some k=>unfold World.cell? Addr.add at hx; simp [hq] at hx; revert hx; split <;> simp
  obtain ⟨b,off,sp⟩:=x
  simp at hsp
  subst hsp
  refine ⟨b,off,rfl,fun i hi=>?_⟩
  rw [hlen] at hi
  have:=hcell i (by omega)
  have e:(⟨b,off,none⟩:Addr).add i=⟨b,off+i,none⟩:=by unfold Addr.add; split <;> simp_all
  rw [e] at this
  rw [this]
  simp [List.getD,hi]
end Go.Proofs.YtaehdgemkafinaaGreatDoor
