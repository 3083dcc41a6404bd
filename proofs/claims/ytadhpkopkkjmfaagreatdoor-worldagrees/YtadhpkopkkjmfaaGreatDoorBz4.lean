/-
  On the way to WStepsProof, WCommitsProof, WAgreesProof, WEndsProof, WWaitsProof, JTampersProof, PAgreesProof, PAgainProof: JA JB JC JE.
-/
import Derived.Test.YtadhpkopkkjmfaaGreatDoorBz1
import Derived.Test.YtadhpkopkkjmfaaGreatDoorBz3
import Derived.Test.YtadhpkopkkjmfaaGreatDoorBz2
import Derived.Deep.CutRange
set_option maxHeartbeats 8000000
set_option maxRecDepth 100000
namespace Go.Proofs.YtadhpkopkkjmfaaGreatDoor
open Go.RowKit
theorem ofInt_nat32 (a:Nat) (ha:a<4294967296):(BitVec.ofInt 32 (a:Int)).toNat=a:=by
 rw [BitVec.ofInt_natCast,BitVec.toNat_ofNat]; exact Nat.mod_eq_of_lt (by omega)
theorem xor32 (a b:Nat) (ha:a<4294967296) (hb:b<4294967296):bits .xor .u32 (a:Int) (b:Int)=((a ^^^ b:Nat):Int):=by
 have hx:a ^^^ b<2 ^ 32:=Nat.xor_lt_two_pow (by omega) (by omega)
 show IntKind.u32.wrap ((BitVec.ofInt 32 (a:Int) ^^^ BitVec.ofInt 32 (b:Int)).toNat:Int)=_
 rw [BitVec.toNat_xor,ofInt_nat32 a ha,ofInt_nat32 b hb,IntKind.wrap_u32]
 omega
theorem and32_1 (a:Nat) (ha:a<4294967296):bits .and .u32 (a:Int) 1=((a % 2:Nat):Int):=by
 have h:=ofInt_nat32 1 (by omega)
 show IntKind.u32.wrap ((BitVec.ofInt 32 (a:Int) &&& BitVec.ofInt 32 ((1:Nat):Int)).toNat:Int)=_
 rw [BitVec.toNat_and,ofInt_nat32 a ha,h,IntKind.wrap_u32,Nat.and_one_is_mod]
 omega
def BytesAt (w:World) (b o:Nat) (l:List UInt8):Prop:=∀ j (h:j<l.length),w.cell? ⟨b,o+j,none⟩=some (.int .u8 ((l[j]'h).toNat:Int))
theorem idx_strA (s:ByteArray) (i:Nat) (z:Int) (h:i<s.size) (hz:z=i) (w:World):(Instr.index 9 (.string s) (.int .i64 z)).run Tryz.prog w=.ok (.int .u8 ((s[i]'h).toNat:Int)) w:=by
 subst hz
 rw [run_index_string w 9 s .i64 i Tryz.underlying9,dif_pos ⟨by omega,by omega⟩]
 rfl
theorem sum_any (s:ByteArray) (w:World) (hl:s.size≤1000) :
  Calls Tryz.prog 205 #[.string s] w fun e w'=>e=.returned (.int .u32 (crcL s.data.toList:Nat))∧w'=w:=by
 go_enter Tryz.func205,Tryz.ntmps205
 go_wp2
 go_loop [3,8] (fun x i=>∃ k:Nat,k≤s.size∧i=.int .i64 k∧x=.int .u32 (crcFold 4294967295 (s.data.toList.take k):Nat)) (fun _ i=>s.size - (intOf i).toNat)
 case atStart=>exact ⟨0,Nat.zero_le _,rfl,rfl⟩
 case round =>
  obtain ⟨k,hk,rfl,rfl⟩:=hrel
  have hc:crcFold 4294967295 (s.data.toList.take k)<4294967296:=crcFold_lt _ (by decide)
  by_cases hlt:k<s.size
  ·have ix:=idx_strA s k (k:Int) hlt rfl
   have hb:=UInt8.toNat_lt (s[k]'hlt)
   have HS:Hid (crcFold 4294967295 (s.data.toList.take (k+1))=devBits (crcFold 4294967295 (s.data.toList.take k) ^^^ (s[k]'hlt).toNat) 8):=by
    unfold Hid
    rw [dev_eight,← crcFold_snoc,List.take_add_one,List.getElem?_eq_getElem hlt,getB hlt]
    rfl
   generalize (s[k]'hlt).toNat=x at ix hb HS
   generalize crcFold 4294967295 (s.data.toList.take k)=c at hc HS ⊢
   have hx:=xor32 c x hc (by omega)
   have hcx:c ^^^ x<4294967296:=Nat.xor_lt_two_pow (n:=32) hc (by omega)
   go_wp2
   go_loop [3,17] (fun y i=>∃ m:Nat,m≤8∧i=.int .i64 m∧y=.int .u32 (devBits (c ^^^ x) m:Nat)) (fun _ i=>8 - (intOf i).toNat)
   case atStart=>exact ⟨0,Nat.zero_le _,rfl,rfl⟩
   case round =>
    obtain ⟨m,hm,rfl,rfl⟩:=hrel
    have hd:devBits (c ^^^ x) m<4294967296:=devBits_lt hcx m
    have HD:Hid (devBits (c ^^^ x) (m+1)=devBit (devBits (c ^^^ x) m)):=rfl
    have ha:=and32_1 _ hd
    have hx2:=xor32 (devBits (c ^^^ x) m / 2) 3988292384 (by omega) (by decide)
    have HX:=hid hx2
    clear hx2
    have hpar:devBits (c ^^^ x) m % 2=0 ∨ devBits (c ^^^ x) m % 2=1:=by omega
    by_cases hlt8:m<8
    ·generalize devBits (c ^^^ x) m=y at hd HD ha HX hpar ⊢
     rcases hpar with hp|hp
     ·rw [hp] at ha
      go_wp2
      go_round
      case rel=>exact ⟨m+1,by omega,by go_num,val_int (by rw [HD.out,devBit,if_neg (by omega)]; omega)⟩
      case measure=>simp [intOf]; omega
     ·rw [hp] at ha
      go_wp2
      go_round
      case rel=>exact ⟨m+1,by omega,by go_num,val_int (by rw [HD.out,devBit,if_pos hp]; exact HX.out)⟩
      case measure=>simp [intOf]; omega
    ·obtain rfl:m=8:=by omega
     go_wp2
     go_round
     case rel=>exact ⟨k+1,by omega,by go_num,val_int (by rw [HS.out])⟩
     case measure=>simp [intOf]; omega
  ·obtain rfl:k=s.size:=by omega
   have htk:s.data.toList.take s.size=s.data.toList:=List.take_length
   rw [htk] at hc
   have HC:Hid (bits BinOp.xor IntKind.u32 IntKind.u32.max ((crcFold 4294967295 s.data.toList:Nat):Int)=((crcL s.data.toList:Nat):Int)):=by
    unfold Hid
    rw [show IntKind.u32.max=((4294967295:Nat):Int) by decide,xor32 4294967295 _ (by decide) hc,Nat.xor_comm]
    rfl
   rw [htk]
   go_wp2
   go_ret
   exact ⟨ret_int HC.out,rfl⟩
theorem Tryz.infoB1:(Tryz.prog.info? 5).map (fun i=>(i.zero,i.size,i.bytes))=some (some (.int .u8 0),1,1):=by kernel_rfl
def cellsL (l:List UInt8):List Value:=l.map fun b=>.int .u8 (b.toNat:Int)
theorem cellsL_one (l:List UInt8):∀ u∈cellsL l,u.oneCell'=true:=by
 intro u hu
 obtain ⟨n,-,rfl⟩:=List.mem_map.1 hu
 rfl
theorem cellsL_append (a b:List UInt8):cellsL (a ++ b)=cellsL a ++ cellsL b:=by simp [cellsL]
theorem wide4 (n:Nat):wideL n 4=[UInt8.ofNat (n / 16777216 % 256),UInt8.ofNat (n / 65536 % 256),UInt8.ofNat (n / 256 % 256),UInt8.ofNat (n % 256)]:=by
 simp [wideL,Nat.div_div_eq_div_mul]
theorem wide1 (n:Nat):wideL n 1=[UInt8.ofNat (n % 256)]:=by simp [wideL]
theorem ofNat_cell (n:Nat):Value.int .u8 ((UInt8.ofNat (n % 256)).toNat:Int)=.int .u8 ((n:Int) % 256):=by
 have:(UInt8.ofNat (n % 256)).toNat=n % 256:=by simp
 rw [this]; congr 1
def OwnB (w:World) (base:Nat) (v:Value) (l:List UInt8):Prop:=w.ownsRow base 5 1 v l.length (cellsL l)
theorem own_below {B:Nat} {w0 w W w':World} {e:TypeId} {size n:Nat} {v:Value} {xs:List Value} (hnx:Below B w0 w) (hB:B≤w.heap.size) (hW:Below w.heap.size w W) (hown:w.ownsRow B e size v n xs) (hg:W.grownBy w' v.ownBlock):Below B w0 w':=by
 refine Below.grown (hnx.trans (hW.mono hB)) hg (Nat.le_trans hB hW.size) ?_
 intro g hg
 rcases hown.2 with ⟨rfl,_⟩|⟨g',c',cur,rfl,hb',_⟩
 ·cases hg
 ·have:g'=g:=by simpa [Value.ownBlock] using hg
  omega
theorem addrAdd (b off j:Nat):(⟨b,off,none⟩:Addr).add j=⟨b,off+j,none⟩:=by unfold Addr.add; split <;> simp_all
theorem lit_cells (w:World) (cs:List Value) (t:TypeId):∀ j u,cs[j]? = some u→(w.alloc (.cells cs.toArray t)).cell? ((⟨w.heap.size,0,none⟩:Addr).add j)=some u:=by
 intro j u hj
 rw [addrAdd,cell_of_row _ w.heap.size (0+j) cs.toArray t (0,0) (heap_alloc_new w _),Nat.zero_add,List.getElem?_toArray]
 exact hj
theorem wide4_cells (n:Nat) (hn:n<4294967296):cellsL (wideL n 4)=[.int .u8 ((n:Int) / 16777216),.int .u8 ((n:Int) / 65536 % 256),.int .u8 ((n:Int) / 256 % 256),.int .u8 ((n:Int) % 256)]:=by
 rw [wide4]
 simp only [cellsL,List.map_cons,List.map_nil,ofNat_cell]
 have e1:((n / 16777216:Nat):Int) % 256=(n:Int) / 16777216:=by omega
 rw [e1]
 rfl
theorem add_any (base n:Nat) (v:Value) (l:List UInt8) (w:World) (h:OwnB w base v l) (hb:base≤w.heap.size) (hl:l.length≤1000) (hn:n<4294967296) :
  Calls Tryz.prog 204 #[v,.int .u32 (n:Int)] w fun e w'=>∃ v',e=.returned v'∧OwnB w' base v' (l ++ wideL n 4)∧Below base w w':=by
 obtain ⟨i0,hi,hz0,hz1,hz2⟩:=info_parts Tryz.infoB1
 have H:=hid h
 have HW:=hid (wide4_cells n hn)
 clear h
 go_enter Tryz.func204,Tryz.ntmps204
 go_wp2_with (at_builtin; refine wpList_append_own _ rfl (.tmp 5) (.tmp 17) 149 rfl base 5 i0 (.int .u8 0) 1 1 Tryz.underlying149 hi hz0 hz1 hz2 rfl (by decide) _ l.length (cellsL l) rfl (by exact World.ownsRow.alloc H.out _) ⟨w.heap.size,0,none⟩ 4 4 [.int .u8 ((n:Int) / 16777216),.int .u8 ((n:Int) / 65536 % 256),.int .u8 ((n:Int) / 256 % 256),.int .u8 ((n:Int) % 256)] rfl rfl (lit_cells _ _ _) ?c2 ?c3 ?c4 ?c5 ?_)
 case c2=>intro u hu; rw [← HW.out] at hu; exact cellsL_one _ u hu
 case c3=>unfold maxLen; omega
 case c4=>omega
 case c5=>simp; omega
 intro v' w1 hown hg _
 have HO:Hid (OwnB w1 base v' (l ++ wideL n 4)):=by
  unfold Hid OwnB
  rw [cellsL_append,HW.out,List.length_append,wideL_length]; exact hown
 have HB:=hid (own_below (Below.refl base w) hb ((Below.refl _ _).alloc (Nat.le_refl _) _) H.out hg)
 clear hown hg
 go_wp2
 go_ret
 exact ⟨v',rfl,HO.out,HB.out⟩
theorem or32 (a b:Nat) (ha:a<4294967296) (hb:b<4294967296):bits .or .u32 (a:Int) (b:Int)=((a ||| b:Nat):Int):=by
 have hx:a ||| b<2 ^ 32:=Nat.or_lt_two_pow (by omega) (by omega)
 show IntKind.u32.wrap ((BitVec.ofInt 32 (a:Int) ||| BitVec.ofInt 32 (b:Int)).toNat:Int)=_
 rw [BitVec.toNat_or,ofInt_nat32 a ha,ofInt_nat32 b hb,IntKind.wrap_u32]
 omega
theorem or_low (a b i:Nat) (hb:b<2 ^ i):(a * 2 ^ i) ||| b=a * 2 ^ i+b:=by
 rw [Nat.mul_comm]; exact (Nat.two_pow_add_eq_or_of_lt hb a).symm
theorem idx_str (s:ByteArray) (i:Nat) (z:Int) (h:i<s.size) (hz:z=i) (w:World):(Instr.index 9 (.string s) (.int .i64 z)).run Tryz.prog w=.ok (.int .u8 ((s[i]'h).toNat:Int)) w:=by
 subst hz
 rw [run_index_string w 9 s .i64 i Tryz.underlying9,dif_pos ⟨by omega,by omega⟩]
 rfl
theorem take4:∀ (l:List UInt8) (h:4≤l.length),l.take 4=[l[0]'(by omega),l[1]'(by omega),l[2]'(by omega),l[3]'(by omega)]
 | _ :: _ :: _ :: _ :: _,_=>rfl
theorem first4 (s:ByteArray) (h:4≤s.size):s.data.toList.take 4=[s[0]'(by omega),s[1]'(by omega),s[2]'(by omega),s[3]'(by omega)]:=by
 rw [getB,getB,getB,getB]
 exact take4 _ h
theorem or24 (a b:Nat) (h:b<16777216):a * 16777216 ||| b=a * 16777216+b:=or_low a b 24 h
theorem or16 (a b:Nat) (h:b<65536):a * 65536 ||| b=a * 65536+b:=or_low a b 16 h
theorem or8 (a b:Nat) (h:b<256):a * 256 ||| b=a * 256+b:=or_low a b 8 h
theorem four_num (a b c d:Nat) (hb:b<256) (hc:c<256) (hd:d<256):((a * 16777216 ||| b * 65536) ||| c * 256) ||| d=256 * (256 * (256 * a+b)+c)+d:=by
 rw [or24 _ _ (by omega),show a * 16777216+b * 65536=(a * 256+b) * 65536 by omega,or16 _ _ (by omega),show (a * 256+b) * 65536+c * 256=((a * 256+b) * 256+c) * 256 by omega,or8 _ _ hd]
 omega
theorem four_or (a b c d:Nat) (ha:a<256) (hb:b<256) (hc:c<256) (hd:d<256) :
  bits BinOp.or IntKind.u32 (bits BinOp.or IntKind.u32 (bits BinOp.or IntKind.u32 ((a:Int) * 16777216) ((b:Int) * 65536)) ((c:Int) * 256)) (d:Int)=((256 * (256 * (256 * (256 * 0+a)+b)+c)+d:Nat):Int):=by
 have e1:=or32 (a * 16777216) (b * 65536) (by omega) (by omega)
 have n1:=or24 a (b * 65536) (by omega)
 have e2:=or32 (a * 16777216 ||| b * 65536) (c * 256) (by omega) (by omega)
 have n2:a * 16777216 ||| b * 65536 ||| c * 256=a * 16777216+b * 65536+c * 256:=by
  rw [n1,show a * 16777216+b * 65536=(a * 256+b) * 65536 by omega,or16 _ _ (by omega)]
 have e3:=or32 (a * 16777216 ||| b * 65536 ||| c * 256) d (by omega) (by omega)
 simp only [Int.natCast_mul] at e1 e2
 rw [show ((a:Int) * 16777216)=(a:Int) * ((16777216:Nat):Int) from rfl,show ((b:Int) * 65536)=(b:Int) * ((65536:Nat):Int) from rfl,show ((c:Int) * 256)=(c:Int) * ((256:Nat):Int) from rfl,e1,e2,e3,four_num a b c d hb hc hd]
 congr 1
 omega
theorem four_any (s:ByteArray) (w:World) (h:4≤s.size) :
  Calls Tryz.prog 187 #[.string s] w fun e w'=>e=.returned (.int .u32 (numL (s.data.toList.take 4):Nat))∧∃ m,w'=w.drewN m:=by
 have b0:=UInt8.toNat_lt (s[0]'(by omega))
 have b1:=UInt8.toNat_lt (s[1]'(by omega))
 have b2:=UInt8.toNat_lt (s[2]'(by omega))
 have b3:=UInt8.toNat_lt (s[3]'(by omega))
 have x0:=idx_str s 0 0 (by omega) rfl
 have x1:=idx_str s 1 1 (by omega) rfl
 have x2:=idx_str s 2 2 (by omega) rfl
 have x3:=idx_str s 3 3 (by omega) rfl
 rw [first4 s h]
 simp only [numL,List.foldl_cons,List.foldl_nil]
 generalize (s[0]'(by omega)).toNat=a at b0 x0 ⊢
 generalize (s[1]'(by omega)).toNat=b at b1 x1 ⊢
 generalize (s[2]'(by omega)).toNat=c at b2 x2 ⊢
 generalize (s[3]'(by omega)).toNat=d at b3 x3 ⊢
 have HN:=hid (four_or a b c d b0 b1 b2 b3)
 clear h
 go_enter Tryz.func187,Tryz.ntmps187
 go_wp2
 go_quiet (fail)
 go_wp2
 go_ret
 exact ⟨ret_int HN.out,_,rfl⟩
def bA (l:List UInt8):ByteArray:=⟨l.toArray⟩
theorem bA_list (l:List UInt8):(bA l).data.toList=l:=by simp [bA]
theorem bA_size (l:List UInt8):(bA l).size=l.length:=by rw [size_list,bA_list]
def entV (n:Nat) (s:St):Value:=.agg #[.int .i64 s.ph,.int .i64 s.pr,.int .i64 s.at_,.int .u32 n]
theorem OwnB.later {w w':World} {base B:Nat} {v:Value} {l:List UInt8} (h:OwnB w base v l) (hb:Below B w w') (hB:w.heap.size≤B):OwnB w' base v l:=by
 refine ⟨h.1,?_⟩
 rcases h.2 with h2|⟨g,cap,cur,hv,hg,hh,r⟩
 ·exact .inl h2
 ·exact .inr ⟨g,cap,cur,hv,hg,(hb.block g (Nat.lt_of_lt_of_le ((Array.getElem?_eq_some_iff.1 hh).1) hB)).trans hh,r⟩
theorem OwnB.alloc {w:World} {base:Nat} {v:Value} {l:List UInt8} (h:OwnB w base v l) (o:Obj):OwnB (w.alloc o) base v l:=World.ownsRow.alloc h o
theorem OwnB.nil (w:World) (base:Nat):OwnB w base (.slice none 0 0) []:=World.ownsRow_nil _ _ _ _
theorem OwnB.at_ {w:World} {base:Nat} {v:Value} {l:List UInt8} (h:OwnB w base v l) (h0:0<l.length):∃ g cap,v=.slice (some ⟨g,0,none⟩) l.length cap∧BytesAt w g 0 l:=by
 rcases h.2 with ⟨_,h2⟩|⟨g,cap,cur,hv,hg,hh,hle,hm,hsz,ht⟩
 ·omega
 ·refine ⟨g,cap,hv,fun j hj=>?_⟩
  rw [Nat.zero_add,cell_of_row w g j cur _ _ hh]
  have e:(cur.toList.take (l.length * 1))[j]? = (cellsL l)[j]?:=by rw [ht]
  rw [List.getElem?_take,if_pos (by omega)] at e
  rw [← Array.getElem?_toList,e]
  simp [cellsL,hj]
theorem OwnB.app {w W w':World} {base:Nat} {v v':Value} {l r:List UInt8} (hB:base≤w.heap.size) (h:OwnB w base v l) (hW:Below w.heap.size w W) (hown:w'.ownsRow base 5 1 v' (l.length+r.length) (cellsL l ++ cellsL r)) (hg:W.grownBy w' v.ownBlock) :
  OwnB w' base v' (l ++ r)∧Below base w w' :=
 ⟨by unfold OwnB; rw [cellsL_append,List.length_append]; exact hown,own_below (Below.refl base w) hB hW h hg⟩
theorem conv_own {w:World} {base:Nat} {v:Value} {l:List UInt8} (h:OwnB w base v l) (h0:0<l.length):(convert 149 9 v).run Tryz.prog w=.ok (.string (bA l)) w:=by
 obtain ⟨g,cap,rfl,hc⟩:=h.at_ h0
 have:=run_convert_bytes_back (P:=Tryz.prog) w 149 9 5 ⟨g,0,none⟩ cap l Tryz.underlying149 Tryz.underlying5 Tryz.underlying9 (fun j hj=>by rw [addrAdd]; exact hc j hj)
 rw [this]; rfl
theorem sum_is (s:ByteArray) (c:Nat) (w:World) (hs:s.size≤1000) (hc:crcL s.data.toList=c) :
  Calls Tryz.prog 205 #[.string s] w fun e w'=>e=.returned (.int .u32 (c:Int))∧w'=w:=by
 rw [← hc]; exact sum_any s w hs
theorem slot_any (n:Nat) (s:St) (w:World) (hn:n<4294967296) (hs:s.fits) :
  Calls Tryz.prog 188 #[entV n s] w fun e w'=>e=.returned (.string (bA (bodyL n s ++ [165])))∧Below w.heap.size w w':=by
 obtain ⟨i0,hi,hz0,hz1,hz2⟩:=info_parts Tryz.infoB1
 obtain ⟨h1,h2,h3⟩:=hs
 obtain ⟨t1,E1⟩:∃ t,Hid (wideL n 4=t):=⟨_,rfl⟩
 obtain ⟨t2,E2⟩:∃ t,Hid (t1 ++ [UInt8.ofNat s.ph]=t):=⟨_,rfl⟩
 obtain ⟨t3,E3⟩:∃ t,Hid (t2 ++ wideL s.pr 4=t):=⟨_,rfl⟩
 obtain ⟨t4,E4⟩:∃ t,Hid (t3 ++ wideL s.at_ 4=t):=⟨_,rfl⟩
 obtain ⟨t5,E5⟩:∃ t,Hid (t4 ++ wideL (crcL t4) 4=t):=⟨_,rfl⟩
 have HT:Hid (bodyL n s ++ [165]=t5 ++ [165]):=by
  unfold Hid bodyL textL
  rw [wide1,Nat.mod_eq_of_lt h1,E1.out,E2.out,E3.out,E4.out,E5.out]
 have l1:t1.length=4:=by rw [← E1.out]; exact wideL_length 4 n
 have l2:t2.length=5:=by rw [← E2.out]; simp [l1]
 have l3:t3.length=9:=by rw [← E3.out]; simp [wideL_length,l2]
 have l4:t4.length=13:=by rw [← E4.out]; simp [wideL_length,l3]
 have l5:t5.length=17:=by rw [← E5.out]; simp [wideL_length,l4]
 have HP:Hid (((UInt8.ofNat s.ph).toNat:Int)=(s.ph:Int)):=by
  unfold Hid
  rw [UInt8.toNat_ofNat',Nat.mod_eq_of_lt (by omega)]
 unfold entV
 obtain ⟨W0,HW0⟩:∃ W0,Hid (W0=w.alloc (.cells #[.int .i64 s.ph,.int .i64 s.pr,.int .i64 s.at_,.int .u32 n] 134)):=⟨_,rfl⟩
 have sz0:W0.heap.size=w.heap.size+1:=by rw [HW0.out]; simp
 have HC:Hid (∀ wx,Below (w.heap.size+1) W0 wx→w.heap.size+1≤wx.heap.size∧wx.cell? ⟨w.heap.size,0,none⟩=some (.int .i64 s.ph)∧wx.cell? ⟨w.heap.size,1,none⟩=some (.int .i64 s.pr)∧wx.cell? ⟨w.heap.size,2,none⟩=some (.int .i64 s.at_)∧Below w.heap.size w wx):=by
  intro wx hb
  have hr:W0.heap[w.heap.size]? = some (.cells #[.int .i64 s.ph,.int .i64 s.pr,.int .i64 s.at_,.int .u32 n] 134 (0,0)):=by rw [HW0.out]; exact heap_alloc_new w _
  refine ⟨by have:=hb.size; omega,?_,?_,?_,?_⟩
  ·rw [hb.cell (by simp),cell_of_row _ _ _ _ _ _ hr]; rfl
  ·rw [hb.cell (by simp),cell_of_row _ _ _ _ _ _ hr]; rfl
  ·rw [hb.cell (by simp),cell_of_row _ _ _ _ _ _ hr]; rfl
  ·rw [HW0.out] at hb
   exact ((Below.refl _ _).alloc (Nat.le_refl _) _).trans (hb.mono (by omega))
 rw [HT.out]
 go_enter Tryz.func188,Tryz.ntmps188
 go_wp2_with fail
 rw [← HW0.out]
 refine (add_any (w.heap.size+1) n _ [] _ (OwnB.nil _ _) (by omega) (by simp) hn).mono ?_
 rintro e w1 ⟨v1,rfl,ho1,hb1⟩
 rw [List.nil_append,E1.out] at ho1
 obtain ⟨z1,c0,-,-,-⟩:=HC.out _ hb1
 have HO1:=hid ho1
 go_wp2_with (at_builtin; refine wpList_append_own _ rfl (.tmp 7) (.tmp 12) 149 rfl (w.heap.size+1) 5 i0 (.int .u8 0) 1 1 Tryz.underlying149 hi hz0 hz1 hz2 rfl (by decide) _ t1.length (cellsL t1) rfl (by exact World.ownsRow.alloc HO1.out _) ⟨w1.heap.size,0,none⟩ 1 1 [.int .u8 (s.ph:Int)] rfl rfl (lit_cells _ _ _) ?c2 ?c3 ?c4 ?c5 ?_)
 case c2=>intro u hu; simp at hu; subst hu; rfl
 case c3=>unfold maxLen; omega
 case c4=>omega
 case c5=>simp; omega
 intro v2 w2 hown2 hg2 _
 obtain ⟨ho2,hb2⟩:=OwnB.app (v':=v2) (r:=[UInt8.ofNat s.ph]) z1 HO1.out ((Below.refl _ _).alloc (Nat.le_refl _) _) (by rw [l1,show cellsL [UInt8.ofNat s.ph]=[.int .u8 (s.ph:Int)] by rw [← HP.out]; rfl]; exact hown2) hg2
 rw [E2.out] at ho2
 have HB2:=hid (hb1.trans hb2)
 have HO2:=hid ho2
 clear hown2 hg2 ho1 hb1 c0 ho2 hb2
 obtain ⟨z2,-,c1,-,-⟩:=HC.out _ HB2.out
 go_wp2_with fail
 refine (add_any (w.heap.size+1) s.pr _ t2 _ HO2.out z2 (by omega) h2).mono ?_
 rintro e w3 ⟨v3,rfl,ho3,hb3⟩
 rw [E3.out] at ho3
 have HO3:=hid ho3
 have HB3:=hid (HB2.out.trans hb3)
 clear ho3 hb3
 obtain ⟨z3,-,-,c2,-⟩:=HC.out _ HB3.out
 go_wp2_with fail
 refine (add_any (w.heap.size+1) s.at_ _ t3 _ HO3.out z3 (by omega) h3).mono ?_
 rintro e w4 ⟨v4,rfl,ho4,hb4⟩
 rw [E4.out] at ho4
 have HO4:=hid ho4
 have HB4:=hid (HB3.out.trans hb4)
 clear ho4 hb4
 obtain ⟨z4,-,-,-,-⟩:=HC.out _ HB4.out
 have hcv4:=conv_own HO4.out (by omega)
 go_wp2_with fail
 refine (sum_is (bA t4) (crcL t4) _ (by rw [bA_size]; omega) (by rw [bA_list])).mono ?_
 rintro e wx ⟨rfl,hx⟩
 subst wx
 clear hcv4
 go_wp2_with fail
 refine (add_any (w.heap.size+1) (crcL t4) _ t4 _ HO4.out z4 (by omega) (crcL_lt t4)).mono ?_
 rintro e w5 ⟨v5,rfl,ho5,hb5⟩
 rw [E5.out] at ho5
 have HO5:=hid ho5
 have HB5:=hid (HB4.out.trans hb5)
 clear ho5 hb5
 obtain ⟨z5,-,-,-,-⟩:=HC.out _ HB5.out
 go_wp2_with (at_builtin; refine wpList_append_own _ rfl (.tmp 31) (.tmp 32) 149 rfl (w.heap.size+1) 5 i0 (.int .u8 0) 1 1 Tryz.underlying149 hi hz0 hz1 hz2 rfl (by decide) _ t5.length (cellsL t5) rfl (by exact World.ownsRow.alloc HO5.out _) ⟨w5.heap.size,0,none⟩ 1 1 [.int .u8 165] rfl rfl (lit_cells _ _ _) ?c2 ?c3 ?c4 ?c5 ?_)
 case c2=>intro u hu; simp at hu; subst hu; rfl
 case c3=>unfold maxLen; omega
 case c4=>omega
 case c5=>simp; omega
 intro v6 w6 hown6 hg6 _
 obtain ⟨ho6,hb6⟩:=OwnB.app (v':=v6) (r:=[165]) z5 HO5.out ((Below.refl _ _).alloc (Nat.le_refl _) _) (by rw [l5]; exact hown6) hg6
 have hcv:=conv_own ho6 (by simp)
 have HB6:=hid (HC.out _ (HB5.out.trans hb6)).2.2.2.2
 clear hown6 hg6 ho6 hb6
 go_wp2
 go_ret
 exact ⟨rfl,HB6.out⟩
theorem place_any (d n:Nat) (w:World) (hd:d≤100) (hn:n<4294967296) :
  Calls Tryz.prog 136 #[.int .i64 d,.int .u32 n] w fun e w'=>e=.returned (.int .i64 ((18 * (2 * d+n % 2):Nat):Int))∧w'=w:=by
 go_enter Tryz.func136,Tryz.ntmps136
 go_wp2
 go_ret
 exact ⟨ret_int (by omega),rfl⟩
theorem known_any (d:Int) (w:World) :
  Calls Tryz.prog 138 #[.int .i64 d] w fun e w'=>e=.returned (.bool (decide (0≤d∧d<6)))∧w'=w:=by
 by_cases h:0≤d
 ·go_enter Tryz.func138,Tryz.ntmps138
  go_wp2
  go_ret
  exact ⟨by simp [h],rfl⟩
 ·go_enter Tryz.func138,Tryz.ntmps138
  go_wp2
  go_ret
  exact ⟨by simp; omega,rfl⟩
theorem attempt_any (d:Int) (w:World) :
  Calls Tryz.prog 209 #[.int .i64 d] w fun e w'=>e=.returned (.bool (decide (0≤d∧d≤1048576)))∧w'=w:=by
 by_cases h:0≤d
 ·go_enter Tryz.func209,Tryz.ntmps209
  go_wp2
  go_ret
  exact ⟨by simp [h],rfl⟩
 ·go_enter Tryz.func209,Tryz.ntmps209
  go_wp2
  go_ret
  exact ⟨by simp; omega,rfl⟩
def fitsB (ph pr at_:Int):Bool:=decide (0≤ph∧ph≤255∧0≤pr∧pr≤1048576∧0≤at_∧at_≤1048576)
theorem fits_and (ph pr at_:Int):(decide (0≤ph) && decide (ph≤255) && decide (0≤pr∧pr≤1048576) && decide (0≤at_∧at_≤1048576))=fitsB ph pr at_:=by
 unfold fitsB
 rw [← Bool.decide_and,← Bool.decide_and,← Bool.decide_and]
 exact decide_eq_decide.2 ⟨fun ⟨⟨⟨a,b⟩,c,d⟩,e,f⟩=>⟨a,b,c,d,e,f⟩,fun ⟨a,b,c,d,e,f⟩=>⟨⟨⟨a,b⟩,c,d⟩,e,f⟩⟩
theorem fits_any (ph pr at_:Int) (w:World) :
  Calls Tryz.prog 197 #[.agg #[.int .i64 ph,.int .i64 pr,.int .i64 at_]] w fun e w'=>e=.returned (.bool (fitsB ph pr at_))∧Below w.heap.size w w':=by
 have HB:=hid ((Below.refl w.heap.size w).alloc (Nat.le_refl _) (.cells #[.int .i64 ph,.int .i64 pr,.int .i64 at_] 43))
 obtain ⟨r,HR⟩:∃ r,Hid (fitsB ph pr at_=r):=⟨_,rfl⟩
 rw [HR.out]
 obtain ⟨x1,X1⟩:∃ x,Hid (decide (0≤pr∧pr≤1048576)=x):=⟨_,rfl⟩
 obtain ⟨x2,X2⟩:∃ x,Hid (decide (0≤at_∧at_≤1048576)=x):=⟨_,rfl⟩
 have R0:=fits_and ph pr at_
 rw [X1.out,X2.out,HR.out] at R0
 have R:=hid R0
 clear R0
 clear HR
 by_cases h1:0≤ph
 ·by_cases h2:ph≤255
  ·cases x1 with
   | true =>
    go_enter Tryz.func197,Tryz.ntmps197
    go_wp2_with (first|(go_at_call 209; with_reducible refine (attempt_any pr _).mono ?_; rw [X1.out]; rintro e wx ⟨rfl,hx⟩; subst wx)|(go_at_call 209; with_reducible refine (attempt_any at_ _).mono ?_; rw [X2.out]; rintro e wx ⟨rfl,hx⟩; subst wx))
    go_ret
    exact ⟨by rw [← R.out]; simp [h1,h2],HB.out⟩
   | false =>
    go_enter Tryz.func197,Tryz.ntmps197
    go_wp2_with (first|(go_at_call 209; with_reducible refine (attempt_any pr _).mono ?_; rw [X1.out]; rintro e wx ⟨rfl,hx⟩; subst wx))
    go_ret
    exact ⟨by rw [← R.out]; simp,HB.out⟩
  ·have H2:=hid (decide_eq_false h2)
   go_enter Tryz.func197,Tryz.ntmps197
   go_wp2_with fail
   go_ret
   exact ⟨by rw [← R.out,H2.out,Bool.and_false]; rfl,HB.out⟩
 ·have H1:=hid (decide_eq_false h1)
  go_enter Tryz.func197,Tryz.ntmps197
  go_wp2_with fail
  go_ret
  exact ⟨by rw [← R.out,H1.out]; rfl,HB.out⟩
theorem slice_low (s:ByteArray) (a:Nat) (z:Int) (hz:z=a) (h:a≤s.size) (w:World):(Instr.slice 9 (.string s) (some (.int .i64 z)) none none).run Tryz.prog w=.ok (.string (s.extract a s.size)) w:=by
 subst hz
 rw [run_slice_string_l w 9 s Tryz.underlying9 .i64 a (by omega) (by omega)]
 rfl
theorem slice_mid (s:ByteArray) (a b:Nat) (y z:Int) (hy:y=a) (hz:z=b) (h:a≤b) (hb:b≤s.size) (w:World):(Instr.slice 9 (.string s) (some (.int .i64 y)) (some (.int .i64 z)) none).run Tryz.prog w=.ok (.string (s.extract a b)) w:=by
 subst hy hz
 rw [run_slice_string w 9 s .i64 .i64 a b Tryz.underlying9 (by omega) (by omega) (by omega)]
 rfl
theorem slice_high (s:ByteArray) (b:Nat) (z:Int) (hz:z=b) (hb:b≤s.size) (w:World):(Instr.slice 9 (.string s) none (some (.int .i64 z)) none).run Tryz.prog w=.ok (.string (s.extract 0 b)) w:=by
 subst hz
 rw [run_slice_string_h w 9 s Tryz.underlying9 .i64 b (by omega) (by omega)]
 rfl
theorem four_is (s:ByteArray) (n:Nat) (w:World) (h:4≤s.size) (hn:numL (s.data.toList.take 4)=n) :
  Calls Tryz.prog 187 #[.string s] w fun e w'=>e=.returned (.int .u32 (n:Int))∧∃ m,w'=w.drewN m:=by
 rw [← hn]; exact four_any s w h
end Go.Proofs.YtadhpkopkkjmfaaGreatDoor
