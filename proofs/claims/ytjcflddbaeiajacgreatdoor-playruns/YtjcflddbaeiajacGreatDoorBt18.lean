/-
  On the way to PRunsProof: Q8 QS QD QG QH RQ.
-/
import Derived.Test.YtjcflddbaeiajacGreatDoorBt16
import Derived.Test.YtjcflddbaeiajacGreatDoorBt12
import Derived.Test.YtjcflddbaeiajacGreatDoorBt14
import Derived.Test.YtjcflddbaeiajacGreatDoorBt9
set_option maxHeartbeats 8000000
set_option maxRecDepth 100000
namespace Go.Proofs.YtjcflddbaeiajacGreatDoor
open Go.RowKit
theorem sl_nil (b off n cap:Nat) (w:World):(binOp .eql 22 (.slice (some ⟨b,off,none⟩) n cap) (.slice none 0 0)).run Tryz.prog w=.ok (.bool false) w:=by
 rfl
theorem clone_any (v:Value) (zs:List Int) (w:World) (hv:IsSl w v zs) (h1:1≤zs.length) (hl:zs.length≤30) :
  Calls Tryz.prog 48 #[v] w fun e w'=>∃ v',e=.returned v'∧w'.ownsRow w.heap.size 3 1 v' zs.length (zs.map (Value.int .i64))∧Below w.heap.size w w':=by
 obtain ⟨i0,hi,hz0,hz1,hz2⟩:=info_parts Tryz.infoInt
 obtain ⟨a,cap,rfl,hm,-,hc⟩:=hv
 have HM:=hid hm
 obtain ⟨b,off,rfl,hcc⟩:=hc (by omega)
 have HC:Hid (∀ o:Obj,∀ j u,(zs.map (Value.int .i64))[j]? = some u→(w.alloc o).cell? ((⟨b,off,none⟩:Addr).add j)=some u):=by
  intro o j u hj
  rw [List.getElem?_map] at hj
  rcases Nat.lt_or_ge j zs.length with h|h
  ·rw [List.getElem?_eq_getElem h] at hj
   simp at hj
   subst hj
   have:=hcc j h
   rw [getD_lt zs j h] at this
   rw [addr_add]; exact cell_alloc _ this
  ·rw [List.getElem?_eq_none h] at hj; cases hj
 clear hc hcc
 have HO:Hid (∀ u∈zs.map (Value.int .i64),u.oneCell'=true):=by
  intro u hu
  obtain ⟨n,-,rfl⟩:=List.mem_map.1 hu
  rfl
 have HOw:Hid ((w.alloc (.cells #[] 3)).ownsRow w.heap.size 3 1 (.slice (some ⟨w.heap.size,0,none⟩) 0 0) 0 []):=World.ownsRow_lit w #[] 0 (Nat.le_refl _) (by unfold maxLen; omega) rfl
 have hnil:=sl_nil b off zs.length cap
 go_enter Tryz.func48,Tryz.ntmps48
 go_wp2_with (at_builtin; refine wpList_append_own _ rfl _ _ 22 rfl w.heap.size 3 i0 (.int .i64 0) 1 8 Tryz.underlying22 hi hz0 hz1 hz2 rfl (by decide) _ 0 [] rfl HOw.out ⟨b,off,none⟩ zs.length cap (zs.map (Value.int .i64)) rfl (by simp) (HC.out _) HO.out (by have:=HM.out; omega) (by omega) (by simp) ?_)
 intro v' w1 hown hgrow _
 have ho2:w1.ownsRow w.heap.size 3 1 v' zs.length (zs.map (Value.int .i64)):=by simpa using hown
 clear hown
 have HB:Hid (Below w.heap.size w w1):=((Below.refl _ _).alloc (Nat.le_refl _) (.cells #[] 3)).grown hgrow (by simp) (fun j hj=>(HOw.out.lt j hj).1)
 clear hgrow
 go_wp2_with fail
 go_ret
 exact ⟨_,rfl,ho2,HB.out⟩
def P0:PL:=⟨0,0,[⟨0,0,0⟩,⟨0,0,0⟩,⟨0,0,0⟩,⟨0,0,0⟩,⟨0,0,0⟩,⟨0,0,0⟩,⟨0,0,0⟩],0,0,false⟩
theorem P0_w (n:Nat):PW n P0:=⟨rfl,Int.le_refl _,Int.pow_pos (by decide)⟩
theorem check_ok (A:Nat→Addr) (v:Value) (zs:List Int) (w:World) (hv:IsSl w v zs) (hE:Held3 w A) (he:errW zs=0) :
  Calls Tryz.prog 47 #[v] w fun e w'=>e=.returned .nilIface∧w'=w:=by
 have:=check_any A v zs w hv hE
 rw [he] at this
 exact this
theorem ldbegin_ok (A:Nat→Addr) (v:Value) (zs:List Int) (id:Nat) (deal att:Int) (w:World) (hv:IsSl w v zs) (hE:Held3 w A) (he:errW zs=0) (hid':id<zs.length) (h0:0≤deal) (h1:deal<6) :
  Calls Tryz.prog 184 #[.int .i64 (id:Int),.int .i64 deal,v,.int .i64 att] w fun e w'=>∃ lb b cap,e=.returned (.tuple #[.pointer (some ⟨lb,0,none⟩),.nilIface])∧LD w' lb b cap id deal att zs P0∧Below w.heap.size w w'∧w.heap.size≤b:=by
 have HS:=hid hv
 have HE:=hid hE
 have HZ:=hid he
 obtain ⟨q1,q2,-,-⟩:=errW_zero he
 have hlen:(id:Int)<(zs.length:Int):=by omega
 have g1:¬ (zs.length:Int)≤(id:Int):=by omega
 obtain ⟨a,cap0,rfl,-,-,-⟩:=hv
 clear hE he
 go_enter Tryz.func184,Tryz.ntmps184
 go_wp2_with (go_at_call 47; refine (check_ok A _ zs _ HS.out HE.out HZ.out).mono ?_; rintro e w1 ⟨rfl,rfl⟩)
 refine (clone_any _ zs _ HS.out q1 (by omega)).mono ?_
 rintro e w1 ⟨v',rfl,ho,hb⟩
 rcases ho.2 with ⟨-,hz⟩|⟨g,cap,cur,rfl,hg,hgg,hle,hcap,hsz,htk⟩
 ·omega
 have HOw:=hid ho
 have HB:=hid hb
 clear ho hb hgg hle hcap hsz htk
 go_wp2_with fail
 go_ret2
 have hg2:g<w1.heap.size:=by
  rcases HOw.out.2 with ⟨hx,-⟩|⟨g',cap',cur',hx,-,hgg',-⟩
  ·cases hx
  ·cases hx
   exact row_ltJ hgg'
 refine ⟨w1.heap.size,g,cap,rfl,⟨heap_alloc_new w1 _,fun i hi=>cell_alloc _ ?_,hg2,P0_w _,fun j=>Nat.lt_of_lt_of_le (gW_lt HE.out j) HB.out.size⟩,HB.out.alloc HB.out.size _,hg⟩
 have:=HOw.out.cellAt i (by omega)
 rw [Nat.zero_add,this]
 simp [hi]
theorem ldBegin_ok (A:Nat→Addr) (v:Value) (zs:List Int) (id:Nat) (deal:Int) (w:World) (hv:IsSl w v zs) (hE:Held3 w A) (he:errW zs=0) (hid':id<zs.length) (h0:0≤deal) (h1:deal<6) :
  Calls Tryz.prog 100 #[.int .i64 (id:Int),.int .i64 deal,v] w fun e w'=>∃ lb b cap,e=.returned (.tuple #[.pointer (some ⟨lb,0,none⟩),.nilIface])∧LD w' lb b cap id deal 0 zs P0∧Below w.heap.size w w'∧w.heap.size≤b:=by
 have HC:=hid (ldbegin_ok A v zs id deal 0 w hv hE he hid' h0 h1)
 obtain ⟨a,cap0,rfl,-,-,-⟩:=hv
 clear hE he
 go_enter Tryz.func100,Tryz.ntmps100
 go_wp2_with fail
 refine HC.out.mono ?_
 rintro e w1 ⟨lb,b,cap,rfl,hl,hb,hg⟩
 have HL:=hid (And.intro hl (And.intro hb hg))
 clear hl hb hg
 go_wp2_with fail
 go_ret2
 exact ⟨lb,b,cap,rfl,HL.out⟩
theorem ldTry_ok (A:Nat→Addr) (v:Value) (zs:List Int) (id:Nat) (deal att:Int) (w:World) (hv:IsSl w v zs) (hE:Held3 w A) (he:errW zs=0) (hid':id<zs.length) (h0:0≤deal) (h1:deal<6) (a0:1≤att) (a1:att≤1048576) :
  Calls Tryz.prog 200 #[.int .i64 (id:Int),.int .i64 deal,v,.int .i64 att] w fun e w'=>∃ lb b cap,e=.returned (.tuple #[.pointer (some ⟨lb,0,none⟩),.nilIface])∧LD w' lb b cap id deal att zs P0∧Below w.heap.size w w'∧w.heap.size≤b:=by
 have HC:=hid (ldbegin_ok A v zs id deal att w hv hE he hid' h0 h1)
 obtain ⟨a,cap0,rfl,-,-,-⟩:=hv
 have g1:¬ att<1:=by omega
 have g2:¬ 1048576<att:=by omega
 clear hE he
 go_enter Tryz.func200,Tryz.ntmps200
 go_wp2_with fail
 refine HC.out.mono ?_
 rintro e w1 ⟨lb,b,cap,rfl,hl,hb,hg⟩
 have HL:=hid (And.intro hl (And.intro hb hg))
 clear hl hb hg
 go_wp2_with fail
 go_ret2
 exact ⟨lb,b,cap,rfl,HL.out⟩
theorem ldState_any {w:World} {lb b cap id:Nat} {deal att:Int} {zs:List Int} {P:PL} (h:LD w lb b cap id deal att zs P) :
  Calls Tryz.prog 103 #[.pointer (some ⟨lb,0,none⟩)] w fun e w'=>e=.returned (.string (stP P.stt))∧w'=w:=by
 have c4:=h.cells.2.2.2.2.1
 clear h
 go_enter Tryz.func103,Tryz.ntmps103
 go_wp2_with fail
 go_ret
 exact ⟨rfl,rfl⟩
theorem ldSeen_any {w:World} {lb b cap id:Nat} {deal att:Int} {zs:List Int} {P:PL} (h:LD w lb b cap id deal att zs P) :
  Calls Tryz.prog 239 #[.pointer (some ⟨lb,0,none⟩)] w fun e w'=>e=.returned (.int .i64 P.seen)∧w'=w:=by
 have c28:=h.cells.2.2.2.2.2.2.2.1
 clear h
 go_enter Tryz.func239,Tryz.ntmps239
 go_wp2_with fail
 go_ret
 exact ⟨rfl,rfl⟩
theorem ldStart0_any {w:World} {lb b cap id:Nat} {deal:Int} {zs:List Int} {P:PL} (hn:zs.length≤7) (h:LD w lb b cap id deal 0 zs P) :
  Calls Tryz.prog 102 #[.pointer (some ⟨lb,0,none⟩)] w fun e w'=>∃ v,e=.returned v∧FrB w.heap.size w' v (toL id deal 1 0 0 zs.length)∧Below w.heap.size w w':=by
 have c2:=h.cells.2.2.1
 have H:=hid h
 clear h
 go_enter Tryz.func102,Tryz.ntmps102
 go_wp2_with fail
 refine (ldtoAll_any lb b cap id deal 0 zs P 1 0 w H.out hn).mono ?_
 rintro e w1 ⟨v,rfl,ho,hb⟩
 have HV:=hid (And.intro ho hb)
 clear ho hb
 go_wp2_with fail
 go_ret
 exact ⟨_,rfl,HV.out⟩
theorem orAll:((List.range 128).all fun s=>(List.range 7).all fun q=>Nat.testBit s q || decide (s ||| 2 ^ q=s+2 ^ q))=true:=by decide +kernel
theorem ansS_add {a:Int} {m:Nat} (h0:0≤a) (h1:a<128) (hm:m<7) (hb:bit a m=false):ansS a m=a+2 ^ m:=by
 obtain ⟨n,rfl⟩:=Int.eq_ofNat_of_zero_le h0
 have hn:n<128:=by omega
 have h:=List.all_eq_true.1 (List.all_eq_true.1 orAll n (List.mem_range.2 hn)) m (List.mem_range.2 hm)
 unfold bit at hb
 rw [Int.toNat_natCast] at hb
 rw [hb,Bool.false_or] at h
 have h2:=of_decide_eq_true h
 have h3:(2:Nat) ^ m<9223372036854775808:=Nat.lt_of_lt_of_le (Nat.pow_lt_pow_right (by decide) hm) (by decide)
 unfold ansS
 rw [pow_nat,bits_or_nat n (2 ^ m) (by omega) h3,h2,Int.natCast_add]
theorem waits_ways {P:PL} {att k:Int} (h:waitsB P att k=true):(k=2∧P.stt=0∧att=0) ∨ (k=4∧P.stt=0∧0<att) ∨ (k=6∧P.stt=1):=by
 unfold waitsB at h
 simp at h
 omega
theorem gr_same' {p:Int} {L M:List S3} (h:∀ s:S3,s.p=p→(s∈L ↔ s∈M)):gr p L=gr p M:=by
 rcases gr_of p L with ⟨h1,⟨t,ht,hp,ha⟩,h3⟩|⟨h1,h2⟩
 ·rcases gr_of p M with ⟨g1,⟨u,hu,up,ua⟩,g3⟩|⟨g1,g2⟩
  ·have a1:=g3 t ((h t hp).1 ht) hp
   have a2:=h3 u ((h u up).2 hu) up
   refine Prod.ext ?_ (h1.trans g1.symm)
   omega
  ·exact absurd hp (g2 t ((h t hp).1 ht))
 ·rcases gr_of p M with ⟨g1,⟨u,hu,up,ua⟩,g3⟩|⟨g1,g2⟩
  ·exact absurd up (h2 u ((h u up).2 hu))
  ·rw [h1,g1]
theorem choose_same' {L M:List S3} (h:∀ s:S3,s.p≠0→(s∈L ↔ s∈M)):chooseL L=chooseL M:=by
 unfold chooseL
 rw [gr_same' (p:=2) (fun s e=>h s (by omega)),gr_same' (p:=3) (fun s e=>h s (by omega)),gr_same' (p:=4) (fun s e=>h s (by omega)),gr_same' (p:=5) (fun s e=>h s (by omega))]
theorem fromL_snoc (hs:List F9) (f:F9) (i:Int):fromL (hs ++ [f]) i=(fromL hs i).or (if f.f=i then some f else none):=by
 unfold fromL
 rw [List.find?_append]
 congr 1
 by_cases h:f.f=i
 ·rw [if_pos h]; simp [h]
 ·rw [if_neg h]; simp [h]
theorem fromL_other {hs:List F9} {f:F9} {i:Int} (h:f.f≠i):fromL (hs ++ [f]) i=fromL hs i:=by
 rw [fromL_snoc,if_neg h,Option.or_none]
theorem fromL_new {hs:List F9} {f:F9} (h:fromL hs f.f=none):fromL (hs ++ [f]) f.f=some f:=by
 rw [fromL_snoc,h,if_pos rfl]; rfl
theorem setTo_snoc {hs:List F9} {f:F9} {m:Nat} (hm:f.f=(m:Int)) (hn:fromL hs m=none):∀ k,setTo (hs ++ [f]) k=setTo hs k+(if m<k then 2 ^ m else 0)
 | 0=>by simp [setTo]
 | k+1=>by
  unfold setTo
  rw [setTo_snoc hm hn k]
  by_cases e:m=k
  ·subst e
   have h1:(fromL (hs ++ [f]) (m:Int)).isSome=true:=by rw [← hm,fromL_new (by rw [hm]; exact hn)]; rfl
   have h2:¬ (fromL hs (m:Int)).isSome=true:=by rw [hn]; simp
   rw [if_pos h1,if_neg h2,if_neg (by omega),if_pos (by omega)]
   omega
  ·rw [fromL_other (by omega)]
   by_cases g:m<k
   ·rw [if_pos g,if_pos (show m<k+1 by omega)]; split <;> omega
   ·rw [if_neg g,if_neg (show ¬ m<k+1 by omega)]; split <;> omega
theorem bit_addpow {a:Int} {k:Nat} (h0:0≤a) (h1:a<2 ^ k) (i:Nat):bit (a+2 ^ k) i=(decide (i=k) || bit a i):=by
 obtain ⟨n,rfl⟩:=Int.eq_ofNat_of_zero_le h0
 have hn:n<2 ^ k:=by
  have:((n:Nat):Int)<((2 ^ k:Nat):Int):=by rw [← pow_nat]; exact h1
  omega
 unfold bit
 have e:(((n:Nat):Int)+2 ^ k).toNat=2 ^ k+n:=by rw [pow_nat]; omega
 rw [e,Int.toNat_natCast]
 rcases Nat.lt_trichotomy i k with g|g|g
 ·rw [Nat.testBit_two_pow_add_gt g,decide_eq_false (by omega)]; rfl
 ·subst g
  rw [Nat.testBit_two_pow_add_eq,Nat.testBit_lt_two_pow hn,decide_eq_true rfl]; rfl
 ·have h2:2 ^ (k+1)≤2 ^ i:=Nat.pow_le_pow_right (by decide) g
  have h3:2 ^ (k+1)=2 * 2 ^ k:=by rw [Nat.pow_succ]; omega
  rw [Nat.testBit_lt_two_pow (by omega),Nat.testBit_lt_two_pow (by omega),decide_eq_false (by omega)]; rfl
theorem setTo_bit (hs:List F9):∀ (k i:Nat),bit (setTo hs k) i=(decide (i<k) && (fromL hs i).isSome)
 | 0,i=>by simp [setTo,bit]
 | k+1,i=>by
  obtain ⟨h0,h1⟩:=setTo_bd hs k
  unfold setTo
  by_cases g:(fromL hs (k:Int)).isSome=true
  ·rw [if_pos g,bit_addpow h0 h1,setTo_bit hs k i]
   by_cases e:i=k
   ·subst e; rw [g]; simp
   ·rw [decide_eq_false e,Bool.false_or]
    by_cases l:i<k
    ·rw [decide_eq_true l,decide_eq_true (show i<k+1 by omega)]
    ·rw [decide_eq_false l,decide_eq_false (show ¬ i<k+1 by omega)]
  ·rw [if_neg g,setTo_bit hs k i]
   by_cases e:i=k
   ·subst e
    have:(fromL hs (i:Int)).isSome=false:=by simpa using g
    rw [this]; simp
   ·by_cases l:i<k
    ·rw [decide_eq_true l,decide_eq_true (show i<k+1 by omega)]
    ·rw [decide_eq_false l,decide_eq_false (show ¬ i<k+1 by omega)]
def cntTo (hs:List F9):Nat→Nat
 | 0=>0
 | k+1=>if (fromL hs k).isSome=true then cntTo hs k+1 else cntTo hs k
theorem cntTo_le (hs:List F9):∀ k,cntTo hs k≤k
 | 0=>Nat.le_refl _
 | k+1=>by have:=cntTo_le hs k; unfold cntTo; split <;> omega
theorem cntTo_snoc {hs:List F9} {f:F9} {m:Nat} (hm:f.f=(m:Int)) (hn:fromL hs m=none):∀ k,cntTo (hs ++ [f]) k=cntTo hs k+(if m<k then 1 else 0)
 | 0=>by simp [cntTo]
 | k+1=>by
  unfold cntTo
  rw [cntTo_snoc hm hn k]
  by_cases e:m=k
  ·subst e
   have h1:(fromL (hs ++ [f]) (m:Int)).isSome=true:=by rw [← hm,fromL_new (by rw [hm]; exact hn)]; rfl
   have h2:¬ (fromL hs (m:Int)).isSome=true:=by rw [hn]; simp
   rw [if_pos h1,if_neg h2,if_neg (by omega),if_pos (by omega)]
  ·rw [fromL_other (by omega)]
   by_cases g:m<k
   ·rw [if_pos g,if_pos (show m<k+1 by omega)]; split <;> omega
   ·rw [if_neg g,if_neg (show ¬ m<k+1 by omega)]; split <;> omega
theorem all_iff (hs:List F9):∀ k,(cntTo hs k=k ↔ setTo hs k=2 ^ k - 1)
 | 0=>by simp [cntTo,setTo]
 | k+1=>by
  have ih:=all_iff hs k
  have h1:=cntTo_le hs k
  obtain ⟨h2,h3⟩:=setTo_bd hs k
  have e:(2:Int) ^ (k+1)=2 * 2 ^ k:=by rw [Int.pow_succ]; omega
  unfold cntTo setTo
  rw [e]
  by_cases g:(fromL hs (k:Int)).isSome=true
  ·rw [if_pos g,if_pos g]; omega
  ·rw [if_neg g,if_neg g]; omega
theorem cntTo_nil:∀ k,cntTo [] k=0
 | 0=>rfl
 | k+1=>by unfold cntTo; rw [if_neg (by simp [fromL]),cntTo_nil k]
theorem setTo_nil:∀ k,setTo [] k=0
 | 0=>rfl
 | k+1=>by unfold setTo; rw [if_neg (by simp [fromL]),setTo_nil k]
def tl (hs:List F9) (i:Nat):S3:=match fromL hs i with
 | none=>⟨0,0,0⟩
 | some x=>⟨x.ph,x.pr,x.pa⟩
theorem mem_toldTo (hs:List F9) (s:S3):∀ k,(s∈toldTo hs k ↔ ∃ i,i<k∧∃ x,fromL hs (i:Nat)=some x∧s=⟨x.ph,x.pr,x.pa⟩)
 | 0=>by
  unfold toldTo
  constructor
  ·intro h; cases h
  ·rintro ⟨i,hi,-⟩; omega
 | k+1=>by
  have ih:=mem_toldTo hs s k
  unfold toldTo
  cases hf:fromL hs (k:Int) with
  | none =>
   simp only
   rw [ih]
   constructor
   ·rintro ⟨i,hi,x,hx,e⟩; exact ⟨i,by omega,x,hx,e⟩
   ·rintro ⟨i,hi,x,hx,e⟩
    refine ⟨i,?_,x,hx,e⟩
    rcases Nat.lt_or_ge i k with g|g
    ·exact g
    ·obtain rfl:i=k:=by omega
     rw [hf] at hx; cases hx
  | some y =>
   simp only [List.mem_append,List.mem_singleton]
   rw [ih]
   constructor
   ·rintro (⟨i,hi,x,hx,e⟩|e)
    ·exact ⟨i,by omega,x,hx,e⟩
    ·exact ⟨k,by omega,y,hf,e⟩
   ·rintro ⟨i,hi,x,hx,e⟩
    rcases Nat.lt_or_ge i k with g|g
    ·exact .inl ⟨i,g,x,hx,e⟩
    ·obtain rfl:i=k:=by omega
     rw [hf] at hx
     obtain rfl:=Option.some.inj hx
     exact .inr e
theorem fromL_mem {hs:List F9} {i:Int} {x:F9} (h:fromL hs i=some x):x∈hs∧x.f=i:=by
 unfold fromL at h
 exact ⟨List.mem_of_find?_eq_some h,by simpa using List.find?_some h⟩
theorem choose_told {hs:List F9} {n:Nat} (hn:n≤7) (hs0:∀ x,x∈hs→0≤x.f∧x.f<n):chooseL ((List.range 7).map (tl hs))=refL (toldTo hs n):=by
 rw [← choose_ref]
 refine choose_same' fun s hp=>?_
 rw [mem_toldTo,List.mem_map]
 constructor
 ·rintro ⟨i,hi,rfl⟩
  unfold tl at hp ⊢
  cases hf:fromL hs (i:Int) with
  | none=>rw [hf] at hp; exact absurd rfl hp
  | some x =>
   obtain ⟨h1,h2⟩:=fromL_mem hf
   have:=(hs0 x h1).2
   exact ⟨i,by omega,x,hf,rfl⟩
 ·rintro ⟨i,hi,x,hx,rfl⟩
  refine ⟨i,List.mem_range.2 (by omega),?_⟩
  unfold tl
  rw [hx]
theorem told_new {hs:List F9} {f:F9} {m:Nat} (hm:f.f=(m:Int)) (hn:fromL hs m=none) (h7:m<7):toldS ((List.range 7).map (tl hs)) m ⟨f.ph,f.pr,f.pa⟩=(List.range 7).map (tl (hs ++ [f])):=by
 refine List.ext_getElem? fun i=>?_
 show (((List.range 7).map (tl hs)).set m ⟨f.ph,f.pr,f.pa⟩)[i]? = _
 rw [List.getElem?_set]
 by_cases e:m=i
 ·subst e
  rw [if_pos rfl,if_pos (by simpa using h7),List.getElem?_map,List.getElem?_range h7]
  simp only [Option.map_some]
  unfold tl
  rw [← hm,fromL_new (by rw [hm]; exact hn)]
 ·rw [if_neg e,List.getElem?_map,List.getElem?_map]
  rcases Nat.lt_or_ge i 7 with g|g
  ·rw [List.getElem?_range g]
   simp only [Option.map_some]
   unfold tl
   rw [fromL_other (by omega)]
  ·rw [List.getElem?_eq_none (by simpa using g)]
   rfl
theorem sent_to (id:Nat) (deal kind att ph:Int):∀ k,sentL id deal kind att ph true k=toL id deal kind att ph k
 | 0=>rfl
 | k+1=>by
  unfold sentL toL
  rw [if_neg (by simp),sent_to id deal kind att ph k]
structure Rel (n:Nat) (att:Int) (P:PL) (L:LSt):Prop where
 pw:PW n P
 stt:P.stt=L.stt
 st4:P.stt<4
 wait:L.wait=if P.stt=0 then (if att=0 then 2 else 4) else if P.stt=1 then 6 else 0
 snd:∀ x,x∈L.hs→0≤x.f∧x.f<n
 cnt:P.stt≤1→L.hs.length=cntTo L.hs n
 ans:P.stt≤1→P.ans=setTo L.hs n
 told:P.stt=0→P.told=(List.range 7).map (tl (if att=0 then [] else L.hs))
 prep:P.stt=1→P.prep=L.ph
 seen:P.seen=L.seen
 has:P.has=false→P.seen=0
 pos:0≤P.seen
theorem Rel.waits {n:Nat} {att:Int} {P:PL} {L:LSt} (h:Rel n att P L) (h0:0≤att) (k:Int):waitsB P att k=true ↔ (L.wait≠0∧k=L.wait):=by
 rw [h.wait]
 constructor
 ·intro hw
  rcases waits_ways hw with ⟨rfl,hs,ha⟩|⟨rfl,hs,ha⟩|⟨rfl,hs⟩
  ·rw [if_pos hs,if_pos ha]; omega
  ·rw [if_pos hs,if_neg (by omega)]; omega
  ·rw [if_neg (by omega),if_pos hs]; omega
 ·rintro ⟨h1,h2⟩
  unfold waitsB
  by_cases g0:P.stt=0
  ·rw [if_pos g0] at h2
   by_cases ga:att=0
   ·rw [if_pos ga] at h2; subst h2; simp [g0,ga]
   ·rw [if_neg ga] at h2; subst h2; simp [g0]; omega
  ·rw [if_neg g0] at h1 h2
   by_cases g1:P.stt=1
   ·rw [if_pos g1] at h2; subst h2; simp [g1]
   ·rw [if_neg g1] at h1; exact absurd rfl h1
theorem Rel.takes {n id:Nat} {deal att:Int} {P:PL} {L:LSt} {f:F9} (h:Rel n att P L) (h0:0≤att):takesB n id deal att P f=true ↔ (forL n id deal att L f∧(fromL L.hs f.f).isSome=false):=by
 constructor
 ·intro ht
  obtain ⟨⟨h1,h2,h3⟩,hw,⟨h4,h5⟩,hb⟩:=takesB_in ht
  obtain ⟨g1,g2⟩:=(h.waits h0 f.k).1 hw
  refine ⟨⟨g1,g2,h2,h3,h1,h4,h5⟩,?_⟩
  have hst:P.stt≤1:=by
   rw [h.wait] at g1
   rcases Nat.lt_or_ge 1 P.stt with g|g
   ·rw [if_neg (by omega),if_neg (by omega)] at g1; exact absurd rfl g1
   ·exact g
  rw [h.ans hst,setTo_bit,decide_eq_true (show f.f.toNat<n by omega),Bool.true_and,show ((f.f.toNat:Nat):Int)=f.f by omega] at hb
  exact hb
 ·rintro ⟨⟨g1,g2,h2,h3,h1,h4,h5⟩,hb⟩
  have hst:P.stt≤1:=by
   rw [h.wait] at g1
   rcases Nat.lt_or_ge 1 P.stt with g|g
   ·rw [if_neg (by omega),if_neg (by omega)] at g1; exact absurd rfl g1
   ·exact g
  rw [tk_in ⟨h1,h2,h3⟩ ((h.waits h0 f.k).2 ⟨g1,g2⟩) ⟨h4,h5⟩,h.ans hst,setTo_bit,decide_eq_true (show f.f.toNat<n by omega),Bool.true_and,show ((f.f.toNat:Nat):Int)=f.f by omega,hb]
  rfl
theorem see_seen {P:PL} {p:Int} (h:P.has=false→P.seen=0) (h0:0≤P.seen) (hp:0≤p) :
  (seeP P p).seen=(if P.seen<p then p else P.seen)∧((seeP P p).has=false→(seeP P p).seen=0)∧0≤(seeP P p).seen:=by
 unfold seeP
 by_cases g:P.has=false ∨ P.seen<p
 ·rw [if_pos g]
  refine ⟨?_,fun e=>(by cases e),hp⟩
  show p=_
  by_cases l:P.seen<p
  ·rw [if_pos l]
  ·rw [if_neg l]
   rcases g with g|g
   ·have:=h g; omega
   ·exact absurd g l
 ·rw [if_neg g,if_neg (fun l=>g (.inr l))]
  exact ⟨rfl,h,h0⟩
section
variable {zs:List Int} {id:Nat} {deal att:Int} {P:PL} {L:LSt} {f:F9}
theorem Rel.step (h:Rel zs.length att P L) (h0:0≤att) (hn:zs.length≤7) (hp:f.k≠2→0≤f.pr) :
  (phear zs id deal att P f).2=(lhear zs id deal att L f).2∧Rel zs.length att (phear zs id deal att P f).1 (lhear zs id deal att L f).1:=by
 by_cases ht:takesB zs.length id deal att P f=true
 ·have hq:=(h.takes h0).1 ht
  obtain ⟨⟨w1,w2,-,-,-,r1,r2⟩,hnone⟩:=hq
  have hq:=(h.takes h0).1 ht
  obtain ⟨-,hw,-,hb⟩:=takesB_in ht
  obtain ⟨m,hm⟩:=Int.eq_ofNat_of_zero_le r1
  have hmn:m<zs.length:=by omega
  have htn:f.f.toNat=m:=by omega
  have hfn:fromL L.hs (m:Int)=none:=by rw [← hm]; exact Option.isSome_eq_false_iff.1 hnone |> Option.isNone_iff_eq_none.1
  have hp7:=(pow_le7 hn).1
  have hlo:=h.pw.lo
  have hhi:=h.pw.hi
  have hst:P.stt≤1:=by
   rcases waits_ways hw with ⟨-,hs,-⟩|⟨-,hs,-⟩|⟨-,hs⟩ <;> omega
  have hans:(noteP P f).ans=setTo (L.hs ++ [f]) zs.length:=by
   show ansS P.ans f.f.toNat=_
   rw [htn] at hb ⊢
   rw [ansS_add hlo (by omega) (by omega) hb,setTo_snoc hm hfn,if_pos hmn,h.ans hst]
  have hcnt:(L.hs ++ [f]).length=cntTo (L.hs ++ [f]) zs.length:=by
   rw [cntTo_snoc hm hfn,if_pos hmn,List.length_append,h.cnt hst]; rfl
  have hsnd:∀ x,x∈L.hs ++ [f]→0≤x.f∧x.f<zs.length:=by
   intro x hx
   rcases List.mem_append.1 hx with g|g
   ·exact h.snd x g
   ·rw [List.mem_singleton.1 g]; exact ⟨r1,r2⟩
  have hpn:=h.pw.note (f:=f) hn r1 r2
  have hph:phear zs id deal att P f=takenP zs P f:=by unfold phear; rw [if_pos ht]
  rw [hph]
  rcases waits_ways hw with ⟨hk,hs,ha⟩|⟨hk,hs,ha⟩|⟨hk,hs⟩
  ·have hsl:seenL L f=L.seen:=by unfold seenL; rw [if_neg (fun x=>x.1 hk)]
   have htold:=h.told hs
   rw [if_pos ha] at htold
   cases hy:f.y with
   | false =>
    rw [lhear_no2 hq hy hk]
    have e:takenP zs P f=decP (noteP P f) 3:=by unfold takenP; rw [if_pos hk]; unfold voteP; rw [if_pos hy]
    rw [e,hsl]
    exact ⟨rfl,hpn.dec 3,rfl,by show 2<4; decide,rfl,h.snd,fun g=>absurd g (by show ¬ 2≤1; decide),fun g=>absurd g (by show ¬ 2≤1; decide),fun g=>absurd g (by show ¬ 2=0; decide),fun g=>absurd g (by show ¬ 2=1; decide),h.seen,h.has,h.pos⟩
   | true =>
    have hy':¬ f.y=false:=by rw [hy]; decide
    by_cases hall:(L.hs ++ [f]).length=zs.length
    ·rw [lhear_all hq hy' hk hall]
     have e2:(noteP P f).ans=2 ^ zs.length - 1:=by rw [hans]; exact (all_iff _ _).1 (hcnt.symm.trans hall)
     have e:takenP zs P f=preP (noteP P f) 4:=by unfold takenP; rw [if_pos hk]; unfold voteP; rw [if_neg hy',if_pos e2]
     rw [e,hsl]
     refine ⟨rfl,hpn.pre 4,rfl,by show 1<4; decide,rfl,fun x hx=>(by cases hx),fun _=>?_,fun _=>?_,fun g=>absurd g (by show ¬ 1=0; decide),fun _=>rfl,h.seen,h.has,h.pos⟩
     ·show 0=cntTo [] zs.length
      exact (cntTo_nil _).symm
     ·show (0:Int)=setTo [] zs.length
      exact (setTo_nil _).symm
    ·rw [lhear_some hq hy' hk hall]
     have e2:¬ (noteP P f).ans=2 ^ zs.length - 1:=by rw [hans]; exact fun g=>hall (hcnt.trans ((all_iff _ _).2 g))
     have e:takenP zs P f=(noteP P f,none):=by unfold takenP; rw [if_pos hk]; unfold voteP; rw [if_neg hy',if_neg e2]
     rw [e,hsl]
     exact ⟨rfl,hpn,h.stt,h.st4,h.wait,hsnd,fun _=>hcnt,fun _=>hans,fun _=>by rw [if_pos ha]; exact htold,fun g=>absurd (hs.symm.trans g) (by decide),h.seen,h.has,h.pos⟩
  ·have k2:¬ f.k=2:=by omega
   have hpr:=hp k2
   have hsl:seenL L f=(if P.seen<f.pr then f.pr else P.seen):=by
    unfold seenL
    rw [h.seen]
    by_cases g:L.seen<f.pr
    ·rw [if_pos ⟨k2,g⟩,if_pos g]
    ·rw [if_neg (fun x=>g x.2),if_neg g]
   obtain ⟨s1,s2,s3⟩:=see_seen (P:=noteP P f) h.has h.pos hpr
   obtain ⟨u1,u2,u3,u4⟩:=seeP_of (noteP P f) f.pr
   have hQw:=hpn.see f.pr
   have hseen:(seeP (noteP P f) f.pr).seen=seenL L f:=by rw [hsl]; exact s1
   have htold:=h.told hs
   rw [if_neg (show ¬ att=0 by omega)] at htold
   generalize hQe:seeP (noteP P f) f.pr=Q at *
   have hQa:Q.ans=setTo (L.hs ++ [f]) zs.length:=u2.trans hans
   have hQs:Q.stt=0:=u1.trans hs
   cases hy:f.y with
   | false =>
    rw [lhear_no hq hy k2]
    have e:takenP zs P f=({ Q with stt:=3 },none):=by unfold takenP; rw [if_neg k2,if_pos hy,hQe]
    rw [e]
    exact ⟨rfl,⟨hQw.len,hQw.lo,hQw.hi⟩,rfl,by show 3<4; decide,rfl,h.snd,fun g=>absurd g (by show ¬ 3≤1; decide),fun g=>absurd g (by show ¬ 3≤1; decide),fun g=>absurd g (by show ¬ 3=0; decide),fun g=>absurd g (by show ¬ 3=1; decide),hseen,s2,s3⟩
   | true =>
    have hy':¬ f.y=false:=by rw [hy]; decide
    have e:takenP zs P f=tellP zs Q m ⟨f.ph,f.pr,f.pa⟩:=by unfold takenP; rw [if_neg k2,if_neg hy',if_pos hk,hQe,htn]
    rw [e]
    have hTold:toldS Q.told m ⟨f.ph,f.pr,f.pa⟩=(List.range 7).map (tl (L.hs ++ [f])):=by
     rw [u3,show (noteP P f).told=P.told from rfl,htold]
     exact told_new hm hfn (by omega)
    have hCh:chooseL (toldS Q.told m ⟨f.ph,f.pr,f.pa⟩)=refL (toldTo (L.hs ++ [f]) zs.length):=by rw [hTold]; exact choose_told hn hsnd
    unfold tellP
    by_cases hen:enoughB zs (setTo (L.hs ++ [f]) zs.length)=false
    ·rw [if_pos (show enoughB zs Q.ans=false by rw [hQa]; exact hen),lhear_few hq hy' k2 hen]
     refine ⟨rfl,hQw.tell m _,u1.trans h.stt,by show Q.stt<4; omega,?_,hsnd,fun _=>hcnt,fun _=>hQa,fun _=>?_,fun g=>absurd (hQs.symm.trans g) (by decide),hseen,s2,s3⟩
     ·show L.wait=if Q.stt=0 then _ else _
      rw [hQs,h.wait,hs]
     ·show toldS Q.told m ⟨f.ph,f.pr,f.pa⟩=_
      rw [if_neg (show ¬ att=0 by omega)]; exact hTold
    ·rw [if_neg (show ¬ enoughB zs Q.ans=false by rw [hQa]; exact hen),hCh]
     cases hc:refL (toldTo (L.hs ++ [f]) zs.length) with
     | mk cp cf =>
      cases cf with
      | true =>
       rw [if_pos rfl,lhear_fin hq hy' k2 hen (by omega) hc]
       exact ⟨rfl,(hQw.tell m _).dec cp,rfl,by show 2<4; decide,rfl,hsnd,fun g=>absurd g (by show ¬ 2≤1; decide),fun g=>absurd g (by show ¬ 2≤1; decide),fun g=>absurd g (by show ¬ 2=0; decide),fun g=>absurd g (by show ¬ 2=1; decide),hseen,s2,s3⟩
      | false =>
       rw [if_neg (by simp),lhear_pre hq hy' k2 hen (by omega) hc]
       refine ⟨rfl,(hQw.tell m _).pre cp,rfl,by show 1<4; decide,rfl,fun x hx=>(by cases hx),fun _=>?_,fun _=>?_,fun g=>absurd g (by show ¬ 1=0; decide),fun _=>rfl,hseen,s2,s3⟩
       ·show 0=cntTo [] zs.length
        exact (cntTo_nil _).symm
       ·show (0:Int)=setTo [] zs.length
        exact (setTo_nil _).symm
  ·have k2:¬ f.k=2:=by omega
   have k4:¬ f.k=4:=by omega
   have hpr:=hp k2
   have hsl:seenL L f=(if P.seen<f.pr then f.pr else P.seen):=by
    unfold seenL
    rw [h.seen]
    by_cases g:L.seen<f.pr
    ·rw [if_pos ⟨k2,g⟩,if_pos g]
    ·rw [if_neg (fun x=>g x.2),if_neg g]
   obtain ⟨s1,s2,s3⟩:=see_seen (P:=noteP P f) h.has h.pos hpr
   obtain ⟨u1,u2,u3,u4⟩:=seeP_of (noteP P f) f.pr
   have hQw:=hpn.see f.pr
   have hseen:(seeP (noteP P f) f.pr).seen=seenL L f:=by rw [hsl]; exact s1
   have hprep:=h.prep hs
   generalize hQe:seeP (noteP P f) f.pr=Q at *
   have hQa:Q.ans=setTo (L.hs ++ [f]) zs.length:=u2.trans hans
   have hQs:Q.stt=1:=u1.trans hs
   have hQp:Q.prep=L.ph:=u4.trans hprep
   cases hy:f.y with
   | false =>
    rw [lhear_no hq hy k2]
    have e:takenP zs P f=({ Q with stt:=3 },none):=by unfold takenP; rw [if_neg k2,if_pos hy,hQe]
    rw [e]
    exact ⟨rfl,⟨hQw.len,hQw.lo,hQw.hi⟩,rfl,by show 3<4; decide,rfl,h.snd,fun g=>absurd g (by show ¬ 3≤1; decide),fun g=>absurd g (by show ¬ 3≤1; decide),fun g=>absurd g (by show ¬ 3=0; decide),fun g=>absurd g (by show ¬ 3=1; decide),hseen,s2,s3⟩
   | true =>
    have hy':¬ f.y=false:=by rw [hy]; decide
    have e:takenP zs P f=ackP zs Q:=by unfold takenP; rw [if_neg k2,if_neg hy',if_neg k4,hQe]
    rw [e]
    unfold ackP
    by_cases hen:enoughB zs (setTo (L.hs ++ [f]) zs.length)=false
    ·rw [if_pos (show enoughB zs Q.ans=false by rw [hQa]; exact hen),lhear_few hq hy' k2 hen]
     refine ⟨rfl,hQw,u1.trans h.stt,by show Q.stt<4; omega,?_,hsnd,fun _=>hcnt,fun _=>hQa,fun g=>absurd (hQs.symm.trans g) (by decide),fun _=>hQp,hseen,s2,s3⟩
     show L.wait=if Q.stt=0 then _ else _
     rw [hQs,h.wait,hs]
    ·rw [if_neg (show ¬ enoughB zs Q.ans=false by rw [hQa]; exact hen),lhear_ack hq hy' k2 hen hk]
     exact ⟨by show some (7,afterI Q.prep)=_; rw [hQp],hQw.dec _,rfl,by show 2<4; decide,rfl,hsnd,fun g=>absurd g (by show ¬ 2≤1; decide),fun g=>absurd g (by show ¬ 2≤1; decide),fun g=>absurd g (by show ¬ 2=0; decide),fun g=>absurd g (by show ¬ 2=1; decide),hseen,s2,s3⟩
 ·have hq:¬ (forL zs.length id deal att L f∧(fromL L.hs f.f).isSome=false):=fun g=>ht ((h.takes h0).2 g)
  rw [lhear_pass hq]
  have hph:phear zs id deal att P f=(P,none):=by unfold phear; rw [if_neg ht]
  rw [hph]
  exact ⟨rfl,h⟩
end
theorem rheld_is (B:ByteArray) (k n h1 h2 h3:Nat) (z:Int) (w:World) (hz:z=(k:Int)) (hB:B.size≤1000) (hk:18 * (k+1)≤B.size) (h:heldL k (slotL B.data.toList k)=(n,⟨h1,h2,h3⟩)) :
  Calls Tryz.prog 214 #[.string B,.int .i64 z] w fun e w'=>e=.returned (.tuple #[.int .i64 (n:Int),.agg #[.int .i64 (h1:Int),.int .i64 (h2:Int),.int .i64 (h3:Int)]])∧Below w.heap.size w w':=by
 subst hz
 have:=rheld_any B k w hB hk
 rw [h] at this
 exact this
theorem rdeal_any (B:ByteArray) (d n h1 h2 h3:Nat) (w:World) (hB:B.size≤1000) (hd:36 * (d+1)≤B.size) (h:dealL B.data.toList d=(n,⟨h1,h2,h3⟩)) :
  Calls Tryz.prog 142 #[.string B,.int .i64 (d:Int)] w fun e w'=>e=.returned (.tuple #[.int .i64 (n:Int),.agg #[.int .i64 (h1:Int),.int .i64 (h2:Int),.int .i64 (h3:Int)]])∧Below w.heap.size w w':=by
 obtain ⟨⟨n1,a1,a2,a3⟩,HA⟩:∃ x,Hid (heldL (2 * d) (slotL B.data.toList (2 * d))=x):=⟨_,rfl⟩
 obtain ⟨⟨n2,b1,b2,b3⟩,HBb⟩:∃ x,Hid (heldL (2 * d+1) (slotL B.data.toList (2 * d+1))=x):=⟨_,rfl⟩
 have HD:Hid ((if n1<n2 then (n2,(⟨b1,b2,b3⟩:St)) else (n1,⟨a1,a2,a3⟩))=(n,⟨h1,h2,h3⟩)):=by unfold Hid; rw [← h]; unfold dealL; rw [HA.out,HBb.out]
 have Z1:Hid ((2 * (d:Int))=((2 * d:Nat):Int)):=by unfold Hid; omega
 have Z2:Hid ((2 * (d:Int)+1)=((2 * d+1:Nat):Int)):=by unfold Hid; omega
 clear h
 obtain ⟨X0,HX0⟩:∃ X,Hid (w.alloc (.cells #[.int .i64 0,.int .i64 0,.int .i64 0] 127)=X):=⟨_,rfl⟩
 have hX0:=HX0.out
 have R0:Hid (X0.heap[w.heap.size]? = some (.cells #[.int .i64 0,.int .i64 0,.int .i64 0] 127 (0,0))):=by rw [← HX0.out]; exact heap_alloc_new w _
 have HB0:Hid (Below w.heap.size w X0):=by rw [← HX0.out]; exact (Below.refl _ _).alloc (Nat.le_refl _) _
 go_enter Tryz.func142,Tryz.ntmps142
 go_wp2_with fail
 refine (rheld_is B (2 * d) n1 a1 a2 a3 _ _ Z1.out hB (by omega) HA.out).mono ?_
 rintro e w1 ⟨rfl,hb1⟩
 have R1:=hid ((hb1.block _ (row_ltJ R0.out)).trans R0.out)
 have HB1:=hid (HB0.out.trans (hb1.mono HB0.out.size))
 clear hb1
 obtain ⟨X1,HX1⟩:∃ X,Hid (w1.alloc (.cells #[.int .i64 (a1:Int),.int .i64 (a2:Int),.int .i64 (a3:Int)] 127)=X):=⟨_,rfl⟩
 obtain ⟨g1,Hg1⟩:∃ n,Hid (w1.heap.size=n):=⟨_,rfl⟩
 have hX1:=HX1.out
 have hg1:=Hg1.out
 have S1:Hid (X1.heap[g1]? = some (.cells #[.int .i64 (a1:Int),.int .i64 (a2:Int),.int .i64 (a3:Int)] 127 (0,0))):=by rw [← HX1.out,← Hg1.out]; exact heap_alloc_new w1 _
 have R1b:Hid (X1.heap[w.heap.size]? = some (.cells #[.int .i64 0,.int .i64 0,.int .i64 0] 127 (0,0))):=by rw [← HX1.out]; exact (Below.heap_alloc w1 _ _ (row_ltJ R1.out)).trans R1.out
 have HB1b:Hid (Below w.heap.size w X1):=by rw [← HX1.out]; exact HB1.out.alloc HB1.out.size _
 go_wp2_with fail
 refine (rheld_is B (2 * d+1) n2 b1 b2 b3 _ _ Z2.out hB (by omega) HBb.out).mono ?_
 rintro e w2 ⟨rfl,hb2⟩
 have R2:=hid ((hb2.block _ (row_ltJ R1b.out)).trans R1b.out)
 have S2:=hid ((hb2.block _ (row_ltJ S1.out)).trans S1.out)
 have HB2:=hid (HB1b.out.trans (hb2.mono HB1b.out.size))
 clear hb2
 obtain ⟨X2,HX2⟩:∃ X,Hid (w2.alloc (.cells #[.int .i64 (b1:Int),.int .i64 (b2:Int),.int .i64 (b3:Int)] 127)=X):=⟨_,rfl⟩
 obtain ⟨g2,Hg2⟩:∃ n,Hid (w2.heap.size=n):=⟨_,rfl⟩
 have hX2:=HX2.out
 have hg2:=Hg2.out
 have S3:Hid (X2.heap[g2]? = some (.cells #[.int .i64 (b1:Int),.int .i64 (b2:Int),.int .i64 (b3:Int)] 127 (0,0))):=by rw [← HX2.out,← Hg2.out]; exact heap_alloc_new w2 _
 have S2b:Hid (X2.heap[g1]? = some (.cells #[.int .i64 (a1:Int),.int .i64 (a2:Int),.int .i64 (a3:Int)] 127 (0,0))):=by rw [← HX2.out]; exact (Below.heap_alloc w2 _ _ (row_ltJ S2.out)).trans S2.out
 have R2b:Hid (X2.heap[w.heap.size]? = some (.cells #[.int .i64 0,.int .i64 0,.int .i64 0] 127 (0,0))):=by rw [← HX2.out]; exact (Below.heap_alloc w2 _ _ (row_ltJ R2.out)).trans R2.out
 have HB2b:Hid (Below w.heap.size w X2):=by rw [← HX2.out]; exact HB2.out.alloc HB2.out.size _
 have v0:X2.cell? ⟨w.heap.size,0,none⟩=some (.int .i64 0):=by rw [cell_of_row _ _ _ _ _ _ R2b.out]; rfl
 have v1:X2.cell? ⟨w.heap.size,1,none⟩=some (.int .i64 0):=by rw [cell_of_row _ _ _ _ _ _ R2b.out]; rfl
 have v2:X2.cell? ⟨w.heap.size,2,none⟩=some (.int .i64 0):=by rw [cell_of_row _ _ _ _ _ _ R2b.out]; rfl
 have f0:=frozen_of_row X2 w.heap.size 0 _ _ R2b.out
 have f1:=frozen_of_row X2 w.heap.size 1 _ _ R2b.out
 have f2:=frozen_of_row X2 w.heap.size 2 _ _ R2b.out
 have c0:X2.cell? ⟨g1,0,none⟩=some (.int .i64 (a1:Int)):=by rw [cell_of_row _ _ _ _ _ _ S2b.out]; rfl
 have c1:X2.cell? ⟨g1,1,none⟩=some (.int .i64 (a2:Int)):=by rw [cell_of_row _ _ _ _ _ _ S2b.out]; rfl
 have c2:X2.cell? ⟨g1,2,none⟩=some (.int .i64 (a3:Int)):=by rw [cell_of_row _ _ _ _ _ _ S2b.out]; rfl
 have e0:X2.cell? ⟨g2,0,none⟩=some (.int .i64 (b1:Int)):=by rw [cell_of_row _ _ _ _ _ _ S3.out]; rfl
 have e1:X2.cell? ⟨g2,1,none⟩=some (.int .i64 (b2:Int)):=by rw [cell_of_row _ _ _ _ _ _ S3.out]; rfl
 have e2:X2.cell? ⟨g2,2,none⟩=some (.int .i64 (b3:Int)):=by rw [cell_of_row _ _ _ _ _ _ S3.out]; rfl
 have hdd:=HD.out
 by_cases hc:n1<n2
 ·rw [if_pos hc] at hdd
  obtain ⟨rfl,rfl,rfl,rfl⟩:n2=n∧b1=h1∧b2=h2∧b3=h3:=by simpa using hdd
  clear hdd
  go_wp2_with fail
  go_region
  all_goals go_wp2_with fail
  refine bodyPost_ret (results_row3 rfl _ _ w.heap.size 127 _ (0,0) _ rfl (set3R R2b.out _ _ _) Tryz.underlying127 rfl sizeStR) rfl ?_
  exact ⟨rfl,(((HB2b.out.setCell (Nat.le_refl _) _).setCell (Nat.le_refl _) _).setCell (Nat.le_refl _) _).drew⟩
 ·rw [if_neg hc] at hdd
  obtain ⟨rfl,rfl,rfl,rfl⟩:n1=n∧a1=h1∧a2=h2∧a3=h3:=by simpa using hdd
  clear hdd
  go_wp2_with fail
  go_region
  all_goals go_wp2_with fail
  refine bodyPost_ret (results_row3 rfl _ _ w.heap.size 127 _ (0,0) _ rfl (set3R R2b.out _ _ _) Tryz.underlying127 rfl sizeStR) rfl ?_
  exact ⟨rfl,(((HB2b.out.setCell (Nat.le_refl _) _).setCell (Nat.le_refl _) _).setCell (Nat.le_refl _) _).drew⟩
end Go.Proofs.YtjcflddbaeiajacGreatDoor
namespace Go.Proofs.YtjcflddbaeiajacGreatDoor
open Go.RowKit
def numsTo (E:Nat→Nat×St) (k:Nat):List Value:=(List.range k).map fun d=>.int .i64 ((E d).1:Int)
def statesTo (E:Nat→Nat×St) (k:Nat):List Value:=(List.range k).flatMap fun d=>[.int .i64 ((E d).2.ph:Int),.int .i64 ((E d).2.pr:Int),.int .i64 ((E d).2.at_:Int)]
theorem numsTo_succ (E:Nat→Nat×St) (k:Nat):numsTo E (k+1)=numsTo E k ++ [.int .i64 ((E k).1:Int)]:=by simp [numsTo,List.range_succ]
theorem statesTo_succ (E:Nat→Nat×St) (k:Nat):statesTo E (k+1)=statesTo E k ++ [.int .i64 ((E k).2.ph:Int),.int .i64 ((E k).2.pr:Int),.int .i64 ((E k).2.at_:Int)]:=by simp [statesTo,List.range_succ]
structure OpS (w0 w:World) (m r:Nat) (E:Nat→Nat×St) (vN vS:Value) (k1 k2:Nat):Prop where
 row:w.heap[m]? = some (.cells #[.pointer (some ⟨r,0,none⟩),vN,vS,.bool false] 203 (0,0))
 nN:w.ownsRow (m+1) 3 1 vN k1 (numsTo E k1)
 nS:w.ownsRow (m+1) 127 3 vS k2 (statesTo E k2)
 ne:∀ b,vN.ownBlock=some b→vS.ownBlock≠some b
 bel:Below m w0 w
section
variable {w0 w W w':World} {m r:Nat} {E:Nat→Nat×St} {vN vS:Value} {k1 k2:Nat}
theorem OpS.mlt (h:OpS w0 w m r E vN vS k1 k2):m<w.heap.size:=row_ltJ h.row
theorem OpS.later (h:OpS w0 w m r E vN vS k1 k2) (hb:Below w.heap.size w w'):OpS w0 w' m r E vN vS k1 k2 :=
 ⟨(hb.block _ h.mlt).trans h.row,own_later h.nN hb (Nat.le_refl _),own_later h.nS hb (Nat.le_refl _),h.ne,h.bel.trans (hb.mono (Nat.le_of_lt h.mlt))⟩
theorem own_setOther {e:TypeId} {size n base:Nat} {v:Value} {xs:List Value} (h:w.ownsRow base e size v n xs) (hm:m<base) (i:Nat) (x:Value):(w.setCell ⟨m,i,none⟩ x).ownsRow base e size v n xs:=by
 refine ⟨h.1,?_⟩
 rcases h.2 with hn|⟨g,cap,cur,rfl,hb',hgg,rest⟩
 ·exact .inl hn
 ·exact .inr ⟨g,cap,cur,rfl,hb',(Below.heap_setCell _ _ _ _ (by show g≠m; omega)).trans hgg,rest⟩
theorem grown_row {row:Option Nat} (hg:W.grownBy w' row) {b:Nat} {o:Obj} (h:W.heap[b]? = some o) (hne:some b≠row):w'.heap[b]? = some o:=(hg.block b (row_ltJ h) hne).trans h
theorem OpS.pushN {g n cap H:Nat} (h:OpS w0 w m r E vN vS k1 k2) (hb:Below w.heap.size w W) (hg:W.grownBy w' vN.ownBlock) (hown:w'.ownsRow (m+1) 3 1 (.slice (some ⟨g,0,none⟩) n cap) (k1+1) (numsTo E (k1+1)))
  (hat:vN.ownBlock=some g ∨ g=H) (hH:w.heap.size≤H):OpS w0 (w'.setCell ⟨m,1,none⟩ (.slice (some ⟨g,0,none⟩) n cap)) m r E (.slice (some ⟨g,0,none⟩) n cap) vS (k1+1) k2:=by
 have hW:=h.later hb
 have hmn:some m≠vN.ownBlock:=fun e=>by have:=(h.nN.lt m e.symm).1; omega
 have hr:=grown_row hg hW.row hmn
 refine ⟨heap_setCell_same w' m 1 _ _ _ hr,own_setOther hown (by omega) _ _,own_setOther (hW.nS.kept hg ?_) (by omega) _ _,?_,?_⟩
 ·cases hs:vS.ownBlock with
  | none=>exact .inl rfl
  | some b=>exact .inr fun e=>(h.ne b e.symm) hs
 ·intro b hb' hs
  have hbg:b=g:=by simpa [Value.ownBlock] using hb'.symm
  subst hbg
  rcases hat with e|e
  ·exact h.ne _ e hs
  ·have:=(h.nS.lt _ hs).2; omega
 ·refine (Below.grown hW.bel hg (Nat.le_of_lt hW.mlt) ?_).setCell (Nat.le_refl _) _
  intro j hj
  have:=(h.nN.lt j hj).1
  omega
theorem OpS.pushS {g n cap H:Nat} (h:OpS w0 w m r E vN vS k1 k2) (hb:Below w.heap.size w W) (hg:W.grownBy w' vS.ownBlock) (hown:w'.ownsRow (m+1) 127 3 (.slice (some ⟨g,0,none⟩) n cap) (k2+1) (statesTo E (k2+1)))
  (hat:vS.ownBlock=some g ∨ g=H) (hH:w.heap.size≤H):OpS w0 (w'.setCell ⟨m,2,none⟩ (.slice (some ⟨g,0,none⟩) n cap)) m r E vN (.slice (some ⟨g,0,none⟩) n cap) k1 (k2+1):=by
 have hW:=h.later hb
 have hmn:some m≠vS.ownBlock:=fun e=>by have:=(h.nS.lt m e.symm).1; omega
 have hr:=grown_row hg hW.row hmn
 refine ⟨heap_setCell_same w' m 2 _ _ _ hr,own_setOther (hW.nN.kept hg ?_) (by omega) _ _,own_setOther hown (by omega) _ _,?_,?_⟩
 ·cases hs:vN.ownBlock with
  | none=>exact .inl rfl
  | some b=>exact .inr fun e=>h.ne b hs e.symm
 ·intro b hb' hs
  have hbg:b=g:=by simpa [Value.ownBlock] using hs.symm
  subst hbg
  rcases hat with e|e
  ·exact h.ne _ hb' e
  ·have:=(h.nN.lt _ hb').2; omega
 ·refine (Below.grown hW.bel hg (Nat.le_of_lt hW.mlt) ?_).setCell (Nat.le_refl _) _
  intro j hj
  have:=(h.nS.lt j hj).1
  omega
end
structure RJ (w:World) (m gn gs r:Nat) (E:Nat→Nat×St) (dead:Bool):Prop where
 row:∃ cn cs,w.heap[m]? = some (.cells #[.pointer (some ⟨r,0,none⟩),.slice (some ⟨gn,0,none⟩) 6 cn,.slice (some ⟨gs,0,none⟩) 6 cs,.bool dead] 203 (0,0))
 nums:∃ N,w.heap[gn]? = some (.cells N 3 (0,0))∧∀ d,d<6→N[d]? = some (.int .i64 ((E d).1:Int))
 sts:∃ S,w.heap[gs]? = some (.cells S 127 (0,0))∧∀ d,d<6→S[d * 3]? = some (.int .i64 ((E d).2.ph:Int))∧S[d * 3+1]? = some (.int .i64 ((E d).2.pr:Int))∧S[d * 3+2]? = some (.int .i64 ((E d).2.at_:Int))
 mn:m≠gn
 ms:m≠gs
 ns:gn≠gs
theorem OpS.done {w0 w:World} {m r:Nat} {E:Nat→Nat×St} {vN vS:Value} (h:OpS w0 w m r E vN vS 6 6):∃ gn gs,RJ w m gn gs r E false∧m<gn∧m<gs:=by
 obtain ⟨row,nN,nS,ne,bel⟩:=h
 have hN:=nN
 have hS:=nS
 rcases nN.2 with ⟨_,h0⟩|⟨gn,cn,N,rfl,b1,hN1,-,-,-,htN⟩
 ·omega
 rcases nS.2 with ⟨_,h0⟩|⟨gs,cs,S,rfl,b2,hS1,-,-,-,htS⟩
 ·omega
 refine ⟨gn,gs,⟨⟨cn,cs,row⟩,⟨N,hN1,?_⟩,⟨S,hS1,?_⟩,by omega,by omega,?_⟩,by omega,by omega⟩
 ·intro d hd
  have:=hN.cellAt d (by omega)
  rw [cell_of_row _ _ _ _ _ _ hN1] at this
  rw [this]
  rcases six hd with rfl|rfl|rfl|rfl|rfl|rfl <;> rfl
 ·intro d hd
  have c0:=hS.cellAt (d * 3) (by omega)
  have c1:=hS.cellAt (d * 3+1) (by omega)
  have c2:=hS.cellAt (d * 3+2) (by omega)
  rw [cell_of_row _ _ _ _ _ _ hS1] at c0 c1 c2
  rw [c0,c1,c2]
  rcases six hd with rfl|rfl|rfl|rfl|rfl|rfl <;> exact ⟨rfl,rfl,rfl⟩
 ·intro e
  subst e
  exact ne gn rfl rfl
end Go.Proofs.YtjcflddbaeiajacGreatDoor
namespace Go.Proofs.YtjcflddbaeiajacGreatDoor
open Go.RowKit
theorem Tryz.infoS:(Tryz.prog.info? 127).map (fun i=>(i.zero,i.size,i.bytes))=some (some (.agg #[.int .i64 0,.int .i64 0,.int .i64 0]),3,24):=by kernel_rfl
theorem ropen_any (r:Nat) (B:ByteArray) (off cuts:Bool) (l:Int) (w:World) (h:RP w r B off l cuts) (hB:B.size≤1000) (h6:216≤B.size) :
  Calls Tryz.prog 107 #[.pointer (some ⟨r,0,none⟩)] w fun e w'=>∃ m gn gs,e=.returned (.pointer (some ⟨m,0,none⟩))∧RJ w' m gn gs r (dealL B.data.toList) false∧Below w.heap.size w w'∧w.heap.size≤m∧w.heap.size≤gn∧w.heap.size≤gs:=by
 obtain ⟨i0,hi,hz0,hz1,hz2⟩:=info_parts Tryz.infoI
 obtain ⟨j0,hj,hy0,hy1,hy2⟩:=info_parts Tryz.infoS
 obtain ⟨E,HE⟩:∃ E,Hid (dealL B.data.toList=E):=⟨_,rfl⟩
 rw [HE.out]
 have H:=hid h
 have hrl:r<w.heap.size:=row_ltJ h
 clear h
 obtain ⟨W,HW⟩:∃ W,Hid (w.alloc (.cells #[.pointer (some ⟨r,0,none⟩),.slice none 0 0,.slice none 0 0,.bool false] 203)=W):=⟨_,rfl⟩
 have hW:=HW.out
 have H0:Hid (OpS w W w.heap.size r E (.slice none 0 0) (.slice none 0 0) 0 0):=by
  rw [← HW.out]
  exact ⟨heap_alloc_new w _,World.ownsRow_nil _ _ _ _,World.ownsRow_nil _ _ _ _,fun b hb=>by simp [Value.ownBlock] at hb,(Below.refl _ _).alloc (Nat.le_refl _) _⟩
 obtain ⟨m,Hm⟩:∃ m,Hid (w.heap.size=m):=⟨_,rfl⟩
 have hm:=Hm.out
 rw [hm] at H0
 go_enter Tryz.func107,Tryz.ntmps107
 go_wp2_with fail
 go_loopw [4] (fun i wr=>∃ k:Nat,∃ vN vS:Value,k≤6∧i=.int .i64 (k:Int)∧OpS w wr m r E vN vS k k) (fun i _=>6 - (intOf i).toNat)
 case atStart=>exact ⟨0,_,_,by omega,rfl,H0.out⟩
 case round =>
  obtain ⟨k,vN,vS,hk,rfl,hop⟩:=hrel
  have HO:=hid hop
  clear hop
  by_cases hlt:k<6
  ·have cr:wr.cell? ⟨r,0,none⟩=some (.string B):=(H.out.kept (S:=fun _=>False) (Kept.of_below (by rw [Hm.out]; exact HO.out.bel)) (fun x=>x)).c0
   obtain ⟨⟨n,h1,h2,h3⟩,HD⟩:∃ x,Hid (E k=x):=⟨_,rfl⟩
   have HD2:Hid (dealL B.data.toList k=(n,⟨h1,h2,h3⟩)):=by rw [HE.out]; exact HD.out
   go_wp2_with fail
   refine (rdeal_any B k n h1 h2 h3 wr hB (by omega) HD2.out).mono ?_
   rintro e w1 ⟨rfl,hb1⟩
   obtain ⟨X1,HX1⟩:∃ X,Hid (w1.alloc (.cells #[.int .i64 (h1:Int),.int .i64 (h2:Int),.int .i64 (h3:Int)] 127)=X):=⟨_,rfl⟩
   obtain ⟨sb,Hsb⟩:∃ n,Hid (w1.heap.size=n):=⟨_,rfl⟩
   have hsb:=Hsb.out
   have HB1:Hid (Below wr.heap.size wr X1):=by rw [← HX1.out]; exact hb1.alloc hb1.size _
   have HS1:Hid (X1.heap[sb]? = some (.cells #[.int .i64 (h1:Int),.int .i64 (h2:Int),.int .i64 (h3:Int)] 127 (0,0))):=by rw [← HX1.out,← Hsb.out]; exact heap_alloc_new w1 _
   have HO1:=hid (HO.out.later HB1.out)
   have HOw:=hid (HO.out.later hb1)
   have mlt:m<sb:=by have h1:=HO.out.mlt; have h2:=hb1.size; have h3:=Hsb.out; omega
   have cN:w1.cell? ⟨m,1,none⟩=some vN:=by rw [cell_of_row _ _ _ _ _ _ HOw.out.row]; rfl
   have HNS:Hid (numsTo E (k+1)=numsTo E k ++ [.int .i64 (n:Int)]):=by unfold Hid; rw [numsTo_succ,HD.out]
   have HSS:Hid (statesTo E (k+1)=statesTo E k ++ [.int .i64 (h1:Int),.int .i64 (h2:Int),.int .i64 (h3:Int)]):=by unfold Hid; rw [statesTo_succ,HD.out]
   have HWr:Hid (wr.heap.size≤w1.heap.size):=hb1.size
   have HO1r:Hid (((w1.alloc (.cells #[.int .i64 (h1:Int),.int .i64 (h2:Int),.int .i64 (h3:Int)] 127)).alloc (.cells #[.int .i64 (n:Int)] 3)).heap[m]? = some (.cells #[.pointer (some ⟨r,0,none⟩),vN,vS,.bool false] 203 (0,0))):=by
    rw [HX1.out]; exact (Below.heap_alloc _ _ _ HO1.out.mlt).trans HO1.out.row
   clear hb1 cr
   go_wp2_with (at_builtin; refine wpList_append_lies _ rfl (.tmp 27) (.tmp 29) 22 rfl (m+1) 3 i0 (.int .i64 0) 1 8 Tryz.underlying22 hi hz0 hz1 hz2 rfl (by decide) vN k (numsTo E k) rfl (by exact World.ownsRow.alloc (World.ownsRow.alloc HOw.out.nN _) _) ⟨sb+1,0,none⟩ 1 1 [.int .i64 (n:Int)] rfl rfl ?d3 ?d4 (by decide) ?d5 ?d6 ?d7 (sb+2) ?d8 ?_)
   case d3 =>
    have e:((w1.alloc (.cells #[.int .i64 (h1:Int),.int .i64 (h2:Int),.int .i64 (h3:Int)] 127)).heap.size)=sb+1:=by rw [← Hsb.out]; simp
    rw [← e]
    exact lit_cells _ _ _
   case d4=>intro u hu; simp at hu; subst hu; rfl
   case d5=>unfold maxLen; omega
   case d6=>omega
   case d7=>simp; omega
   case d8=>simp; omega
   intro g3 c3 w3 hown3 hg3 hat3 hlt3
   have HX2:Hid (Below wr.heap.size wr ((w1.alloc (.cells #[.int .i64 (h1:Int),.int .i64 (h2:Int),.int .i64 (h3:Int)] 127)).alloc (.cells #[.int .i64 (n:Int)] 3))):=by
    rw [HX1.out]; exact HB1.out.alloc HB1.out.size _
   have HP:=hid (HO.out.pushN HX2.out hg3 (by rw [HNS.out]; exact hown3) hat3 (by have h1:=HWr.out; have h3:=Hsb.out; omega))
   have HS3:Hid (w3.heap[sb]? = some (.cells #[.int .i64 (h1:Int),.int .i64 (h2:Int),.int .i64 (h3:Int)] 127 (0,0))):=by
    refine grown_row hg3 (b:=sb) ?_ ?_
    ·rw [HX1.out]; exact (Below.heap_alloc _ _ _ (row_ltJ HS1.out)).trans HS1.out
    ·intro e
     have h1:=(HO.out.nN.lt sb e.symm).2
     have h2:=HOw.out.bel.size
     have h3:=HB1.out.size
     have h4:=Hsb.out
     have h5:=HWr.out
     omega
   have hr3:=grown_row hg3 (b:=m) (HO1r.out) (fun e=>by have:=(HO.out.nN.lt m e.symm).1; omega)
   have x1:w3.cell? ⟨m,1,none⟩=some vN:=by rw [cell_of_row _ _ _ _ _ _ hr3]; rfl
   have y1:=frozen_of_row w3 m 1 _ _ hr3
   clear hown3 hg3 hat3
   obtain ⟨X3,HX3⟩:∃ X,Hid (w3.setCell ⟨m,1,none⟩ (.slice (some ⟨g3,0,none⟩) (k+1) c3)=X):=⟨_,rfl⟩
   rw [HX3.out] at HP
   have HS4:Hid (X3.heap[sb]? = some (.cells #[.int .i64 (h1:Int),.int .i64 (h2:Int),.int .i64 (h3:Int)] 127 (0,0))):=by
    rw [← HX3.out]; exact (Below.heap_setCell _ _ _ _ (by show sb≠m; omega)).trans HS3.out
   go_wp2_with fail
   rw [HX3.out]
   clear x1 y1 cN
   have x2:X3.cell? ⟨m,2,none⟩=some vS:=by rw [cell_of_row _ _ _ _ _ _ HP.out.row]; rfl
   have s0:X3.cell? ⟨sb,0,none⟩=some (.int .i64 (h1:Int)):=by rw [cell_of_row _ _ _ _ _ _ HS4.out]; rfl
   have s1:X3.cell? ⟨sb,1,none⟩=some (.int .i64 (h2:Int)):=by rw [cell_of_row _ _ _ _ _ _ HS4.out]; rfl
   have s2:X3.cell? ⟨sb,2,none⟩=some (.int .i64 (h3:Int)):=by rw [cell_of_row _ _ _ _ _ _ HS4.out]; rfl
   have mx3:=HP.out.mlt
   have HNM:Hid (some m≠vS.ownBlock):=fun e=>by have:=(HO.out.nS.lt m e.symm).1; omega
   have HNB:Hid (some sb≠vS.ownBlock):=fun e=>by have h1:=(HO.out.nS.lt sb e.symm).2; have h2:=HWr.out; have h3:=Hsb.out; omega
   have HBX:Hid (Below X3.heap.size X3 (X3.alloc (.cells #[.int .i64 (h1:Int),.int .i64 (h2:Int),.int .i64 (h3:Int)] 127)).drew):=((Below.refl _ _).alloc (Nat.le_refl _) _).drew
   go_region_law ((refine step_append_lies _ (by rfl) _ _ _ (by rfl) (m+1) 127 j0 (.agg #[.int .i64 0,.int .i64 0,.int .i64 0]) 3 24 Tryz.underlying201 hj hy0 hy1 hy2 (by rfl) (by decide) vS k (statesTo E k) (by rfl) (by exact World.ownsRow.alloc HP.out.nS _) ⟨X3.heap.size,0,none⟩ 1 1 [.int .i64 (h1:Int),.int .i64 (h2:Int),.int .i64 (h3:Int)] (by rfl) (by rfl) (by exact lit_cells X3 _ _) (by intro u hu; simp at hu; rcases hu with rfl|rfl|rfl <;> rfl) (by decide) (by unfold maxLen; omega) (by omega) (by exact Nat.le_trans mx3 (by simp)) (X3.heap.size+1) (by simp) ?_; intro g5 c5 w5 hown5 hg5 hat5 hlt5; have HQ5:=hid (HP.out.pushS HBX.out hg5 (by rw [HSS.out]; exact hown5) hat5 (by omega)); have hr5:=grown_row hg5 (b:=m) (show (X3.alloc (.cells #[.int .i64 (h1:Int),.int .i64 (h2:Int),.int .i64 (h3:Int)] 127)).drew.heap[m]? = _ from (Below.heap_alloc X3 _ _ mx3).trans HP.out.row) HNM.out; have hs5:=grown_row hg5 (b:=sb) (show (X3.alloc (.cells #[.int .i64 (h1:Int),.int .i64 (h2:Int),.int .i64 (h3:Int)] 127)).drew.heap[sb]? = _ from (Below.heap_alloc X3 _ _ (row_ltJ HS4.out)).trans HS4.out) HNB.out; have x2':w5.cell? ⟨m,2,none⟩=some vS:=(by rw [cell_of_row _ _ _ _ _ _ hr5]; rfl); have y2':=frozen_of_row w5 m 2 _ _ hr5; have s0':w5.cell? ⟨sb,0,none⟩=some (.int .i64 (h1:Int)):=(by rw [cell_of_row _ _ _ _ _ _ hs5]; rfl); have s1':w5.cell? ⟨sb,1,none⟩=some (.int .i64 (h2:Int)):=(by rw [cell_of_row _ _ _ _ _ _ hs5]; rfl); have s2':w5.cell? ⟨sb,2,none⟩=some (.int .i64 (h3:Int)):=(by rw [cell_of_row _ _ _ _ _ _ hs5]; rfl); clear hr5 hs5 hown5 hg5 hat5 hlt5))
   all_goals go_wp2_with fail
   all_goals go_roundw
   case rel=>exact ⟨k+1,_,_,by omega,by go_num,by first|exact HQ5.out|exact HQ5.out.later (Below.refl _ _).drew⟩
   case measure=>simp [intOf]; omega
   all_goals first|exact ⟨k+1,_,_,by omega,by go_num,by first|exact HQ5.out|exact HQ5.out.later (Below.refl _ _).drew⟩|(simp [intOf]; omega)
  ·obtain rfl:k=6:=by omega
   obtain ⟨gn,gs,hj,b1,b2⟩:=HO.out.done
   have HJ:=hid hj
   have HBl:=hid HO.out.bel
   clear hj
   go_wp2_with fail
   go_ret
   exact ⟨m,gn,gs,rfl,HJ.out,by have:=HBl.out; rw [← Hm.out] at this; exact this,by omega,by omega,by omega⟩
end Go.Proofs.YtjcflddbaeiajacGreatDoor
