/-
  On the way to PRunsProof: N3 N5 X6E X7.
-/
import Derived.Test.YtjcflddbaeiajacGreatDoorBt50
set_option maxHeartbeats 8000000
set_option maxRecDepth 100000
namespace Go.Proofs.YtjcflddbaeiajacGreatDoor
open Go.RowKit
structure RrI (w0 w wr:World) (C:Nat→Nat) (Y:YB) (aw:Option Addr) (cap:Nat) (zs vs:List Int) (V:PX) (m k:Nat) (u:Value) (C':Nat→Nat) (Y':YB):Prop where
 rw:RW w0 wr C' Y' aw cap zs (runX zs (vs.take k) V) (m+42 * k)
 ky:rkey Y'=rkey Y
 kept:Kept (OwnX C) w wr
 col:∀ x,x<w.heap.size→C' x=C x
 own:wr.ownsRow w.heap.size 3 1 u k ((runA zs (vs.take k) V).map (Value.int .i64))
 far:∀ g,u.ownBlock=some g→2000≤C' g
section
variable {w0 w wr:World} {C C':Nat→Nat} {Y Y':YB} {aw:Option Addr} {cap m k:Nat} {zs vs:List Int} {V:PX} {u:Value}
theorem rnew_far {w0 w1:World} {C1:Nat→Nat} {Y1:YB} {V1:PX} {m1:Nat} (h:RW w0 w1 C1 Y1 aw cap zs V1 m1):2000≤C1 w1.heap.size:=by
 rcases Nat.lt_or_ge (C1 w1.heap.size) 2000 with q|q
 ·have:=h.lt _ q; omega
 ·exact q
theorem RrI.answered {w1:World} (h:RrI w0 w wr C Y aw cap zs vs V m k u C' Y') (hk:k<vs.length) (ho:ROut w0 wr w1 C' Y' aw cap zs (numP zs (runX zs (vs.take k) V) (vs.getD k 0)).1 (m+42 * k+42)) :
  ∃ C1 Y1,RW w0 w1 C1 Y1 aw cap zs (runX zs (vs.take (k+1)) V) (m+42 * (k+1))∧rkey Y1=rkey Y∧Kept (OwnX C) w w1∧(∀ x,x<w.heap.size→C1 x=C x)∧w1.ownsRow w.heap.size 3 1 u k ((runA zs (vs.take k) V).map (Value.int .i64))∧(∀ g,u.ownBlock=some g→2000≤C1 g):=by
 obtain ⟨C1,Y1,g1,g2,g3,g4⟩:=ho
 rw [← runX_take zs hk,Nat.add_assoc,show 42 * k+42=42 * (k+1) by omega] at g1
 have hs:=h.kept.size
 refine ⟨C1,Y1,g1,g2.trans h.ky,?_,fun x hx=>(g4 x (by omega)).trans (h.col x hx),own_kept h.own g3 (fun g hg=>fun e=>by have:=h.far g hg; have:C' g<2000:=e; omega),fun g hg=>by rw [g4 g (own_lt h.own hg)]; exact h.far g hg⟩
 refine ⟨g3.os.trans h.kept.os,g3.tape.trans h.kept.tape,g3.output.trans h.kept.output,Nat.le_trans hs g3.size,fun y hy hn=>?_⟩
 refine (g3.block y (by omega) (fun e=>hn ?_)).trans (h.kept.block y hy hn)
 show C y<2000
 rw [← h.col y hy]; exact e
theorem RrI.appended {w1 W2 w3:World} {C1:Nat→Nat} {Y1:YB} {u':Value} (g1:RW w0 w1 C1 Y1 aw cap zs (runX zs (vs.take (k+1)) V) (m+42 * (k+1))) (g2:rkey Y1=rkey Y) (g3:Kept (OwnX C) w w1) (g4:∀ x,x<w.heap.size→C1 x=C x) (g5:w1.ownsRow w.heap.size 3 1 u k ((runA zs (vs.take k) V).map (Value.int .i64))) (g6:∀ g,u.ownBlock=some g→2000≤C1 g) (h0:w0.heap.size≤w.heap.size) (hk:k<vs.length)
  (hb:Below w1.heap.size w1 W2) (hown:w3.ownsRow w.heap.size 3 1 u' (k+1) ((runA zs (vs.take k) V).map (Value.int .i64) ++ [Value.int .i64 (numP zs (runX zs (vs.take k) V) (vs.getD k 0)).2])) (hg:W2.grownBy w3 u.ownBlock) (hat:u'.ownBlock=u.ownBlock ∨ u'.ownBlock=some W2.heap.size) :
  RrI w0 w w3 C Y aw cap zs vs V m (k+1) u' C1 Y1:=by
 have hlow:∀ x,u.ownBlock=some x→w.heap.size≤x:=fun x hx=>(g5.lt x hx).1
 have hW:=g1.later hb
 have hs1:=g3.size
 refine ⟨hW.far (grown_kept hg) g6 (fun x hx=>Nat.le_trans h0 (hlow x hx)),g2,(g3.past (Kept.of_below hb) (S:=OwnX C) (T:=fun _=>False) (fun _ h=>h.elim)).past (grown_kept hg) hlow,g4,?_,fun g hg'=>?_⟩
 ·rw [runA_take zs hk,List.map_append]; exact hown
 ·rcases hat with e|e
  ·rw [e] at hg'; exact g6 g hg'
  ·rw [e] at hg'
   obtain rfl:=Option.some.inj hg'
   exact rnew_far hW
theorem rrun_any (v:Value) (h:RW w0 w C Y aw cap zs V m) (hv:IsSl w0 v vs) (hl:vs.length≤3000) (hr:∀ x,x∈vs→x≤9223372036854775807) (hm:m+42 * vs.length<800000) :
  Calls Tryz.prog 29 #[.pointer (some ⟨Y.xb,0,none⟩),v] w fun e w'=>∃ u C' Y',e=.returned u∧RrI w0 w w' C Y aw cap zs vs V m vs.length u C' Y':=by
 have HR:=hid hr
 have h0:=h.bel.size
 have HI0:Hid (RrI w0 w w C Y aw cap zs vs V m 0 (.slice none 0 0) C Y):=⟨h,rfl,Kept.refl _ _,fun _ _=>rfl,World.ownsRow_nil _ _ _ _,(fun g hg=>by cases hg)⟩
 obtain ⟨ad,c,e,hcm,-,hcell⟩:=hv
 subst e
 obtain ⟨n,HN⟩:∃ n,Hid (vs.length=n):=⟨_,rfl⟩
 have HC:Hid (0<n→∃ b off,ad=some ⟨b,off,none⟩∧∀ i,i<n→w0.cell? ⟨b,off+i,none⟩=some (.int .i64 (vs.getD i 0))):=by rw [← HN.out]; exact hcell
 rw [HN.out] at hl hm ⊢
 clear h hr hcell hcm
 by_cases hn0:n=0
 ·subst hn0
  go_enter Tryz.func29,Tryz.ntmps29
  go_wp2_with fail
  go_loopw [5,6] (fun u v wr=>u=.slice none 0 0∧v=.int .i64 0∧wr=w) (fun _ _ _=>0)
  case atStart=>exact ⟨rfl,rfl,rfl⟩
  case round =>
   obtain ⟨rfl,rfl,hx⟩:=hrel
   subst hx
   go_wp2_with fail
   go_ret
   exact ⟨_,C,Y,rfl,HI0.out⟩
 ·obtain ⟨b,off,ea,hcc⟩:=HC.out (by omega)
  subst ea
  have HCC:=hid hcc
  clear hcc
  go_enter Tryz.func29,Tryz.ntmps29
  go_wp2_with fail
  go_loopw [5,6] (fun u v wr=>∃ (k:Nat) (C':Nat→Nat) (Y':YB),k≤n∧v=.int .i64 (k:Int)∧Hid (RrI w0 w wr C Y aw cap zs vs V m k u C' Y')) (fun _ v _=>n - (intOf v).toNat)
  case atStart=>exact ⟨0,C,Y,Nat.zero_le _,rfl,HI0.out⟩
  case round =>
   obtain ⟨k,C1,Y1,hk,rfl,HI⟩:=hrel
   obtain ⟨adu,capu,hu⟩:∃ ad cp,u5=Value.slice ad k cp:=by
    rcases HI.out.own.2 with ⟨e,hz⟩|⟨g',cap',cur',e,-⟩
    ·exact ⟨none,0,by rw [e,hz]⟩
    ·exact ⟨_,_,e⟩
   subst hu
   by_cases hlt2:k<n
   ·have hlt3:(k:Int)<(n:Int):=by omega
    have c0:wr.cell? ⟨b,off+k,none⟩=some (.int .i64 (vs.getD k 0)):=cell_later HI.out.rw.bel (HCC.out k hlt2)
    have HKl:Hid (k<vs.length):=by rw [HN.out]; exact hlt2
    have HAns:=hid (rone_any (vs.getD k 0) HI.out.rw (by omega) (HR.out _ (by rw [List.getD,List.getElem?_eq_getElem HKl.out]; exact List.getElem_mem _)))
    rw [rkey_xb HI.out.ky] at HAns
    generalize HA0:vs.getD k 0=x0 at c0
    rw [HA0] at HAns
    go_wp2_with fail
    refine HAns.out.mono ?_
    rintro e w1 ⟨rfl,ho⟩
    rw [← HA0] at ho
    obtain ⟨C2,X2,g1,g2,g3,g4,g5,g6⟩:=HI.out.answered HKl.out ho
    rw [HA0] at ho
    obtain ⟨a,Ha⟩:∃ a,Hid ((numP zs (runX zs (vs.take k) V) x0).2=a):=⟨_,rfl⟩
    rw [Ha.out]
    obtain ⟨W2,HW2⟩:∃ W2,Hid (w1.alloc (.cells #[.int .i64 a] 3)=W2):=⟨_,rfl⟩
    have HB2:Hid (Below w1.heap.size w1 W2):=by rw [← HW2.out]; exact (Below.refl _ _).alloc (Nat.le_refl _) _
    have HO2:=hid (own_later g5 HB2.out (Nat.le_refl _))
    have HLit:Hid (∀ j z,[Value.int .i64 a][j]? = some z→W2.cell? ((⟨w1.heap.size,0,none⟩:Addr).add j)=some z):=by rw [← HW2.out]; exact lit_cellsQ w1 3 [.int .i64 a]
    have hbs:w.heap.size≤W2.heap.size:=Nat.le_trans g3.size HB2.out.size
    have HG:=hid (And.intro g1 (And.intro g2 (And.intro g3 (And.intro g4 (And.intro g5 g6)))))
    have hW2:=HW2.out
    have HX0:=hid HA0
    clear ho g1 g2 g3 g4 g5 g6 c0 HA0
    go_wp2_with (at_builtin; refine wpList_append_i1 rfl _ _ rfl w.heap.size k (.slice adu k capu) ((runA zs (vs.take k) V).map (Value.int .i64)) ⟨w1.heap.size,0,none⟩ 1 a rfl rfl HO2.out HLit.out (by omega) hbs ?_; intro ad' cap' w3 hown hg hat; have HS:=hid (And.intro hown (And.intro hg hat)); clear hown hg hat)
    go_roundw
    case rel =>
     refine ⟨k+1,C2,X2,by omega,by go_num,?_⟩
     rw [← Ha.out,← HX0.out] at HS
     exact RrI.appended HG.out.1 HG.out.2.1 HG.out.2.2.1 HG.out.2.2.2.1 HG.out.2.2.2.2.1 HG.out.2.2.2.2.2 h0 HKl.out HB2.out HS.out.1 HS.out.2.1 HS.out.2.2
    case measure=>simp [intOf]; omega
   ·obtain rfl:k=n:=by omega
    have hlt3:¬ ((k:Int)<(k:Int)):=by omega
    go_wp2_with fail
    go_ret
    exact ⟨_,rfl,C1,Y1,HI.out⟩
end
def DnR (w0 w wr:World) (C:Nat→Nat) (Y:YB) (aw:Option Addr) (cap:Nat) (zs:List Int) (V:PX) (m j:Nat):Prop:=∃ C' Y' U,RW w0 wr C' Y' aw cap zs U (m+3 * j)∧rkey Y'=rkey Y∧Kept (OwnX C) w wr∧(∀ x,x<w.heap.size→C' x=C x)∧flyX zs U=flyX zs V∧pot zs U+j≤pot zs V∧flyN zs U+j=flyN zs V
def RnR (w0 w wr:World) (C:Nat→Nat) (Y:YB) (aw:Option Addr) (cap:Nat) (zs:List Int) (set:Int) (V:PX) (m k B i:Nat) (c:Nat):Prop:=∃ C' Y' U m',RW w0 wr C' Y' aw cap zs U m'∧rkey Y'=rkey Y∧Kept (OwnX C) w wr∧(∀ x,x<w.heap.size→C' x=C x)∧roundsX zs set (k - i) U=roundsX zs set k V∧pot zs U≤pot zs V+1470 * i∧m'+(k - i) * B≤m+k * B∧c≤700000 * i∧roundsN zs set (k - i) U+c=roundsN zs set k V
theorem rHas_big (s:Int) (i:Nat) (x:Bool) (w:World) (hi:i≤30) (h0:0≤s) (h1:s≤9223372036854775807) (hx:bit s i=x) :
  Calls Tryz.prog 84 #[.int .i64 s,.int .i64 i] w fun e w'=>e=.returned (.bool x)∧w'=w:=by
 have hp:=pow_le30 hi
 have hb:=hid (bit_has i h0)
 subst hx
 have hq0:0≤s / 2 ^ i:=Int.ediv_nonneg h0 (by omega)
 have hq1:s / 2 ^ i≤s:=Int.ediv_le_self _ h0
 go_enter Tryz.func84,Tryz.ntmps84
 go_wp2_with (go_at_call 146; refine (two_any i _ hi).mono ?_; rintro e w' ⟨rfl,rfl⟩)
 go_ret
 exact ⟨congrArg (fun x=>Ending.returned (.bool x)) hb.out,rfl⟩
section
variable {w0 w:World} {C:Nat→Nat} {Y:YB} {aw:Option Addr} {cap m:Nat} {zs:List Int} {V:PX} {set:Int}
theorem ticks_at (k:Nat) (hk:k<zs.length) (hb:bit set k=true):ticksX zs set (k+1) V=if cUp zs.length (ticksX zs set k V) (k:Int)=0 then tickX zs k 6 0 (ticksX zs set k V) else ticksX zs set k V:=by
 have:=ticks_step (zs:=zs) (V:=V) k hb
 rw [show min (k+1) zs.length=k+1 by omega,show min k zs.length=k by omega] at this
 exact this
theorem ticks_off (k:Nat) (hk:k<zs.length) (hb:bit set k=false):ticksX zs set (k+1) V=ticksX zs set k V:=by
 have:=ticks_skip (zs:=zs) (V:=V) k hb
 rw [show min (k+1) zs.length=k+1 by omega,show min k zs.length=k by omega] at this
 exact this
theorem rrounds_any (k:Nat) (h:RW w0 w C Y aw cap zs V m) (h0:0≤set) (h1:set≤9223372036854775807) (hk:k≤10) (hm:m+k * (294+3 * (pot zs V+1470 * k))<700000) :
  Calls Tryz.prog 31 #[.pointer (some ⟨Y.xb,0,none⟩),.int .i64 set,.int .i64 (k:Int)] w fun e w'=>e=.returned (.int .i64 (roundsN zs set k V:Int))∧ROut w0 w w' C Y aw cap zs (roundsX zs set k V) 700000:=by
 obtain ⟨B,HB⟩:∃ B,Hid (294+3 * (pot zs V+1470 * k)=B):=⟨_,rfl⟩
 rw [HB.out] at hm
 have HI0:Hid (RnR w0 w w C Y aw cap zs set V m k B 0 0):=⟨C,Y,V,m,h,rfl,Kept.refl _ _,fun _ _=>rfl,rfl,Nat.le_refl _,Nat.le_refl _,Nat.le_refl _,rfl⟩
 obtain ⟨kB,HkB⟩:∃ kB,Hid (k * B=kB):=⟨_,rfl⟩
 rw [HkB.out] at hm
 have n7:=h.n7.2
 obtain ⟨z,Hz⟩:∃ z,Hid (zs.length=z):=⟨_,rfl⟩
 rw [Hz.out] at n7
 clear h
 go_enter Tryz.func31,Tryz.ntmps31
 go_wp2_with fail
 go_loopw [7,8] (fun u v wr=>∃ i c:Nat,i≤k∧u=.int .i64 (c:Int)∧v=.int .i64 (i:Int)∧Hid (RnR w0 w wr C Y aw cap zs set V m k B i c)) (fun _ v _=>k - (intOf v).toNat)
 case atStart=>exact ⟨0,0,Nat.zero_le _,rfl,rfl,HI0.out⟩
 case round =>
  obtain ⟨i,c,hi,rfl,rfl,HI⟩:=hrel
  obtain ⟨wo,hwo⟩:∃ wo,wo=wr:=⟨_,rfl⟩
  subst hwo
  obtain ⟨C1,Y1,U,m1,g1,g2,g3,g4,g5,g6,g7,g8,gn⟩:=HI.out
  rw [HkB.out] at g7
  by_cases hlt:i<k
  ·have hlt2:(i:Int)<(k:Int):=by omega
   obtain ⟨j,hj⟩:∃ j,k - i=j+1:=⟨k - i - 1,by omega⟩
   rw [hj,Nat.succ_mul] at g7
   rw [hj] at g5 gn
   obtain ⟨jB,HjB⟩:∃ jB,Hid (j * B=jB):=⟨_,rfl⟩
   rw [HjB.out] at g7
   have hBv:=HB.out
   have hpt:=pot_ticks_le (set:=set) g1.inv
   have h14:1470 * i+1470≤1470 * k:=by omega
   have hU:=pot_round (set:=set) g1.inv (by
    have n7:=g1.n7.2
    omega)
   have HT0:Hid (ROut w0 wo wo C1 Y1 aw cap zs (ticksX zs set 0 U) (m1+42 * 0)):=g1.out (Below.refl _ _) (by omega)
   have HG:=hid (And.intro g2 (And.intro g3 g4))
   have HH:=hid (And.intro g5 (And.intro g6 (And.intro g7 (And.intro hpt (And.intro hU (And.intro hj gn))))))
   have hm1:m1<700000:=by omega
   clear g1 g2 g3 g4 g5 g6 g7 gn hpt hU hj
   go_wp2_with fail
   go_loopw [9] (fun v ws=>∃ q:Nat,q≤z∧v=.int .i64 (q:Int)∧Hid (ROut w0 wo ws C1 Y1 aw cap zs (ticksX zs set q U) (m1+42 * q))) (fun v _=>z - (intOf v).toNat)
   case atStart=>exact ⟨0,Nat.zero_le _,rfl,HT0.out⟩
   case round =>
    obtain ⟨q,hq,rfl,HT⟩:=hrel
    obtain ⟨C2,Y2,y1,y2,y3,y4⟩:=HT.out
    have exb:Y2.xb=Y.xb:=(rkey_xb y2).trans (rkey_xb HG.out.1)
    have c1:=(y1.cells).2.1
    rw [exb,Hz.out] at c1
    by_cases hlq:q<z
    ·have hlq2:(q:Int)<(z:Int):=by omega
     obtain ⟨b,Hb⟩:∃ b,Hid (bit set q=b):=⟨_,rfl⟩
     cases b with
     | true =>
      have HK:=hid (rtick_any (q:Int) _ y1 (by omega) rfl)
      rw [exb,Int.toNat_natCast,← ticks_at q (by rw [Hz.out]; exact hlq) Hb.out] at HK
      have HY:=hid (And.intro y2 (And.intro y3 y4))
      clear y1 y2 y3 y4
      go_wp2_with (go_at_call 84; refine (rHas_big set q true _ (by omega) h0 (by omega) Hb.out).mono ?_; rintro e wx ⟨rfl,hx⟩; subst wx)
      refine HK.out.mono ?_
      rintro e w1 ⟨rfl,ho⟩
      have HO:=hid (ROut.step HY.out.1 HY.out.2.1 HY.out.2.2 ho)
      clear ho
      go_wp2_with fail
      go_roundw
      case rel=>exact ⟨q+1,by omega,by go_num,by rw [show m1+42 * (q+1)=m1+42 * q+42 by omega]; exact HO.out⟩
      case measure=>simp [intOf]; omega
     | false =>
      have HO:Hid (ROut w0 wo wr C1 Y1 aw cap zs (ticksX zs set (q+1) U) (m1+42 * (q+1))):=by rw [ticks_off q (by rw [Hz.out]; exact hlq) Hb.out]; exact HT.out.mono (by omega)
      clear y1 y2 y3 y4
      go_wp2_with (go_at_call 84; refine (rHas_big set q false _ (by omega) h0 (by omega) Hb.out).mono ?_; rintro e wx ⟨rfl,hx⟩; subst wx)
      go_roundw
      case rel=>exact ⟨q+1,by omega,by go_num,HO.out⟩
      case measure=>simp [intOf]; omega
    ·obtain rfl:q=z:=by omega
     have hlq2:¬ ((q:Int)<(q:Int)):=by omega
     have HT1:=hid y1
     have HT2:=hid (And.intro y2 (And.intro y3 y4))
     obtain ⟨T,HTt⟩:∃ T,Hid (ticksX zs set zs.length U=T):=⟨_,rfl⟩
     obtain ⟨P,HP⟩:∃ P,Hid (pot zs T=P):=⟨_,rfl⟩
     have HD0:Hid (DnR w0 wo wr C1 Y1 aw cap zs T (m1+42 * q) 0):=by
      rw [← HTt.out,Hz.out]
      exact ⟨C2,Y2,_,y1,y2,y3,y4,rfl,Nat.le_refl _,rfl⟩
     have hPm:m1+42 * q+3 * P<700000∧m1+42 * q+3 * P≤m1+B∧P≤700000:=by
      have hh:=HH.out
      rw [HTt.out,HP.out] at hh
      have:=HB.out
      omega
     clear y1 y2 y3 y4
     go_wp2_with fail
     go_loopw [7] (fun v wt=>∃ j':Nat,j'≤P∧v=.int .i64 ((c+j':Nat):Int)∧Hid (DnR w0 wo wt C1 Y1 aw cap zs T (m1+42 * q) j')) (fun v _=>P+c - (intOf v).toNat)
     case atStart=>exact ⟨0,Nat.zero_le _,rfl,HD0.out⟩
     case round =>
      obtain ⟨j',hj',rfl,HI3⟩:=hrel
      obtain ⟨C3,Y3,U3,x1,x2,x3,x4,x5,x6,xn⟩:=HI3.out
      rw [HP.out] at x6
      have exb3:Y3.xb=Y.xb:=(rkey_xb x2).trans (rkey_xb HG.out.1)
      have c3:=(x1.cells).2.2.2.1
      obtain ⟨fa,fc,hfv⟩:=x1.flyForm
      rw [exb3,hfv] at c3
      cases hfl:U3.fly with
      | nil =>
       rw [hfl,show ([]:List F9).length=0 from rfl] at c3
       have hU3:flyX zs T=U3:=by rw [← x5]; exact del_nil hfl
       have hNj:flyN zs T=j':=by rw [← xn,flyN_nil hfl]; exact Nat.zero_add j'
       have HN:Hid (RnR w0 w wr C Y aw cap zs set V m k B (i+1) (c+j')):=by
        have ho:ROut w0 wo wr C1 Y1 aw cap zs U3 (m1+B):=⟨C3,Y3,x1.mono (by omega),x2,x3,x4⟩
        obtain ⟨C4,Y4,z1,z2,z3,z4⟩:=ROut.step HG.out.1 HG.out.2.1 HG.out.2.2 ho
        obtain ⟨q5,q6,q7,q8,q9,q10,qn⟩:=HH.out
        have eU:roundX zs set U=U3:=by show flyX zs (ticksX zs set zs.length U)=U3; rw [HTt.out]; exact hU3
        have ekj:k - (i+1)=j:=by omega
        have qd:flyN zs (ticksX zs set zs.length U)+roundsN zs set j (roundX zs set U)+c=roundsN zs set k V:=qn
        rw [eU] at q9
        refine ⟨C4,Y4,U3,m1+B,z1,z2,z3,z4,?_,by omega,?_,by omega,?_⟩
        ·rw [ekj,← eU]; exact q5
        ·rw [ekj,HkB.out,HjB.out]; omega
        ·rw [ekj,← qd,eU,HTt.out,hNj]; omega
       clear x1 x2 x3 x4 x5 x6 xn hfl hfv hU3 hNj
       go_wp2_with fail
       go_roundw
       case rel=>exact ⟨i+1,c+j',by omega,rfl,by go_num,HN.out⟩
       case measure=>simp [intOf]; omega
      | cons f rest =>
       have h0l:0<U3.fly.length:=by rw [hfl]; simp
       have hf0:U3.fly[0]'h0l=f:=by simp [hfl]
       have HD:=hid (rdeliver_ok 0 f x1 h0l hf0 (by omega))
       rw [exb3,show ((0:Nat):Int)=0 from rfl] at HD
       have hp:=pot_deliver x1.inv (k:=0) (f:=f) (by rw [hfl]; rfl)
       have hst:=fly_step x1.inv (by omega) hfl
       have hsn:=flyN_step x1.inv (by omega) hfl
       have HN:Hid (∀ w1,ROut w0 wr w1 C3 Y3 aw cap zs (deliverX zs U3 0 f) (m1+42 * q+3 * j'+3)→DnR w0 wo w1 C1 Y1 aw cap zs T (m1+42 * q) (j'+1)):=by
        intro w1 ho
        obtain ⟨C4,Y4,z1,z2,z3,z4⟩:=ROut.step x2 x3 x4 ho
        exact ⟨C4,Y4,_,by rw [show m1+42 * q+3 * (j'+1)=m1+42 * q+3 * j'+3 by omega]; exact z1,z2,z3,z4,hst.trans x5,by rw [HP.out]; omega,by omega⟩
       have hjP:j'+1≤P:=by omega
       obtain ⟨nf,hnf⟩:∃ nf,U3.fly.length=nf:=⟨_,rfl⟩
       rw [hnf] at c3 h0l
       have hpos:(0:Int)<(nf:Int):=by omega
       clear x1 x2 x3 x4 x5 x6 xn hfl hf0 hp hst hsn hfv hnf
       go_wp2_with fail
       refine HD.out.mono ?_
       rintro e w1 ⟨rfl,ho⟩
       have HO:=hid (HN.out w1 ho)
       clear ho
       go_wp2_with fail
       go_roundw
       case rel=>exact ⟨j'+1,hjP,by go_num,HO.out⟩
       case measure=>simp [intOf]; omega
  ·obtain rfl:i=k:=by omega
   have hlt2:¬ ((i:Int)<(i:Int)):=by omega
   rw [Nat.sub_self] at g5 g7 gn
   have HNc:Hid (roundsN zs set i V=c):=by rw [← gn]; exact (Nat.zero_add c).symm ▸ rfl
   have hU:U=roundsX zs set i V:=g5
   have HO:Hid (ROut w0 w wo C Y aw cap zs (roundsX zs set i V) 700000):=by
    rw [← hU]; exact ⟨C1,Y1,g1.mono (by omega),g2,g3,g4⟩
   clear g1 g2 g3 g4 g5 g6 g7 g8 gn hU
   go_wp2_with fail
   go_ret
   exact ⟨by rw [HNc.out]; rfl,HO.out⟩
end
section
variable {Q:Exit→Act→World→Prop} {a0:Act} {w0 wr W W3:World} {C:Nat→Nat} {nv:Value} {K:Nat→RB} {aw:Option Addr} {cap k:Nat} {zs:List Int}
theorem nw_region (H:NwH Q a0 w0 wr W W3 C nv K aw cap k zs) (hz:a0.tmps.size=37) (e3:a0.eval (.tmp 3)=.pointer (some ⟨w0.heap.size,0,none⟩)) (e4:a0.eval (.tmp 4)=.int .i64 (k:Int)) (e5:a0.eval (.tmp 5)=.pointer (some ⟨W3.heap.size,0,none⟩)):(Code.region 6 nwOps true).wp Tryz.prog Q a0 W:=by
 have HQp:=hid H.qp
 have HH:=hid H
 have HZ0:=hid hz
 have HZ:=hid hz
 have m0:Sm a0 a0:=⟨rfl,rfl,fun _ _=>rfl⟩
 refine wp_region_any (by kernel_rfl) ?_
 clear H hz
 refine wpAny_take (i:=0) (oi:={ dst:=some 19,op:=Op.move (Operand.tmp 3),type:=33,pos:= "world.go:231",after:=#[],guard:=none }) (v:=(.pointer (some ⟨w0.heap.size,0,none⟩))) rfl (by kernel_rfl) (by kernel_rfl) (by kernel_rfl) (fun c a w h=>HQp.out c _ _ a w h) (Or.inl ⟨by rfl,?_⟩) ?_
 ·intro w
  have f0:=eval_form e3
  go_simp
 change wpAny _ _ _ _ _ _ (Act.put a0 (some 19) (.pointer (some ⟨w0.heap.size,0,none⟩))) _
 obtain ⟨b1,Hb1⟩:∃ x,Hid (x=Act.put a0 (some 19) (.pointer (some ⟨w0.heap.size,0,none⟩))):=⟨_,rfl⟩
 rw [← Hb1.out]
 have HZ1:Hid (b1.tmps.size=37):=by show b1.tmps.size=37; rw [Hb1.out,Act.size_put]; exact HZ0.out
 have m1:Sm a0 b1:=by rw [Hb1.out]; exact m0.put (by omega) (by omega)
 have e3:b1.eval (.tmp 3)=(.pointer (some ⟨w0.heap.size,0,none⟩)):=by rw [Hb1.out,Act.eval_put_ne _ _ _ _ (by decide)]; exact e3
 have e4:b1.eval (.tmp 4)=(.int .i64 (k:Int)):=by rw [Hb1.out,Act.eval_put_ne _ _ _ _ (by decide)]; exact e4
 have e5:b1.eval (.tmp 5)=(.pointer (some ⟨W3.heap.size,0,none⟩)):=by rw [Hb1.out,Act.eval_put_ne _ _ _ _ (by decide)]; exact e5
 have e19:b1.eval (.tmp 19)=(.pointer (some ⟨w0.heap.size,0,none⟩)):=by rw [Hb1.out]; exact Act.eval_put_same _ _ _ (by have:=HZ0.out; omega)
 clear Hb1
 refine wpAny_take (i:=1) (oi:={ dst:=some 20,op:=Op.move (Operand.tmp 3),type:=33,pos:= "world.go:231",after:=#[],guard:=none }) (v:=(.pointer (some ⟨w0.heap.size,0,none⟩))) rfl (by kernel_rfl) (by kernel_rfl) (by kernel_rfl) (fun c a w h=>HQp.out c _ _ a w h) (Or.inl ⟨by rfl,?_⟩) ?_
 ·intro w
  have f0:=eval_form e3
  go_simp
 change wpAny _ _ _ _ _ _ (Act.put b1 (some 20) (.pointer (some ⟨w0.heap.size,0,none⟩))) _
 obtain ⟨b2,Hb2⟩:∃ x,Hid (x=Act.put b1 (some 20) (.pointer (some ⟨w0.heap.size,0,none⟩))):=⟨_,rfl⟩
 rw [← Hb2.out]
 have HZ2:Hid (b2.tmps.size=37):=by show b2.tmps.size=37; rw [Hb2.out,Act.size_put]; exact HZ1.out
 have m2:Sm a0 b2:=by rw [Hb2.out]; exact m1.put (by omega) (by omega)
 have e3:b2.eval (.tmp 3)=(.pointer (some ⟨w0.heap.size,0,none⟩)):=by rw [Hb2.out,Act.eval_put_ne _ _ _ _ (by decide)]; exact e3
 have e4:b2.eval (.tmp 4)=(.int .i64 (k:Int)):=by rw [Hb2.out,Act.eval_put_ne _ _ _ _ (by decide)]; exact e4
 have e5:b2.eval (.tmp 5)=(.pointer (some ⟨W3.heap.size,0,none⟩)):=by rw [Hb2.out,Act.eval_put_ne _ _ _ _ (by decide)]; exact e5
 have e19:b2.eval (.tmp 19)=(.pointer (some ⟨w0.heap.size,0,none⟩)):=by rw [Hb2.out,Act.eval_put_ne _ _ _ _ (by decide)]; exact e19
 have e20:b2.eval (.tmp 20)=(.pointer (some ⟨w0.heap.size,0,none⟩)):=by rw [Hb2.out]; exact Act.eval_put_same _ _ _ (by have:=HZ1.out; omega)
 clear Hb2
 refine wpAny_take (i:=2) (oi:={ dst:=some 21,op:=Op.nilCheck (Operand.tmp 20),type:=0,pos:= "world.go:231",after:=#[{ on:=1,ground:=Ground.data }],guard:=none }) (v:=(.pointer (some ⟨w0.heap.size,0,none⟩))) rfl (by kernel_rfl) (by kernel_rfl) (by kernel_rfl) (fun c a w h=>HQp.out c _ _ a w h) (Or.inl ⟨by rfl,?_⟩) ?_
 ·intro w
  have f0:=eval_form e20
  go_simp
 change wpAny _ _ _ _ _ _ (Act.put b2 (some 21) (.pointer (some ⟨w0.heap.size,0,none⟩))) _
 obtain ⟨b3,Hb3⟩:∃ x,Hid (x=Act.put b2 (some 21) (.pointer (some ⟨w0.heap.size,0,none⟩))):=⟨_,rfl⟩
 rw [← Hb3.out]
 have HZ3:Hid (b3.tmps.size=37):=by show b3.tmps.size=37; rw [Hb3.out,Act.size_put]; exact HZ2.out
 have m3:Sm a0 b3:=by rw [Hb3.out]; exact m2.put (by omega) (by omega)
 have e3:b3.eval (.tmp 3)=(.pointer (some ⟨w0.heap.size,0,none⟩)):=by rw [Hb3.out,Act.eval_put_ne _ _ _ _ (by decide)]; exact e3
 have e4:b3.eval (.tmp 4)=(.int .i64 (k:Int)):=by rw [Hb3.out,Act.eval_put_ne _ _ _ _ (by decide)]; exact e4
 have e5:b3.eval (.tmp 5)=(.pointer (some ⟨W3.heap.size,0,none⟩)):=by rw [Hb3.out,Act.eval_put_ne _ _ _ _ (by decide)]; exact e5
 have e19:b3.eval (.tmp 19)=(.pointer (some ⟨w0.heap.size,0,none⟩)):=by rw [Hb3.out,Act.eval_put_ne _ _ _ _ (by decide)]; exact e19
 have e20:b3.eval (.tmp 20)=(.pointer (some ⟨w0.heap.size,0,none⟩)):=by rw [Hb3.out,Act.eval_put_ne _ _ _ _ (by decide)]; exact e20
 have e21:b3.eval (.tmp 21)=(.pointer (some ⟨w0.heap.size,0,none⟩)):=by rw [Hb3.out]; exact Act.eval_put_same _ _ _ (by have:=HZ2.out; omega)
 clear Hb3
 refine wpAny_take (i:=3) (oi:={ dst:=some 22,op:=Op.fieldAddr 72 (Operand.tmp 21) 1,type:=0,pos:= "world.go:231",after:=#[{ on:=2,ground:=Ground.data }],guard:=none }) (v:=(.pointer (some ⟨w0.heap.size,1,none⟩))) rfl (by kernel_rfl) (by kernel_rfl) (by kernel_rfl) (fun c a w h=>HQp.out c _ _ a w h) (Or.inl ⟨by rfl,?_⟩) ?_
 ·intro w
  have f0:=eval_form e21
  go_simp
 change wpAny _ _ _ _ _ _ (Act.put b3 (some 22) (.pointer (some ⟨w0.heap.size,1,none⟩))) _
 obtain ⟨b4,Hb4⟩:∃ x,Hid (x=Act.put b3 (some 22) (.pointer (some ⟨w0.heap.size,1,none⟩))):=⟨_,rfl⟩
 rw [← Hb4.out]
 have HZ4:Hid (b4.tmps.size=37):=by show b4.tmps.size=37; rw [Hb4.out,Act.size_put]; exact HZ3.out
 have m4:Sm a0 b4:=by rw [Hb4.out]; exact m3.put (by omega) (by omega)
 have e3:b4.eval (.tmp 3)=(.pointer (some ⟨w0.heap.size,0,none⟩)):=by rw [Hb4.out,Act.eval_put_ne _ _ _ _ (by decide)]; exact e3
 have e4:b4.eval (.tmp 4)=(.int .i64 (k:Int)):=by rw [Hb4.out,Act.eval_put_ne _ _ _ _ (by decide)]; exact e4
 have e5:b4.eval (.tmp 5)=(.pointer (some ⟨W3.heap.size,0,none⟩)):=by rw [Hb4.out,Act.eval_put_ne _ _ _ _ (by decide)]; exact e5
 have e19:b4.eval (.tmp 19)=(.pointer (some ⟨w0.heap.size,0,none⟩)):=by rw [Hb4.out,Act.eval_put_ne _ _ _ _ (by decide)]; exact e19
 have e20:b4.eval (.tmp 20)=(.pointer (some ⟨w0.heap.size,0,none⟩)):=by rw [Hb4.out,Act.eval_put_ne _ _ _ _ (by decide)]; exact e20
 have e21:b4.eval (.tmp 21)=(.pointer (some ⟨w0.heap.size,0,none⟩)):=by rw [Hb4.out,Act.eval_put_ne _ _ _ _ (by decide)]; exact e21
 have e22:b4.eval (.tmp 22)=(.pointer (some ⟨w0.heap.size,1,none⟩)):=by rw [Hb4.out]; exact Act.eval_put_same _ _ _ (by have:=HZ3.out; omega)
 clear Hb4
 refine wpAny_take (i:=5) (oi:={ dst:=some 24,op:=Op.move (Operand.tmp 4),type:=3,pos:= "world.go:231",after:=#[],guard:=none }) (v:=(.int .i64 (k:Int))) rfl (by kernel_rfl) (by kernel_rfl) (by kernel_rfl) (fun c a w h=>HQp.out c _ _ a w h) (Or.inl ⟨by rfl,?_⟩) ?_
 ·intro w
  have f0:=eval_form e4
  go_simp
 change wpAny _ _ _ _ _ _ (Act.put b4 (some 24) (.int .i64 (k:Int))) _
 obtain ⟨b5,Hb5⟩:∃ x,Hid (x=Act.put b4 (some 24) (.int .i64 (k:Int))):=⟨_,rfl⟩
 rw [← Hb5.out]
 have HZ5:Hid (b5.tmps.size=37):=by show b5.tmps.size=37; rw [Hb5.out,Act.size_put]; exact HZ4.out
 have m5:Sm a0 b5:=by rw [Hb5.out]; exact m4.put (by omega) (by omega)
 have e3:b5.eval (.tmp 3)=(.pointer (some ⟨w0.heap.size,0,none⟩)):=by rw [Hb5.out,Act.eval_put_ne _ _ _ _ (by decide)]; exact e3
 have e4:b5.eval (.tmp 4)=(.int .i64 (k:Int)):=by rw [Hb5.out,Act.eval_put_ne _ _ _ _ (by decide)]; exact e4
 have e5:b5.eval (.tmp 5)=(.pointer (some ⟨W3.heap.size,0,none⟩)):=by rw [Hb5.out,Act.eval_put_ne _ _ _ _ (by decide)]; exact e5
 have e19:b5.eval (.tmp 19)=(.pointer (some ⟨w0.heap.size,0,none⟩)):=by rw [Hb5.out,Act.eval_put_ne _ _ _ _ (by decide)]; exact e19
 have e20:b5.eval (.tmp 20)=(.pointer (some ⟨w0.heap.size,0,none⟩)):=by rw [Hb5.out,Act.eval_put_ne _ _ _ _ (by decide)]; exact e20
 have e21:b5.eval (.tmp 21)=(.pointer (some ⟨w0.heap.size,0,none⟩)):=by rw [Hb5.out,Act.eval_put_ne _ _ _ _ (by decide)]; exact e21
 have e22:b5.eval (.tmp 22)=(.pointer (some ⟨w0.heap.size,1,none⟩)):=by rw [Hb5.out,Act.eval_put_ne _ _ _ _ (by decide)]; exact e22
 have e24:b5.eval (.tmp 24)=(.int .i64 (k:Int)):=by rw [Hb5.out]; exact Act.eval_put_same _ _ _ (by have:=HZ4.out; omega)
 clear Hb5
 refine wpAny_take (i:=6) (oi:={ dst:=some 25,op:=Op.move (Operand.tmp 5),type:=109,pos:= "world.go:231",after:=#[],guard:=none }) (v:=(.pointer (some ⟨W3.heap.size,0,none⟩))) rfl (by kernel_rfl) (by kernel_rfl) (by kernel_rfl) (fun c a w h=>HQp.out c _ _ a w h) (Or.inl ⟨by rfl,?_⟩) ?_
 ·intro w
  have f0:=eval_form e5
  go_simp
 change wpAny _ _ _ _ _ _ (Act.put b5 (some 25) (.pointer (some ⟨W3.heap.size,0,none⟩))) _
 obtain ⟨b6,Hb6⟩:∃ x,Hid (x=Act.put b5 (some 25) (.pointer (some ⟨W3.heap.size,0,none⟩))):=⟨_,rfl⟩
 rw [← Hb6.out]
 have HZ6:Hid (b6.tmps.size=37):=by show b6.tmps.size=37; rw [Hb6.out,Act.size_put]; exact HZ5.out
 have m6:Sm a0 b6:=by rw [Hb6.out]; exact m5.put (by omega) (by omega)
 have e3:b6.eval (.tmp 3)=(.pointer (some ⟨w0.heap.size,0,none⟩)):=by rw [Hb6.out,Act.eval_put_ne _ _ _ _ (by decide)]; exact e3
 have e4:b6.eval (.tmp 4)=(.int .i64 (k:Int)):=by rw [Hb6.out,Act.eval_put_ne _ _ _ _ (by decide)]; exact e4
 have e5:b6.eval (.tmp 5)=(.pointer (some ⟨W3.heap.size,0,none⟩)):=by rw [Hb6.out,Act.eval_put_ne _ _ _ _ (by decide)]; exact e5
 have e19:b6.eval (.tmp 19)=(.pointer (some ⟨w0.heap.size,0,none⟩)):=by rw [Hb6.out,Act.eval_put_ne _ _ _ _ (by decide)]; exact e19
 have e20:b6.eval (.tmp 20)=(.pointer (some ⟨w0.heap.size,0,none⟩)):=by rw [Hb6.out,Act.eval_put_ne _ _ _ _ (by decide)]; exact e20
 have e21:b6.eval (.tmp 21)=(.pointer (some ⟨w0.heap.size,0,none⟩)):=by rw [Hb6.out,Act.eval_put_ne _ _ _ _ (by decide)]; exact e21
 have e22:b6.eval (.tmp 22)=(.pointer (some ⟨w0.heap.size,1,none⟩)):=by rw [Hb6.out,Act.eval_put_ne _ _ _ _ (by decide)]; exact e22
 have e24:b6.eval (.tmp 24)=(.int .i64 (k:Int)):=by rw [Hb6.out,Act.eval_put_ne _ _ _ _ (by decide)]; exact e24
 have e25:b6.eval (.tmp 25)=(.pointer (some ⟨W3.heap.size,0,none⟩)):=by rw [Hb6.out]; exact Act.eval_put_same _ _ _ (by have:=HZ5.out; omega)
 clear Hb6
 refine wpAny_take (i:=8) (oi:={ dst:=some 27,op:=Op.move (Operand.tmp 5),type:=109,pos:= "world.go:231",after:=#[],guard:=none }) (v:=(.pointer (some ⟨W3.heap.size,0,none⟩))) rfl (by kernel_rfl) (by kernel_rfl) (by kernel_rfl) (fun c a w h=>HQp.out c _ _ a w h) (Or.inl ⟨by rfl,?_⟩) ?_
 ·intro w
  have f0:=eval_form e5
  go_simp
 change wpAny _ _ _ _ _ _ (Act.put b6 (some 27) (.pointer (some ⟨W3.heap.size,0,none⟩))) _
 obtain ⟨b7,Hb7⟩:∃ x,Hid (x=Act.put b6 (some 27) (.pointer (some ⟨W3.heap.size,0,none⟩))):=⟨_,rfl⟩
 rw [← Hb7.out]
 have HZ7:Hid (b7.tmps.size=37):=by show b7.tmps.size=37; rw [Hb7.out,Act.size_put]; exact HZ6.out
 have m7:Sm a0 b7:=by rw [Hb7.out]; exact m6.put (by omega) (by omega)
 have e3:b7.eval (.tmp 3)=(.pointer (some ⟨w0.heap.size,0,none⟩)):=by rw [Hb7.out,Act.eval_put_ne _ _ _ _ (by decide)]; exact e3
 have e4:b7.eval (.tmp 4)=(.int .i64 (k:Int)):=by rw [Hb7.out,Act.eval_put_ne _ _ _ _ (by decide)]; exact e4
 have e5:b7.eval (.tmp 5)=(.pointer (some ⟨W3.heap.size,0,none⟩)):=by rw [Hb7.out,Act.eval_put_ne _ _ _ _ (by decide)]; exact e5
 have e19:b7.eval (.tmp 19)=(.pointer (some ⟨w0.heap.size,0,none⟩)):=by rw [Hb7.out,Act.eval_put_ne _ _ _ _ (by decide)]; exact e19
 have e20:b7.eval (.tmp 20)=(.pointer (some ⟨w0.heap.size,0,none⟩)):=by rw [Hb7.out,Act.eval_put_ne _ _ _ _ (by decide)]; exact e20
 have e21:b7.eval (.tmp 21)=(.pointer (some ⟨w0.heap.size,0,none⟩)):=by rw [Hb7.out,Act.eval_put_ne _ _ _ _ (by decide)]; exact e21
 have e22:b7.eval (.tmp 22)=(.pointer (some ⟨w0.heap.size,1,none⟩)):=by rw [Hb7.out,Act.eval_put_ne _ _ _ _ (by decide)]; exact e22
 have e24:b7.eval (.tmp 24)=(.int .i64 (k:Int)):=by rw [Hb7.out,Act.eval_put_ne _ _ _ _ (by decide)]; exact e24
 have e25:b7.eval (.tmp 25)=(.pointer (some ⟨W3.heap.size,0,none⟩)):=by rw [Hb7.out,Act.eval_put_ne _ _ _ _ (by decide)]; exact e25
 have e27:b7.eval (.tmp 27)=(.pointer (some ⟨W3.heap.size,0,none⟩)):=by rw [Hb7.out]; exact Act.eval_put_same _ _ _ (by have:=HZ6.out; omega)
 clear Hb7
 exact nw_0000 (t:=0) (mm:=0) (gn:=0) (gs:=0) (gb:=0) (ls:=0) (dn:=0) HH.out ⟨m7,HZ0.out,e19,e22,e24,e25,e27,(Below.refl _ W).drew,fun q=>(by cases q),fun q=>(by cases q),fun q=>(by cases q),fun q=>(by cases q),fun q=>(by cases q),fun q=>(by cases q),fun q=>(by cases q)⟩
end
theorem arr37 (ts:Array Value) (h:ts.size=37):∃ x0 x1 x2 x3 x4 x5 x6 x7 x8 x9 x10 x11 x12 x13 x14 x15 x16 x17 x18 x19 x20 x21 x22 x23 x24 x25 x26 x27 x28 x29 x30 x31 x32 x33 x34 x35 x36:Value,ts=#[x0,x1,x2,x3,x4,x5,x6,x7,x8,x9,x10,x11,x12,x13,x14,x15,x16,x17,x18,x19,x20,x21,x22,x23,x24,x25,x26,x27,x28,x29,x30,x31,x32,x33,x34,x35,x36]:=by
 obtain ⟨l⟩:=ts
 have hl:l.length=37:=h
 obtain ⟨x0,l,rfl⟩:∃ x m,l=x :: m:=List.exists_cons_of_length_pos (by omega)
 simp only [List.length_cons] at hl
 obtain ⟨x1,l,rfl⟩:∃ x m,l=x :: m:=List.exists_cons_of_length_pos (by omega)
 simp only [List.length_cons] at hl
 obtain ⟨x2,l,rfl⟩:∃ x m,l=x :: m:=List.exists_cons_of_length_pos (by omega)
 simp only [List.length_cons] at hl
 obtain ⟨x3,l,rfl⟩:∃ x m,l=x :: m:=List.exists_cons_of_length_pos (by omega)
 simp only [List.length_cons] at hl
 obtain ⟨x4,l,rfl⟩:∃ x m,l=x :: m:=List.exists_cons_of_length_pos (by omega)
 simp only [List.length_cons] at hl
 obtain ⟨x5,l,rfl⟩:∃ x m,l=x :: m:=List.exists_cons_of_length_pos (by omega)
 simp only [List.length_cons] at hl
 obtain ⟨x6,l,rfl⟩:∃ x m,l=x :: m:=List.exists_cons_of_length_pos (by omega)
 simp only [List.length_cons] at hl
 obtain ⟨x7,l,rfl⟩:∃ x m,l=x :: m:=List.exists_cons_of_length_pos (by omega)
 simp only [List.length_cons] at hl
 obtain ⟨x8,l,rfl⟩:∃ x m,l=x :: m:=List.exists_cons_of_length_pos (by omega)
 simp only [List.length_cons] at hl
 obtain ⟨x9,l,rfl⟩:∃ x m,l=x :: m:=List.exists_cons_of_length_pos (by omega)
 simp only [List.length_cons] at hl
 obtain ⟨x10,l,rfl⟩:∃ x m,l=x :: m:=List.exists_cons_of_length_pos (by omega)
 simp only [List.length_cons] at hl
 obtain ⟨x11,l,rfl⟩:∃ x m,l=x :: m:=List.exists_cons_of_length_pos (by omega)
 simp only [List.length_cons] at hl
 obtain ⟨x12,l,rfl⟩:∃ x m,l=x :: m:=List.exists_cons_of_length_pos (by omega)
 simp only [List.length_cons] at hl
 obtain ⟨x13,l,rfl⟩:∃ x m,l=x :: m:=List.exists_cons_of_length_pos (by omega)
 simp only [List.length_cons] at hl
 obtain ⟨x14,l,rfl⟩:∃ x m,l=x :: m:=List.exists_cons_of_length_pos (by omega)
 simp only [List.length_cons] at hl
 obtain ⟨x15,l,rfl⟩:∃ x m,l=x :: m:=List.exists_cons_of_length_pos (by omega)
 simp only [List.length_cons] at hl
 obtain ⟨x16,l,rfl⟩:∃ x m,l=x :: m:=List.exists_cons_of_length_pos (by omega)
 simp only [List.length_cons] at hl
 obtain ⟨x17,l,rfl⟩:∃ x m,l=x :: m:=List.exists_cons_of_length_pos (by omega)
 simp only [List.length_cons] at hl
 obtain ⟨x18,l,rfl⟩:∃ x m,l=x :: m:=List.exists_cons_of_length_pos (by omega)
 simp only [List.length_cons] at hl
 obtain ⟨x19,l,rfl⟩:∃ x m,l=x :: m:=List.exists_cons_of_length_pos (by omega)
 simp only [List.length_cons] at hl
 obtain ⟨x20,l,rfl⟩:∃ x m,l=x :: m:=List.exists_cons_of_length_pos (by omega)
 simp only [List.length_cons] at hl
 obtain ⟨x21,l,rfl⟩:∃ x m,l=x :: m:=List.exists_cons_of_length_pos (by omega)
 simp only [List.length_cons] at hl
 obtain ⟨x22,l,rfl⟩:∃ x m,l=x :: m:=List.exists_cons_of_length_pos (by omega)
 simp only [List.length_cons] at hl
 obtain ⟨x23,l,rfl⟩:∃ x m,l=x :: m:=List.exists_cons_of_length_pos (by omega)
 simp only [List.length_cons] at hl
 obtain ⟨x24,l,rfl⟩:∃ x m,l=x :: m:=List.exists_cons_of_length_pos (by omega)
 simp only [List.length_cons] at hl
 obtain ⟨x25,l,rfl⟩:∃ x m,l=x :: m:=List.exists_cons_of_length_pos (by omega)
 simp only [List.length_cons] at hl
 obtain ⟨x26,l,rfl⟩:∃ x m,l=x :: m:=List.exists_cons_of_length_pos (by omega)
 simp only [List.length_cons] at hl
 obtain ⟨x27,l,rfl⟩:∃ x m,l=x :: m:=List.exists_cons_of_length_pos (by omega)
 simp only [List.length_cons] at hl
 obtain ⟨x28,l,rfl⟩:∃ x m,l=x :: m:=List.exists_cons_of_length_pos (by omega)
 simp only [List.length_cons] at hl
 obtain ⟨x29,l,rfl⟩:∃ x m,l=x :: m:=List.exists_cons_of_length_pos (by omega)
 simp only [List.length_cons] at hl
 obtain ⟨x30,l,rfl⟩:∃ x m,l=x :: m:=List.exists_cons_of_length_pos (by omega)
 simp only [List.length_cons] at hl
 obtain ⟨x31,l,rfl⟩:∃ x m,l=x :: m:=List.exists_cons_of_length_pos (by omega)
 simp only [List.length_cons] at hl
 obtain ⟨x32,l,rfl⟩:∃ x m,l=x :: m:=List.exists_cons_of_length_pos (by omega)
 simp only [List.length_cons] at hl
 obtain ⟨x33,l,rfl⟩:∃ x m,l=x :: m:=List.exists_cons_of_length_pos (by omega)
 simp only [List.length_cons] at hl
 obtain ⟨x34,l,rfl⟩:∃ x m,l=x :: m:=List.exists_cons_of_length_pos (by omega)
 simp only [List.length_cons] at hl
 obtain ⟨x35,l,rfl⟩:∃ x m,l=x :: m:=List.exists_cons_of_length_pos (by omega)
 simp only [List.length_cons] at hl
 obtain ⟨x36,l,rfl⟩:∃ x m,l=x :: m:=List.exists_cons_of_length_pos (by omega)
 simp only [List.length_cons] at hl
 obtain rfl:l=[]:=List.eq_nil_of_length_eq_zero (by omega)
 exact ⟨x0,x1,x2,x3,x4,x5,x6,x7,x8,x9,x10,x11,x12,x13,x14,x15,x16,x17,x18,x19,x20,x21,x22,x23,x24,x25,x26,x27,x28,x29,x30,x31,x32,x33,x34,x35,x36,rfl⟩
section
variable {w0 w w1 w':World} {C C':Nat→Nat} {aw:Option Addr} {cap k:Nat} {zs:List Int}
theorem rwnew_ok (hs:IsSl w (.slice aw zs.length cap) zs) (he:errW zs=0) :
  Calls Tryz.prog 17 #[.slice aw zs.length cap] w fun e w'=>∃ C Y,e=.returned (.pointer (some ⟨Y.xb,0,none⟩))∧RW w w' C Y aw cap zs newX 0:=by
 obtain ⟨n1,n7,-⟩:=errW_zero he
 have HSl:=hid hs
 have HE:=hid he
 obtain ⟨z,hz⟩:∃ z,Hid (zs.length=z):=⟨_,rfl⟩
 rw [hz.out] at n1 n7 ⊢
 obtain ⟨W1,HW1⟩:∃ W1,Hid (w.alloc (.cells #[.slice aw z cap,.slice none 0 0,.slice none 0 0,.slice none 0 0,.slice none 0 0] 72)=W1):=⟨_,rfl⟩
 have hW1:=HW1.out
 have HB1:Hid (Below w.heap.size w W1):=by rw [← HW1.out]; exact (Below.refl _ _).alloc (Nat.le_refl _) _
 have HR1:Hid (W1.heap[w.heap.size]? = some (.cells #[.slice aw zs.length cap,.slice none 0 0,.slice none 0 0,.slice none 0 0,.slice none 0 0] 72 (0,0))):=by rw [← HW1.out,hz.out]; exact heap_alloc_new w _
 have hmk:∀ w,(Instr.makeSlice 110 (.int .i64 512) (.int .i64 512)).run Tryz.prog w=.ok (.slice (some ⟨w.heap.size,0,none⟩) 512 512) (w.alloc (.cells (cellsB (zeroB 512)) 5)):=mkB 512 (by omega)
 have hmL:=mkRL
 have hmD:=mkBo
 clear hs he
 go_enter Tryz.func17,Tryz.ntmps17
 go_wp2_with fail
 go_loopw [4] (fun v wr=>∃ k:Nat,k≤z∧v=.int .i64 (k:Int)∧∃ C nv K,RWN w wr C w.heap.size nv K aw cap zs k) (fun v _=>z - (intOf v).toNat)
 case atStart =>
  have hsz:W1.heap.size=w.heap.size+1:=by rw [← HW1.out]; simp
  refine ⟨0,Nat.zero_le _,rfl,fun x=>if x=w.heap.size then 1001 else 2000,.slice none 0 0,fun _=>newRK 0 0 0 0 0 0 0 0 0,⟨HB1.out,HR1.out,World.ownsRow_nil _ _ _ _,fun i hi=>(by omega),if_pos rfl,fun g hg=>(by cases hg),fun x hx=>?_,fun x hx=>?_⟩⟩
  ·by_cases e:x=w.heap.size
   ·omega
   ·rw [if_neg e] at hx; omega
  ·by_cases e:x=w.heap.size
   ·omega
   ·rw [if_neg e] at hx; omega
 case round =>
  obtain ⟨k,hk,rfl,C,nv,K,hN⟩:=hrel
  rename_i wr
  have HN:=hid hN
  clear hN
  by_cases hlt:k<z
  ·obtain ⟨W3,HW3⟩:∃ W3,Hid ((wr.alloc (.cells (cellsB (zeroB 512)) 5))=W3):=⟨_,rfl⟩
   have hcv:(convert 110 9 (.slice (some ⟨wr.heap.size,0,none⟩) 512 512)).run Tryz.prog W3=.ok (.string (zeroB 512)) W3:=conv_z (by rw [← HW3.out]; exact heap_alloc_new wr _)
   have hW3:=HW3.out
   obtain ⟨W,HW⟩:∃ W,Hid (W3.alloc (.cells #[.string (zeroB 512),.bool false,.int .i64 0,.bool false] 112)=W):=⟨_,rfl⟩
   have hW:=HW.out
   have HB:Hid (Below wr.heap.size wr W):=by rw [← HW.out,← HW3.out]; exact ((Below.refl _ _).alloc (Nat.le_refl _) _).alloc (by simp) _
   have HRP:Hid (RP W W3.heap.size (zeroB 512) false 0 false):=by rw [← HW.out]; exact heap_alloc_new W3 _
   have HS3:Hid (W3.heap.size=wr.heap.size+1∧W.heap.size=wr.heap.size+2):=by
    have a1:W3.heap.size=wr.heap.size+1:=by rw [← HW3.out]; simp
    exact ⟨a1,by rw [← HW.out]; simp [a1]⟩
   go_wp2_with fail
   refine nw_region (w0:=w) (wr:=wr) (W:=W) (W3:=W3) (C:=C) (nv:=nv) (K:=K) (aw:=aw) (cap:=cap) (k:=k) (zs:=zs) ⟨HN.out,by omega,HB.out,HRP.out,HS3.out,fun a' w5 g5 c5 hsm hrw=>?_,fun c d v a w h=>h⟩ rfl rfl rfl rfl
   obtain ⟨ts,ds⟩:=a'
   obtain ⟨hs1,hs2,hs3⟩:=hsm
   obtain ⟨x0,x1,x2,x3,x4,x5,x6,x7,x8,x9,x10,x11,x12,x13,x14,x15,x16,x17,x18,x19,x20,x21,x22,x23,x24,x25,x26,x27,x28,x29,x30,x31,x32,x33,x34,x35,x36,rfl⟩:=arr37 ts hs1
   obtain rfl:ds=[]:=hs2
   obtain rfl:x0=.slice aw z cap:=hs3 0 (by omega)
   obtain rfl:x1=undef:=hs3 1 (by omega)
   obtain rfl:x2=.pointer none:=hs3 2 (by omega)
   obtain rfl:x3=.pointer (some ⟨w.heap.size,0,none⟩):=hs3 3 (by omega)
   obtain rfl:x4=.int .i64 (k:Int):=hs3 4 (by omega)
   obtain rfl:x5=.pointer (some ⟨W3.heap.size,0,none⟩):=hs3 5 (by omega)
   obtain rfl:x6=.slice aw z cap:=hs3 6 (by omega)
   obtain rfl:x7=.agg #[.slice aw z cap,.slice none 0 0,.slice none 0 0,.slice none 0 0,.slice none 0 0]:=hs3 7 (by omega)
   obtain rfl:x8=.pointer (some ⟨w.heap.size,0,none⟩):=hs3 8 (by omega)
   obtain rfl:x9=.int .i64 (k:Int):=hs3 9 (by omega)
   obtain rfl:x10=.slice aw z cap:=hs3 10 (by omega)
   obtain rfl:x11=.int .i64 (z:Int):=hs3 11 (by omega)
   obtain rfl:x12=.bool true:=hs3 12 (by omega)
   obtain rfl:x15=.slice (some ⟨wr.heap.size,0,none⟩) 512 512:=hs3 15 (by omega)
   obtain rfl:x16=.string (zeroB 512):=hs3 16 (by omega)
   obtain rfl:x17=.agg #[.string (zeroB 512),.bool false,.int .i64 0,.bool false]:=hs3 17 (by omega)
   obtain rfl:x18=.pointer (some ⟨W3.heap.size,0,none⟩):=hs3 18 (by omega)
   obtain rfl:x36=undef:=hs3 36 (by omega)
   clear hs1 hs3
   have HRw2:=hid hrw
   clear hrw
   go_wp2_with fail
   go_roundw
   case rel=>exact ⟨k+1,by omega,by go_num,by obtain ⟨C',K',h'⟩:=HRw2.out; exact ⟨C',_,K',h'⟩⟩
   case measure=>simp [intOf]; omega
  ·obtain rfl:k=z:=by omega
   have hN:=HN.out
   rw [← hz.out] at hN
   obtain ⟨Y,hx,hY⟩:=hN.done HE.out HSl.out
   have HY:=hid (And.intro hx hY)
   clear hN hx hY
   go_wp2_with fail
   go_ret
   refine ⟨C,Y,?_,HY.out.2⟩
   rw [HY.out.1]; rfl
end
end Go.Proofs.YtjcflddbaeiajacGreatDoor
