/-
  On the way to SPlaysProof: O21 O23 O24 O25.
-/
import Derived.Test.YtaehdgemkafinaaGreatDoorBw38
set_option maxHeartbeats 8000000
set_option maxRecDepth 100000
namespace Go.Proofs.YtaehdgemkafinaaGreatDoor
open Go.RowKit
def IsSs (w:World) (ad:Option Addr) (xs:List ByteArray):Prop:=∀ i (h:i<xs.length),∃ b o,ad=some ⟨b,o,none⟩∧w.cell? ⟨b,o+i,none⟩=some (.string (xs[i]'h))
theorem IsSs.later {w w':World} {ad:Option Addr} {xs:List ByteArray} (h:IsSs w ad xs) (hb:Below w.heap.size w w'):IsSs w' ad xs:=fun i hi=>by
 obtain ⟨b,o,h1,h2⟩:=h i hi
 exact ⟨b,o,h1,cell_later hb h2⟩
def wordsL (s:ByteArray):List Bs:=(wordsB s).map (·.data.toList)
def strV (l:List Bs):List Value:=l.map fun x=>Value.string (bB x)
theorem runP_take:∀ (st:PSt) (ls:List (List Bs)) (k:Nat) (h:k<ls.length),runP st (ls.take (k+1))=((runP st (ls.take k)).1 ++ [sayO (lineP (runP st (ls.take k)).2 (ls[k]'h)).1],(lineP (runP st (ls.take k)).2 (ls[k]'h)).2)
 | st,l :: r,0,h=>rfl
 | st,l :: r,k+1,h=>by
  have:=runP_take (lineP st l).2 r k (by simpa using h)
  simp only [List.take_succ_cons,List.getElem_cons_succ]
  unfold runP
  rw [this]
  rfl
theorem plo_grown {w0 wc w w':World} {pb:Nat} {C:Nat→Nat} {st:PSt} {m:Nat} {row:Option Nat} (h:PlO w0 wc w pb C st m) (hg:w.grownBy w' row) (hr:∀ y,row=some y→wc.heap.size≤y) (hc:∀ y,row=some y→2000≤C y):PlO w0 wc w' pb C st m:=by
 have hk:=grown_kept hg
 have hlo:=h.lo
 have hlp:=h.lp
 have hrp:row≠some pb:=fun e=>by have:=hr pb e; omega
 refine ⟨Below.grown h.bel hg h.bel.size (fun y hy=>by have:=hr y hy; omega),h.lo,h.lp,fun x hx hn=>?_,h.far,Nat.le_trans h.sz hk.size,fun x hx=>Nat.lt_of_lt_of_le (h.top x hx) hk.size,?_⟩
 ·exact (hg.block x (Nat.lt_of_lt_of_le hx h.sz) (fun e=>by have:=hr x e.symm; omega)).trans (h.fz x hx hn)
 ·have h2:=h.st
  have hpl:pb<w.heap.size:=Nat.lt_of_lt_of_le hlp h.sz
  have hb:w'.heap[pb]? = w.heap[pb]?:=hg.block pb hpl (fun e=>hrp e.symm)
  unfold StO at *
  split
  ·exact hb.trans h2
  ·obtain ⟨X,k,h1,h3,h4,h5⟩:=h2
   exact ⟨X,k,hb.trans h1,h3.far hk hc (fun x hx=>by have:=hr x hx; omega),h4,h5⟩
structure RlO (w0 wc wr:World) (pb:Nat) (ls:List (List Bs)) (k:Nat) (u:Value) (C:Nat→Nat):Prop where
 pl:PlO w0 wc wr pb C (runP none (ls.take k)).2 (672 * k)
 own:wr.ownsRow wc.heap.size 9 1 u k (strV (runP none (ls.take k)).1)
 far:∀ g,u.ownBlock=some g→2000≤C g
section
variable {w0 w:World} {A:Nat→Addr}
theorem scRun_any (ad:Option Addr) (cap:Nat) (xs:List ByteArray) (hl:xs.length≤100) (hs:∀ x,x∈xs→x.size≤1000) (hx:IsSs w ad xs) (hE:Held9 w A) (hT:TabO w) (hX:TxtO w A) :
  Calls Tryz.prog 7 #[.slice ad xs.length cap] w fun e w'=>∃ u,e=.returned (.tuple #[u,.nilIface])∧w'.ownsRow w.heap.size 9 1 u xs.length (strV (runP none (xs.map wordsL)).1)∧Below w.heap.size w w':=by
 have HE:=hid hE
 have HT:=hid hT
 have HX:=hid hX
 have HXs:=hid hx
 have HS:=hid hs
 obtain ⟨n,Hn⟩:∃ n,Hid (xs.length=n):=⟨_,rfl⟩
 rw [Hn.out] at hl ⊢
 have h100:¬ (100:Int)<(n:Int):=by omega
 obtain ⟨W0,HW0⟩:∃ W0,Hid (w.alloc (.cells #[.pointer none,.int .i64 0] 47)=W0):=⟨_,rfl⟩
 have hr0:=heap_alloc_new w (.cells #[.pointer none,.int .i64 0] 47)
 have hb0:Below w.heap.size w (w.alloc (.cells #[.pointer none,.int .i64 0] 47)):=(Below.refl _ _).alloc (Nat.le_refl _) _
 rw [HW0.out] at hr0 hb0
 have HR0:=hid hr0
 have HB0:=hid hb0
 have HC:=hid (commands_any w.heap.size W0 (row_ltJ hr0))
 have hW0:=HW0.out
 clear hE hT hX hx hs hr0 hb0
 go_enter Tryz.func7,Tryz.ntmps7
 go_wp2_with fail
 refine HC.out.mono ?_
 rintro e wc ⟨mb,bb,vs,rfl,hcm,hbc,hlm⟩
 have HEnv:Hid (EnvO w wc mb w.heap.size bb vs A):=⟨hcm,HE.out,HT.out,Nat.lt_of_lt_of_le (row_ltJ HR0.out) hlm⟩
 have HI0:Hid (RlO w wc wc w.heap.size (xs.map wordsL) 0 (.slice none 0 0) (fun _=>2000)):=by
  refine ⟨⟨HB0.out.trans (hbc.mono HB0.out.size),Nat.le_refl _,Nat.lt_of_lt_of_le (row_ltJ HR0.out) hbc.size,fun _ _ _=>rfl,fun x h=>absurd h (by decide),Nat.le_refl _,fun x h=>absurd h (by decide),?_⟩,World.ownsRow_nil _ _ _ _,(fun g hg=>by cases hg)⟩
  exact (hbc.block _ (row_ltJ HR0.out)).trans HR0.out
 have HBc:=hid (HB0.out.trans (hbc.mono HB0.out.size))
 clear hcm hbc hlm
 go_wp2_with fail
 go_loopw [6,19] (fun u v wr=>∃ (k:Nat) (C:Nat→Nat),k≤n∧v=.int .i64 (k:Int)∧Hid (RlO w wc wr w.heap.size (xs.map wordsL) k u C)) (fun _ v _=>n - (intOf v).toNat)
 case atStart=>exact ⟨0,_,Nat.zero_le _,rfl,HI0.out⟩
 case round =>
  obtain ⟨k,C,hk,rfl,HI⟩:=hrel
  obtain ⟨adu,capu,hu⟩:=own_formO HI.out.own
  subst hu
  by_cases hlt:k<n
  ·have hlt2:(k:Int)<(n:Int):=by omega
   have hkx:k<xs.length:=by rw [Hn.out]; exact hlt
   obtain ⟨b,o,hadr,c0⟩:=HXs.out.later HI.out.pl.bel k hkx
   subst hadr
   obtain ⟨x,HXk⟩:∃ x,Hid (xs[k]'hkx=x):=⟨_,rfl⟩
   rw [HXk.out] at c0
   have hxs:x.size≤1000:=HS.out x (by rw [← HXk.out]; exact List.getElem_mem hkx)
   have HAn:=hid (answer_sc x HEnv.out HX.out HI.out.pl hxs (by omega) (Nat.le_of_eq (show 672 * k+672=672 * (k+1) by omega)))
   have hkm:k<(xs.map wordsL).length:=by rw [List.length_map]; exact hkx
   have HSt:=hid (runP_take none (xs.map wordsL) k hkm)
   have hgk:(xs.map wordsL)[k]'hkm=(wordsB x).map (·.data.toList):=by rw [List.getElem_map,HXk.out]; rfl
   rw [hgk] at HSt
   obtain ⟨r,Hr⟩:∃ r,Hid (lineP (runP none ((xs.map wordsL).take k)).2 ((wordsB x).map (·.data.toList))=r):=⟨_,rfl⟩
   rw [Hr.out] at HAn HSt
   clear hgk
   go_wp2_with fail
   refine HAn.out.mono ?_
   rintro e w1 ⟨rfl,C1,hp1,hk1,hc1⟩
   have hown1:w1.ownsRow wc.heap.size 9 1 (.slice adu k capu) k (strV (runP none ((xs.map wordsL).take k)).1):=own_kept HI.out.own hk1 (fun g hg e=>by
    have h1:=(HI.out.own.lt g hg).1
    have h2:=HI.out.far g hg
    have h3:=HI.out.pl.lp
    rcases e with e|e
    ·omega
    ·omega)
   have hfar1:∀ g,(Value.slice adu k capu).ownBlock=some g→2000≤C1 g:=fun g hg=>hc1 g (HI.out.own.lt g hg).2 (HI.out.far g hg)
   obtain ⟨t,Ht⟩:∃ t,Hid (sayO r.1=t):=⟨_,rfl⟩
   rw [Ht.out]
   obtain ⟨W2,HW2⟩:∃ W2,Hid (w1.alloc (.cells #[.string (bB t)] 9)=W2):=⟨_,rfl⟩
   have HB2:Hid (Below w1.heap.size w1 W2):=by rw [← HW2.out]; exact (Below.refl _ _).alloc (Nat.le_refl _) _
   have HO2:=hid (own_later hown1 HB2.out (Nat.le_refl _))
   have HLit:Hid (∀ j z,[Value.string (bB t)][j]? = some z→W2.cell? ((⟨w1.heap.size,0,none⟩:Addr).add j)=some z):=by rw [← HW2.out]; exact lit_one w1 9 (.string (bB t))
   have hbs:wc.heap.size≤W2.heap.size:=Nat.le_trans hp1.sz HB2.out.size
   have HG:=hid (And.intro hp1 hfar1)
   have hW2:=HW2.out
   clear hp1 hk1 hc1 hown1 hfar1 c0
   go_wp2_with (at_builtin; refine append_str rfl _ _ rfl wc.heap.size k (.slice adu k capu) (strV (runP none ((xs.map wordsL).take k)).1) ⟨w1.heap.size,0,none⟩ 1 (bB t) rfl rfl HO2.out HLit.out (by omega) hbs ?_; intro ad' cap' w3 hown hg hat; have HS3:=hid (And.intro hown (And.intro hg hat)); clear hown hg hat)
   go_roundw
   case rel =>
    refine ⟨k+1,C1,by omega,by go_num,?_⟩
    have hp2:=HG.out.1.later HB2.out
    have hgb:∀ y,(Value.slice adu k capu).ownBlock=some y→wc.heap.size≤y:=fun y hy=>(HO2.out.lt y hy).1
    refine ⟨?_,?_,fun g hg'=>?_⟩
    ·rw [HSt.out]
     exact plo_grown hp2 HS3.out.2.1 hgb HG.out.2
    ·rw [HSt.out,Ht.out]
     show w3.ownsRow _ _ _ _ _ (strV (_ ++ [t]))
     unfold strV
     rw [List.map_append]
     exact HS3.out.1
    ·rcases HS3.out.2.2 with e|e
     ·rw [e] at hg'; exact HG.out.2 g hg'
     ·rw [e] at hg'
      obtain rfl:=Option.some.inj hg'
      rcases Nat.lt_or_ge (C1 W2.heap.size) 2000 with q|q
      ·have:=hp2.top _ q; omega
      ·exact q
   case measure=>simp [intOf]; omega
  ·obtain rfl:k=n:=by omega
   have hlt2:¬ (k:Int)<(k:Int):=by omega
   have HO:=HI.out.own
   rw [List.take_of_length_le (by rw [List.length_map]; exact Nat.le_of_eq Hn.out)] at HO
   have HOh:=hid HO
   clear HO
   go_wp2_with fail
   go_ret2
   exact ⟨_,rfl,own_baseO HOh.out HBc.out.size,HI.out.pl.bel⟩
end
def SlS (w:World) (v:Value) (xs:List ByteArray):Prop:=∃ ad cap,v=.slice ad xs.length cap∧IsSs w ad xs
theorem SlS.later {w w':World} {v:Value} {xs:List ByteArray} (h:SlS w v xs) (hb:Below w.heap.size w w'):SlS w' v xs:=by
 obtain ⟨ad,cap,h1,h2⟩:=h
 exact ⟨ad,cap,h1,h2.later hb⟩
theorem SlS.owned {w:World} {B n:Nat} {v:Value} {xs:List ByteArray} (hn:xs.length=n) (h:w.ownsRow B 9 1 v n (xs.map Value.string)):SlS w v xs:=by
 have hc:=h
 rcases h.2 with ⟨e,h0⟩|⟨g,cap,cur,e,-⟩
 ·refine ⟨none,0,by rw [e,hn,h0],fun i hi=>by omega⟩
 ·refine ⟨_,cap,by rw [e,hn],fun i hi=>⟨g,0,rfl,?_⟩⟩
  subst e
  have:=hc.cells rfl i (.string (xs[i]'hi)) (by rw [List.getElem?_map,List.getElem?_eq_getElem hi]; rfl)
  rw [addr_add] at this
  exact this
theorem SlS.lit (w:World) (t:TypeId) (xs:List ByteArray) (n:Nat) (hn:xs.length=n):SlS (w.alloc (.cells (xs.map Value.string).toArray t)) (.slice (some ⟨w.heap.size,0,none⟩) n n) xs :=
 ⟨_,n,by rw [hn],fun i hi=>⟨w.heap.size,0,rfl,by rw [Nat.zero_add]; exact lit_get w t xs i _ (List.getElem?_eq_getElem hi)⟩⟩
theorem sameT_yes (v1 v2:Value) (xs:List ByteArray) (w:World) (h1:SlS w v1 xs) (h2:SlS w v2 xs) (hl:xs.length≤1000) :
  Calls Tryz.prog 12 #[v1,v2] w fun e w'=>e=.returned (.bool true)∧Below w.heap.size w w':=by
 obtain ⟨a1,c1,rfl,g1⟩:=h1
 obtain ⟨a2,c2,rfl,g2⟩:=h2
 have G1:=hid g1
 have G2:=hid g2
 obtain ⟨n,Hn⟩:∃ n,Hid (xs.length=n):=⟨_,rfl⟩
 rw [Hn.out] at hl ⊢
 clear g1 g2
 go_enter Tryz.func12,Tryz.ntmps12
 go_wp2_with fail
 go_loopw [5] (fun v wr=>∃ k:Nat,k≤n∧v=.int .i64 (k:Int)∧Hid (Below w.heap.size w wr)) (fun v _=>n - (intOf v).toNat)
 case atStart=>exact ⟨0,Nat.zero_le _,rfl,Below.refl _ _⟩
 case round =>
  obtain ⟨k,hk,rfl,HB⟩:=hrel
  by_cases hlt:k<n
  ·have hlt2:(k:Int)<(n:Int):=by omega
   have hkl:k<xs.length:=by rw [Hn.out]; exact hlt
   obtain ⟨b1,o1,e1,y1⟩:=(G1.out.later HB.out) k hkl
   obtain ⟨b2,o2,e2,y2⟩:=(G2.out.later HB.out) k hkl
   subst e1 e2
   generalize xs[k]'hkl=x at y1 y2
   go_wp2_with fail
   go_quiet (fail)
   go_wp2_with fail
   go_roundw
   case rel=>exact ⟨k+1,by omega,by go_num,below_drewN HB.out _⟩
   case measure=>simp [intOf]; omega
  ·obtain rfl:k=n:=by omega
   have hlt2:¬ (k:Int)<(k:Int):=by omega
   go_wp2_with fail
   go_ret
   exact ⟨rfl,HB.out⟩
def splO:Bs→List Bs
 | []=>[[]]
 | c :: r=>if c=32 then [] :: splO r else match splO r with
  | []=>[[c]]
  | h :: t=>(c :: h) :: t
theorem ib_hit (r:Bs):Lib.indexByte (32 :: r) 32=0:=by
 unfold Lib.indexByte
 simp
theorem ib_miss (c:UInt8) (r:Bs) (h:c≠32):Lib.indexByte (c :: r) 32=if Lib.indexByte r 32=-1 then -1 else Lib.indexByte r 32+1:=by
 rw [Lib.indexByte]
 simp [h]
theorem ib_ge:∀ r:Bs,Lib.indexByte r 32=-1 ∨ 0≤Lib.indexByte r 32
 | []=>.inl rfl
 | c :: r=>by
  by_cases h:c=32
  ·subst h; rw [ib_hit]; exact .inr (Int.le_refl 0)
  ·rw [ib_miss c r h]
   rcases ib_ge r with q|q
   ·rw [if_pos q]; exact .inl rfl
   ·rw [if_neg (by omega)]; right; omega
theorem ib_count:∀ r:Bs,Lib.indexByte r 32=-1 ↔ r.count 32=0
 | []=>⟨fun _=>rfl,fun _=>rfl⟩
 | c :: r=>by
  by_cases h:c=32
  ·subst h
   rw [ib_hit,List.count_cons_self]
   constructor
   ·intro q; omega
   ·intro q; omega
  ·rw [ib_miss c r h,List.count_cons_of_ne h]
   have ih:=ib_count r
   have hg:=ib_ge r
   constructor
   ·intro q
    refine ih.1 ?_
    rcases hg with g|g
    ·exact g
    ·rw [if_neg (by omega)] at q; omega
   ·intro q
    rw [if_pos (ih.2 q)]
theorem spl_eq:∀ s:Bs,Lib.splitK [32] 0 (s.count 32) s=splO s
 | []=>rfl
 | c :: r=>by
  have ih:=spl_eq r
  by_cases h:c=32
  ·subst h
   rw [List.count_cons_self]
   unfold Lib.splitK splO
   rw [Lib.index_one,ib_hit,if_neg (by decide),if_pos rfl]
   simp only [Int.toNat_zero,List.take_zero,Nat.zero_add,Nat.add_zero,List.length_singleton,List.drop_succ_cons,List.drop_zero]
   rw [ih]
  ·rw [List.count_cons_of_ne h]
   unfold splO
   rw [if_neg h,← ih]
   cases hc:r.count 32 with
   | zero=>rfl
   | succ k =>
    have hg:¬ Lib.indexByte r 32=-1:=fun q=>by rw [(ib_count r).1 q] at hc; cases hc
    obtain ⟨i,hi⟩:∃ i:Nat,Lib.indexByte r 32=(i:Int):=by
     rcases ib_ge r with g|g
     ·exact absurd g hg
     ·exact ⟨_,(Int.toNat_of_nonneg g).symm⟩
    unfold Lib.splitK
    rw [Lib.index_one,Lib.index_one,ib_miss c r h,if_neg hg,hi]
    rw [if_neg (by simp; omega),if_neg (by simp)]
    simp only [Int.toNat_natCast,show ((i:Int)+1).toNat=i+1 by omega,List.length_singleton,Nat.add_zero,List.take_succ_cons,List.drop_succ_cons]
theorem words_spl (s:ByteArray):wordsL s=splO s.data.toList:=by
 unfold wordsL wordsB
 rw [Lib.splitB_data]
 show Lib.splitK [32] 0 (Lib.count s.data.toList [32]) s.data.toList=_
 rw [Lib.count_one]
 exact spl_eq _
def helloIn:List ByteArray:=[⟨#[115,105,116,101,115,32,49,32,49]⟩,⟨#[98,101,103,105,110,32,48,32,51]⟩,⟨#[97,108,108]⟩,⟨#[115,116,97,116,101,32,49,32,51]⟩,⟨#[101,118,101,110,116,115]⟩]
def helloOut:List Bs:=[[111,107],[111,107],[49,48],[99,111,109,109,105,116,116,101,100,32,48,32,48],[48,32,51,32,99,111,109,109,105,116,116,101,100,44,32,49,32,51,32,99,111,109,109,105,116,116,101,100]]
theorem hello_words:helloIn.map wordsL=[[[115,105,116,101,115],[49],[49]],[[98,101,103,105,110],[48],[51]],[[97,108,108]],[[115,116,97,116,101],[49],[51]],[[101,118,101,110,116,115]]]:=by
 have:helloIn.map wordsL=helloIn.map fun s=>splO s.data.toList:=List.map_congr_left fun s _=>words_spl s
 rw [this]
 decide
theorem hello_1:lineP none [[115,105,116,101,115],[49],[49]]=((0,[111,107]),some ([1,1],newX)):=by
 unfold lineP
 rw [show cmdO (([[115,105,116,101,115],[49],[49]]:List Bs).headD [])=some 0 by decide]
 simp only
 rw [show readO (formO.getD 0 []) (0 == 0) ([[115,105,116,101,115],[49],[49]]:List Bs).tail=some [1,1] by decide]
 rfl
theorem hello_2:lineP (some ([1,1],newX)) [[98,101,103,105,110],[48],[51]]=((0,[111,107]),some ([1,1],beginX [1,1] newX 0 3)):=by
 unfold lineP
 rw [show cmdO (([[98,101,103,105,110],[48],[51]]:List Bs).headD [])=some 1 by decide]
 simp only
 rw [show readO (formO.getD 1 []) (1 == 0) ([[98,101,103,105,110],[48],[51]]:List Bs).tail=some [0,3] by decide]
 show (((cBeg 2 newX 0 3,[111,107]):Nat×Bs),some (([1,1]:List Int),if cBeg 2 newX 0 3=0 then beginX [1,1] newX 0 3 else newX))=_
 rw [hello_world.2.2.2]
 rfl
theorem hello_3 (V:PX):lineP (some ([1,1],V)) [[97,108,108]]=((0,Lib.decDigits (delN [1,1] 3000 V)),some ([1,1],delX [1,1] 3000 V)):=by
 unfold lineP
 rw [show cmdO (([[97,108,108]]:List Bs).headD [])=some 13 by decide]
 simp only
 rw [show readO (formO.getD 13 []) (13 == 0) ([[97,108,108]]:List Bs).tail=some [] by decide]
 rfl
theorem hello_4 (V:PX):lineP (some ([1,1],V)) [[115,116,97,116,101],[49],[51]]=((0,stateO (stN (V.nd 1) 3).ph (stN (V.nd 1) 3).pr (stN (V.nd 1) 3).at_),some ([1,1],V)):=by
 unfold lineP
 rw [show cmdO (([[115,116,97,116,101],[49],[51]]:List Bs).headD [])=some 15 by decide]
 simp only
 rw [show readO (formO.getD 15 []) (15 == 0) ([[115,116,97,116,101],[49],[51]]:List Bs).tail=some [1,3] by decide]
 rfl
theorem hello_5 (V:PX):lineP (some ([1,1],V)) [[101,118,101,110,116,115]]=((0,eventsO V.evs),some ([1,1],V)):=by
 unfold lineP
 rw [show cmdO (([[101,118,101,110,116,115]]:List Bs).headD [])=some 18 by decide]
 simp only
 rw [show readO (formO.getD 18 []) (18 == 0) ([[101,118,101,110,116,115]]:List Bs).tail=some [] by decide]
 rfl
theorem hello_run:(runP none (helloIn.map wordsL)).1=helloOut:=by
 rw [hello_words]
 simp only [runP,hello_1,hello_2,hello_3,hello_4,hello_5]
 rw [hello_world.1,hello_world.2.1,hello_world.2.2.1]
 have h10:Lib.decDigits 10=[49,48]:=by rw [Lib.decDigits_two (by decide) (by decide)]; rfl
 have h0:Lib.decDigits 0=[48]:=by rw [Lib.decDigits_one (by decide)]; rfl
 have h1:Lib.decDigits 1=[49]:=by rw [Lib.decDigits_one (by decide)]; rfl
 have h3:Lib.decDigits 3=[51]:=by rw [Lib.decDigits_one (by decide)]; rfl
 have hs:stateO 2 0 0=[99,111,109,109,105,116,116,101,100,32,48,32,48]:=by
  show phaseO 2 ++ 32 :: (Lib.decDigits 0 ++ 32 :: Lib.decDigits 0)=_
  rw [h0]; rfl
 have he:eventsO [⟨0,3,2⟩,⟨1,3,2⟩]=[48,32,51,32,99,111,109,109,105,116,116,101,100,44,32,49,32,51,32,99,111,109,109,105,116,116,101,100]:=by
  unfold eventsO
  rw [if_neg (by simp)]
  show Lib.join [Lib.decDigits 0 ++ 32 :: (Lib.decDigits 3 ++ 32 :: phaseO 2),Lib.decDigits 1 ++ 32 :: (Lib.decDigits 3 ++ 32 :: phaseO 2)] [44,32]=_
  rw [h0,h1,h3]; rfl
 rw [h10,hs,he]
 rfl
theorem hello_any {w:World} {A:Nat→Addr} (hE:Held9 w A) (hT:TabO w) (hX:TxtO w A) :
  Calls Tryz.prog 6 #[] w fun e w'=>e=.returned (.bool true)∧Below w.heap.size w w':=by
 obtain ⟨W1,HW1⟩:∃ W1,Hid (w.alloc (.cells (helloIn.map Value.string).toArray 9)=W1):=⟨_,rfl⟩
 have hb1:Below w.heap.size w W1:=by rw [← HW1.out]; exact (Below.refl _ _).alloc (Nat.le_refl _) _
 have hsl:SlS W1 (.slice (some ⟨w.heap.size,0,none⟩) 5 5) helloIn:=by rw [← HW1.out]; exact SlS.lit w 9 helloIn 5 rfl
 obtain ⟨ad,cap,e,hss⟩:=hsl
 injection e with e1 e2 e3
 subst e1 e3
 have HR:=hid (scRun_any (w:=W1) (A:=A) (some ⟨w.heap.size,0,none⟩) 5 helloIn (by decide) (by decide) hss (hE.later hb1) (hT.later hb1) (fun c hc=>cell_later hb1 (hX c hc)))
 rw [show helloIn.length=5 from rfl,hello_run] at HR
 have HB1:=hid hb1
 have hW1:w.alloc (.cells #[.string ⟨#[115,105,116,101,115,32,49,32,49]⟩,.string ⟨#[98,101,103,105,110,32,48,32,51]⟩,.string ⟨#[97,108,108]⟩,.string ⟨#[115,116,97,116,101,32,49,32,51]⟩,.string ⟨#[101,118,101,110,116,115]⟩] 9)=W1:=HW1.out
 clear e2 hss hE hT hX hb1
 go_enter Tryz.func6,Tryz.ntmps6
 go_wp2_with fail
 refine HR.out.mono ?_
 rintro e w2 ⟨u,rfl,ho,hb2⟩
 have HS1:Hid (SlS w2 u (helloOut.map bB)):=SlS.owned (n:=5) rfl ho
 obtain ⟨W3,HW3⟩:∃ W3,Hid (w2.alloc (.cells ((helloOut.map bB).map Value.string).toArray 9)=W3):=⟨_,rfl⟩
 have hb3:Below w2.heap.size w2 W3:=by rw [← HW3.out]; exact (Below.refl _ _).alloc (Nat.le_refl _) _
 have hs2:SlS W3 (.slice (some ⟨w2.heap.size,0,none⟩) 5 5) (helloOut.map bB):=by rw [← HW3.out]; exact SlS.lit w2 9 (helloOut.map bB) 5 rfl
 have HSm:=hid (sameT_yes u _ _ W3 (HS1.out.later hb3) hs2 (by decide))
 have HB3:=hid (below_trans HB1.out (below_trans hb2 hb3))
 have hW3:w2.alloc (.cells #[.string ⟨#[111,107]⟩,.string ⟨#[111,107]⟩,.string ⟨#[49,48]⟩,.string ⟨#[99,111,109,109,105,116,116,101,100,32,48,32,48]⟩,.string ⟨#[48,32,51,32,99,111,109,109,105,116,116,101,100,44,32,49,32,51,32,99,111,109,109,105,116,116,101,100]⟩] 9)=W3:=HW3.out
 clear ho hb2 hb3 hs2
 go_wp2_with fail
 refine HSm.out.mono ?_
 rintro e w4 ⟨rfl,hb4⟩
 have HB4:=hid (below_trans HB3.out hb4)
 clear hb4
 go_wp2_with fail
 go_ret
 exact ⟨rfl,HB4.out⟩
end Go.Proofs.YtaehdgemkafinaaGreatDoor
