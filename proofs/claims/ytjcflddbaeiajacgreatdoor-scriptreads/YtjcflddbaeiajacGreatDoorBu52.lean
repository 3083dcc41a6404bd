/-
  On the way to SReadsProof: O28.
-/
import Derived.Test.YtjcflddbaeiajacGreatDoorBu51
set_option maxHeartbeats 8000000
set_option maxRecDepth 100000
namespace Go.Proofs.YtjcflddbaeiajacGreatDoor
open Go.RowKit
theorem eText_1 (w:World):Calls Tryz.prog 40 #[.int .i64 1] w fun e w'=>e=.returned (.string (bB (errO 1)))∧Below w.heap.size w w':=by
 obtain ⟨W1,HW1⟩:∃ W1,Hid (w.alloc (.cells #[.string ⟨#[116,101,120,116]⟩,.string ⟨#[98,111,117,110,100]⟩,.string ⟨#[115,104,97,112,101]⟩,.string ⟨#[110,111,110,101]⟩,.string ⟨#[102,117,108,108]⟩,.string ⟨#[111,102,102]⟩,.string ⟨#[115,117,109]⟩,.string ⟨#[104,101,108,100]⟩,.string ⟨#[115,112,108,105,116]⟩] 9)=W1):=⟨_,rfl⟩
 have HB:Hid (Below w.heap.size w W1):=by rw [← HW1.out]; exact (Below.refl _ _).alloc (Nat.le_refl _) _
 have c0:W1.cell? ⟨w.heap.size,0,none⟩=some (.string ⟨#[116,101,120,116]⟩):=by
  rw [← HW1.out]
  have hr:=heap_alloc_new w (.cells #[.string ⟨#[116,101,120,116]⟩,.string ⟨#[98,111,117,110,100]⟩,.string ⟨#[115,104,97,112,101]⟩,.string ⟨#[110,111,110,101]⟩,.string ⟨#[102,117,108,108]⟩,.string ⟨#[111,102,102]⟩,.string ⟨#[115,117,109]⟩,.string ⟨#[104,101,108,100]⟩,.string ⟨#[115,112,108,105,116]⟩] 9)
  rw [cell_of_row _ _ _ _ _ _ hr]; rfl
 have hW:=HW1.out
 go_enter Tryz.func40,Tryz.ntmps40
 go_wp2_with fail
 go_ret
 exact ⟨rfl,HB.out⟩
theorem takeB {x:ByteArray} {j:Nat} (h:j<x.size):x.data.toList.take (j+1)=x.data.toList.take j ++ [x[j]'h]:=by
 rw [List.take_succ_eq_append_getElem (by simpa using h)]
 rfl
theorem bB_snoc {x:ByteArray} {j:Nat} (h:j<x.size):bB (x.data.toList.take j) ++ x.extract j (j+1)=bB (x.data.toList.take (j+1)):=by
 refine ByteArray.ext (Array.ext' ?_)
 rw [ByteArray.data_append,Array.toList_append,Lib.extract_data,takeB h]
 show (x.data.toList.take j).toArray.toList ++ _=(x.data.toList.take j ++ [x[j]'h]).toArray.toList
 rw [List.toList_toArray,List.toList_toArray]
 congr 1
 have h1:j<x.data.toList.length:=by simpa using h
 rw [List.drop_eq_getElem_cons h1,show j+1 - j=1 by omega,List.take_succ_cons,List.take_zero]
 rfl
theorem act_tail {a0 a:Act} {v:Value} (hz:a.tmps.size=121) (h0:a0.tmps.size=121) (hdf:a.defers=a0.defers) (hold:∀ s,s<104→a.eval (.tmp s)=a0.eval (.tmp s)) (h:a.eval (.tmp 120)=v) :
  ∃ y0 y1 y2 y3 y4 y5 y6 y7 y8 y9 y10 y11 y12 y13 y14 y15:Value,a=⟨(a0.tmps.toList.take 104 ++ [y0,y1,y2,y3,y4,y5,y6,y7,y8,y9,y10,y11,y12,y13,y14,y15,v]).toArray,a0.defers⟩:=by
 obtain ⟨⟨l⟩,df⟩:=a
 obtain ⟨⟨l0⟩,df0⟩:=a0
 have hz':l.length=121:=hz
 have h0':l0.length=121:=h0
 subst hdf
 have ev:∀ s,∀ (m:List Value) (q:List Deferred),(⟨⟨m⟩,q⟩:Act).eval (.tmp s)=m.getD s undef:=fun s m q=>by simp [Act.eval,List.getD]
 have h120:l.getD 120 undef=v:=by rw [← ev 120 l df]; exact h
 have ht:l.take 104=l0.take 104:=by
  refine List.ext_getElem (by simp [hz',h0']) fun s h1 h2=>?_
  have h3:s<104:=by simp at h1; omega
  have h4:=hold s h3
  rw [ev,ev,List.getD,List.getD,List.getElem?_eq_getElem (by omega),List.getElem?_eq_getElem (by omega),Option.getD_some,Option.getD_some] at h4
  simpa using h4
 have hl:l=l.take 104 ++ l.drop 104:=(List.take_append_drop 104 l).symm
 have hd:(l.drop 104).length=17:=by simp [hz']
 have hv:(l.drop 104).getD 16 undef=v:=by rw [← h120]; simp [List.getD]
 generalize l.drop 104=r at hl hd hv
 match r,hd with
 | [y0,y1,y2,y3,y4,y5,y6,y7,y8,y9,y10,y11,y12,y13,y14,y15,z],_ =>
  refine ⟨y0,y1,y2,y3,y4,y5,y6,y7,y8,y9,y10,y11,y12,y13,y14,y15,?_⟩
  have:z=v:=hv
  subst this
  rw [hl,ht]
structure TkO (w wr:World) (xs:List ByteArray) (k:Nat) (u:Value):Prop where
 bel:Below w.heap.size w wr
 own:wr.ownsRow w.heap.size 9 1 u k ((xs.take k).map Value.string)
 sm:∀ x,x∈xs.take k→x.size≤100
section
variable {w:World} {A:Nat→Addr}
theorem sreads_any (ad:Option Addr) (cap:Nat) (xs:List ByteArray) (hx:IsSs w ad xs) (hE:Held9 w A) (hT:TabO w) (hX:TxtO w A) :
  Calls Tryz.prog 9 #[.slice ad xs.length cap] w fun e w'=>e=.returned (.bool true)∧Below w.heap.size w w':=by
 have HE:=hid hE
 have HT:=hid hT
 have HX:=hid hX
 have HXs:=hid hx
 obtain ⟨n,Hn⟩:∃ n,Hid (xs.length=n):=⟨_,rfl⟩
 rw [Hn.out]
 have HH:=hid (hello_any hE hT hX)
 clear hx hE hT hX
 by_cases h110:110<n
 ·have h110':(110:Int)<(n:Int):=by omega
  go_enter Tryz.func9,Tryz.ntmps9
  go_wp2_with fail
  refine HH.out.mono ?_
  rintro e w1 ⟨rfl,hb1⟩
  have HB1:=hid hb1
  clear hb1
  go_wp2_with fail
  go_ret
  exact ⟨rfl,HB1.out⟩
 have h110':¬ (110:Int)<(n:Int):=by omega
 go_enter Tryz.func9,Tryz.ntmps9
 go_wp2_with fail
 refine HH.out.mono ?_
 rintro e w1 ⟨rfl,hb1⟩
 have HB1:=hid hb1
 have HXs1:=hid (HXs.out.later hb1)
 clear hb1
 go_wp2_with fail
 go_loopw [4,5] (fun u v wr=>∃ k:Nat,k≤n∧v=.int .i64 (k:Int)∧Hid (TkO w1 wr xs k u)) (fun _ v _=>n - (intOf v).toNat)
 case atStart=>exact ⟨0,Nat.zero_le _,rfl,⟨Below.refl _ _,World.ownsRow_nil _ _ _ _,fun x h=>by simp at h⟩⟩
 case round =>
  obtain ⟨k,hk,rfl,HI⟩:=hrel
  obtain ⟨adu,capu,hu⟩:=own_formO HI.out.own
  subst hu
  by_cases hlt:k<n
  ·have hlt2:(k:Int)<(n:Int):=by omega
   have hkx:k<xs.length:=by rw [Hn.out]; exact hlt
   obtain ⟨b,o,hadr,c0⟩:=HXs1.out.later HI.out.bel k hkx
   subst hadr
   obtain ⟨x,HXk⟩:∃ x,Hid (xs[k]'hkx=x):=⟨_,rfl⟩
   rw [HXk.out] at c0
   by_cases hsz:100<x.size
   ·have hsz':(100:Int)<(x.size:Int):=by omega
    go_wp2_with fail
    go_ret
    exact ⟨rfl,below_trans HB1.out HI.out.bel⟩
   ·have hsz':¬ (100:Int)<(x.size:Int):=by omega
    obtain ⟨W2,HW2⟩:∃ W2,Hid (wr.alloc (.cells #[.string x] 9)=W2):=⟨_,rfl⟩
    have HB2:Hid (Below wr.heap.size wr W2):=by rw [← HW2.out]; exact (Below.refl _ _).alloc (Nat.le_refl _) _
    have HO2:=hid (own_later HI.out.own HB2.out (Nat.le_refl _))
    have HLit:Hid (∀ j z,[Value.string x][j]? = some z→W2.cell? ((⟨wr.heap.size,0,none⟩:Addr).add j)=some z):=by rw [← HW2.out]; exact lit_one wr 9 (.string x)
    have hbs:w1.heap.size≤W2.heap.size:=Nat.le_trans HI.out.bel.size HB2.out.size
    have hW2:=HW2.out
    go_wp2_with (at_builtin; refine append_str rfl _ _ rfl w1.heap.size k (.slice adu k capu) ((xs.take k).map Value.string) ⟨wr.heap.size,0,none⟩ 1 x rfl rfl HO2.out HLit.out (by omega) hbs ?_; intro ad' cap' w3 hown hg hat; have HS3:=hid (And.intro hown (And.intro hg hat)); clear hown hg hat)
    go_roundw
    case rel =>
     refine ⟨k+1,by omega,by go_num,?_⟩
     have htk:xs.take (k+1)=xs.take k ++ [x]:=by rw [List.take_succ_eq_append_getElem hkx,HXk.out]
     have hgb:∀ y,(Value.slice adu k capu).ownBlock=some y→w1.heap.size≤y:=fun y hy=>(HO2.out.lt y hy).1
     refine ⟨Below.grown (HI.out.bel.trans (HB2.out.mono HI.out.bel.size)) HS3.out.2.1 hbs hgb,?_,fun y hy=>?_⟩
     ·rw [htk,List.map_append]; exact HS3.out.1
     ·rw [htk] at hy
      rcases List.mem_append.1 hy with h|h
      ·exact HI.out.sm y h
      ·obtain rfl:y=x:=by simpa using h
       omega
    case measure=>simp [intOf]; omega
  ·obtain rfl:k=n:=by omega
   have hlt2:¬ (k:Int)<(k:Int):=by omega
   have htk:xs.take k=xs:=List.take_of_length_le (Nat.le_of_eq Hn.out)
   have HI2:=HI.out
   have HSm:Hid (∀ x,x∈xs→x.size≤100):=by have:=HI2.sm; rw [htk] at this; exact this
   have HOw:Hid (SlS wr (.slice adu k capu) xs):=SlS.owned Hn.out (by have:=HI2.own; rw [htk] at this; exact this)
   have HBr:=hid (below_trans HB1.out HI2.bel)
   clear HI2 htk
   by_cases h100:100<k
   ·have h100':(100:Int)<(k:Int):=by omega
    have HR:=hid (scRun_long (w:=wr) (A:=A) adu k capu h100 (by omega) (HE.out.later HBr.out))
    go_wp2_with fail
    refine HR.out.mono ?_
    rintro e w2 ⟨rfl,hb2⟩
    have HB2:=hid (below_trans HBr.out hb2)
    clear hb2
    have HC:=hid (coded_ev A 2 w2 (HE.out.later HB2.out) (by decide))
    go_wp2_with fail
    refine HC.out.mono ?_
    rintro e w3 ⟨rfl,hb3⟩
    have HB3:=hid (below_trans HB2.out hb3)
    clear hb3
    go_wp2_with fail
    go_ret
    exact ⟨rfl,HB3.out⟩
   ·have h100':¬ (100:Int)<(k:Int):=by omega
    obtain ⟨ad1,cap1,e1,hss⟩:=HOw.out
    injection e1 with e1 e2 e3
    subst e1 e3
    have HR:=hid (scRun_any (w:=wr) (A:=A) adu capu xs (by rw [Hn.out]; omega) (fun x hx=>Nat.le_trans (HSm.out x hx) (by decide)) hss (HE.out.later HBr.out) (HT.out.later HBr.out) (fun c hc=>cell_later HBr.out (HX.out c hc)))
    rw [Hn.out] at HR
    clear hss e2
    go_wp2_with fail
    refine HR.out.mono ?_
    rintro e w2 ⟨u,rfl,ho,hb2⟩
    have HB2:=hid (below_trans HBr.out hb2)
    obtain ⟨ts,HTs⟩:∃ ts,Hid ((runP none (xs.map wordsL)).1=ts):=⟨_,rfl⟩
    have HTl:Hid ((ts.map bB).length=k):=by
     change _=_
     rw [List.length_map,← HTs.out,runP_length,List.length_map,Hn.out]
    rw [HTs.out] at ho
    obtain ⟨ad2,cap2,e5,hs2⟩:SlS w2 u (ts.map bB):=SlS.owned HTl.out (by have:=ho; unfold strV at this; rw [List.map_map]; exact this)
    rw [HTl.out] at e5
    subst e5
    have HS2:=hid hs2
    have HXs2:=hid (HXs.out.later HB2.out)
    clear ho hb2 hs2
    go_wp2_with fail
    go_loopw [8] (fun v wr=>∃ i:Nat,i≤k∧v=.int .i64 (i:Int)∧Hid (Below w2.heap.size w2 wr)) (fun v _=>k - (intOf v).toNat)
    case atStart=>exact ⟨0,Nat.zero_le _,rfl,Below.refl _ _⟩
    case round =>
     obtain ⟨i,hi,rfl,HI2⟩:=hrel
     obtain ⟨w4,hw4⟩:∃ y,y=wr:=⟨_,rfl⟩
     subst hw4
     by_cases hlt3:i<k
     ·have hlt4:(i:Int)<(k:Int):=by omega
      have hix:i<xs.length:=by rw [Hn.out]; exact hlt3
      have hit:i<(ts.map bB).length:=by rw [HTl.out]; exact hlt3
      obtain ⟨b,o,hadr,c0⟩:=HXs2.out.later HI2.out i hix
      subst hadr
      obtain ⟨b2,o2,hadr2,c2⟩:=HS2.out.later HI2.out i hit
      subst hadr2
      obtain ⟨x,HXk⟩:∃ x,Hid (xs[i]'hix=x):=⟨_,rfl⟩
      rw [HXk.out] at c0
      have hxs:x.size≤100:=HSm.out x (by rw [← HXk.out]; exact List.getElem_mem hix)
      obtain ⟨t,HTi,HTe,HTn⟩:∃ t,Hid ((ts.map bB)[i]'hit=bB t)∧Hid (t≠[])∧Hid (cmdO ((splO x.data.toList).headD [])=none→t=errO 1):=by
       obtain ⟨st',hst⟩:=runP_at none (xs.map wordsL) i (wordsL x) (by rw [List.getElem?_map,List.getElem?_eq_getElem hix,HXk.out]; rfl)
       rw [HTs.out] at hst
       refine ⟨sayO (lineP st' (wordsL x)).1,?_,say_ne _ _,fun h=>say_none (by rw [words_spl]; exact h)⟩
       have h1:(ts.map bB)[i]? = some (bB (sayO (lineP st' (wordsL x)).1)):=by rw [List.getElem?_map,hst]; rfl
       rw [List.getElem?_eq_getElem hit] at h1
       exact Option.some.inj h1
      rw [HTi.out] at c2
      obtain ⟨z,HZ⟩:∃ z,Hid (x.size=z):=⟨_,rfl⟩
      rw [HZ.out] at hxs
      go_wp2_with fail
      go_loopw [9,10] (fun a v wr=>∃ j:Nat,j≤z∧a=.string (bB (x.data.toList.take j))∧v=.int .i64 (j:Int)∧wr=w4∧Hid (∀ q,q<j→x.data.toList[q]?≠some 32)) (fun _ v _=>z - (intOf v).toNat)
      case atStart=>exact ⟨0,Nat.zero_le _,rfl,rfl,rfl,fun q h=>absurd h (by omega)⟩
      case round =>
       obtain ⟨j,hj,rfl,rfl,hx,HQ⟩:=hrel
       subst hx
       by_cases hlt5:j<z
       ·have hlt6:(j:Int)<(z:Int):=by omega
        have hjs:j<x.size:=by rw [HZ.out]; exact hlt5
        obtain ⟨c,HC⟩:∃ c,Hid ((x[j]'hjs)=c):=⟨_,rfl⟩
        have hidx:∀ w',(Instr.index 9 (.string x) (.int .i64 (j:Int))).run Tryz.prog w'=.ok (.int .u8 (c.toNat:Int)) w':=fun w'=>by rw [idx_str x j j hjs rfl w',HC.out]
        have HCj:Hid (x.data.toList[j]? = some c):=by
         change _=_
         rw [List.getElem?_eq_getElem (by simpa using hjs),← HC.out]; rfl
        by_cases hc:c=32
        ·have HF:Hid ((splO x.data.toList).headD []=x.data.toList.take j):=first_word _ j HQ.out (.inr (by rw [HCj.out,hc]))
         have e3:((c.toNat:Int) == 32)=true:=by rw [hc]; rfl
         go_wp2_with fail
         refine (fof_any _ _).mono ?_
         rintro e wf ⟨rfl,hwf⟩
         subst wf
         cases hcm:cmdO (x.data.toList.take j) with
         | some q =>
          have hfo:fofO (x.data.toList.take j)=.tuple #[.string (bB (lformO.getD q [])),.bool true]:=by unfold fofO; rw [hcm]
          obtain ⟨T,HT0⟩:∃ T,Hid (bB t=T):=⟨_,rfl⟩
          have he0:T.toList.isEmpty=false:=by
           rw [← HT0.out,Lib.toList_data]
           cases t with
           | nil=>exact absurd rfl HTe.out
           | cons a r=>rfl
          rw [HT0.out] at c2
          rw [show (bB (x.data.toList.take j)).data.toList=x.data.toList.take j from rfl,hfo]
          go_wp2_with fail
          go_quiet (fail)
          go_wp2_with fail
          go_roundw
          case rel=>exact ⟨i+1,by omega,by go_num,below_drewN HI2.out _⟩
          case measure=>simp [intOf]; omega
         | none =>
          have hfo:fofO (x.data.toList.take j)=.tuple #[.string ⟨#[]⟩,.bool false]:=by unfold fofO; rw [hcm]
          have ht:t=errO 1:=HTn.out (by rw [HF.out]; exact hcm)
          subst ht
          have c3:wr.cell? ⟨b2,o2+i,none⟩=some (.string ⟨#[116,104,114,101,101,102,111,108,100,58,32,116,101,120,116]⟩):=c2
          have HEt:Hid (∀ w':World,Calls Tryz.prog 40 #[.int .i64 1] w' fun e w''=>e=.returned (.string ⟨#[116,104,114,101,101,102,111,108,100,58,32,116,101,120,116]⟩)∧Below w'.heap.size w' w''):=fun w'=>eText_1 w'
          rw [show (bB (x.data.toList.take j)).data.toList=x.data.toList.take j from rfl,hfo]
          clear c2
          go_wp2_with fail
          refine sr_region (i:=i) (by kernel_rfl) rfl rfl rfl rfl hlt3 c3 HEt.out ?_
          intro a5 w5 hz5 hdf5 hold5 h120 hb5
          have HB5:=hid hb5
          obtain ⟨y0,y1,y2,y3,y4,y5,y6,y7,y8,y9,y10,y11,y12,y13,y14,y15,e5⟩:=act_tail hz5 rfl hdf5 hold5 h120
          rw [e5]
          clear e5 hz5 hdf5 hold5 h120 hb5
          simp only [List.take_succ_cons,List.take_zero,List.cons_append,List.nil_append]
          go_wp2_with fail
          go_roundw
          case rel=>exact ⟨i+1,by omega,by go_num,below_trans HI2.out HB5.out⟩
          case measure=>simp [intOf]; omega
        ·have e3:((c.toNat:Int) == 32)=false:=by
          have:¬ (c.toNat:Int)=32:=fun e=>hc (UInt8.toNat_inj.1 (show c.toNat=32 by omega))
          simpa using this
         have HSn:=hid (bB_snoc hjs)
         go_wp2_with fail
         go_roundw
         case rel =>
          refine ⟨j+1,by omega,by rw [HSn.out],by go_num,trivial,fun q hq=>?_⟩
          by_cases hqj:q=j
          ·rw [hqj,HCj.out]; exact fun e=>hc (Option.some.inj e)
          ·exact HQ.out q (by omega)
         case measure=>simp [intOf]; omega
       ·obtain rfl:j=z:=by omega
        have hlt6:¬ (j:Int)<(x.size:Int):=by have:=HZ.out; omega
        have HF:Hid ((splO x.data.toList).headD []=x.data.toList.take j):=first_word _ j HQ.out (.inl (by have:=HZ.out; simpa using Nat.le_of_eq this))
        go_wp2_with fail
        refine (fof_any _ _).mono ?_
        rintro e wf ⟨rfl,hwf⟩
        subst wf
        cases hcm:cmdO (x.data.toList.take j) with
        | some q =>
         have hfo:fofO (x.data.toList.take j)=.tuple #[.string (bB (lformO.getD q [])),.bool true]:=by unfold fofO; rw [hcm]
         obtain ⟨T,HT0⟩:∃ T,Hid (bB t=T):=⟨_,rfl⟩
         have he0:T.toList.isEmpty=false:=by
          rw [← HT0.out,Lib.toList_data]
          cases t with
          | nil=>exact absurd rfl HTe.out
          | cons a r=>rfl
         rw [HT0.out] at c2
         rw [show (bB (x.data.toList.take j)).data.toList=x.data.toList.take j from rfl,hfo]
         go_wp2_with fail
         go_quiet (fail)
         go_wp2_with fail
         go_roundw
         case rel=>exact ⟨i+1,by omega,by go_num,below_drewN HI2.out _⟩
         case measure=>simp [intOf]; omega
        | none =>
         have hfo:fofO (x.data.toList.take j)=.tuple #[.string ⟨#[]⟩,.bool false]:=by unfold fofO; rw [hcm]
         have ht:t=errO 1:=HTn.out (by rw [HF.out]; exact hcm)
         subst ht
         have c3:wr.cell? ⟨b2,o2+i,none⟩=some (.string ⟨#[116,104,114,101,101,102,111,108,100,58,32,116,101,120,116]⟩):=c2
         have HEt:Hid (∀ w':World,Calls Tryz.prog 40 #[.int .i64 1] w' fun e w''=>e=.returned (.string ⟨#[116,104,114,101,101,102,111,108,100,58,32,116,101,120,116]⟩)∧Below w'.heap.size w' w''):=fun w'=>eText_1 w'
         rw [show (bB (x.data.toList.take j)).data.toList=x.data.toList.take j from rfl,hfo]
         clear c2
         go_wp2_with fail
         refine sr_region (i:=i) (by kernel_rfl) rfl rfl rfl rfl hlt3 c3 HEt.out ?_
         intro a5 w5 hz5 hdf5 hold5 h120 hb5
         have HB5:=hid hb5
         obtain ⟨y0,y1,y2,y3,y4,y5,y6,y7,y8,y9,y10,y11,y12,y13,y14,y15,e5⟩:=act_tail hz5 rfl hdf5 hold5 h120
         rw [e5]
         clear e5 hz5 hdf5 hold5 h120 hb5
         simp only [List.take_succ_cons,List.take_zero,List.cons_append,List.nil_append]
         go_wp2_with fail
         go_roundw
         case rel=>exact ⟨i+1,by omega,by go_num,below_trans HI2.out HB5.out⟩
         case measure=>simp [intOf]; omega
     ·obtain rfl:i=k:=by omega
      have hlt4:¬ (i:Int)<(i:Int):=by omega
      go_wp2_with fail
      go_ret
      exact ⟨rfl,below_trans HB2.out HI2.out⟩
end
end Go.Proofs.YtjcflddbaeiajacGreatDoor
