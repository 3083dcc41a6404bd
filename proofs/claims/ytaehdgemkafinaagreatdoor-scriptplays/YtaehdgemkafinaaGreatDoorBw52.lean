/-
  On the way to SPlaysProof: O40.
-/
import Derived.Test.YtaehdgemkafinaaGreatDoorBw51
set_option maxHeartbeats 8000000
set_option maxRecDepth 100000
namespace Go.Proofs.YtaehdgemkafinaaGreatDoor
open Go.RowKit
theorem runP_at_end (L:List Bs) (l:Bs) {i:Nat} {ns:List Int} (h:∀ st,lineP st (splO l)=resP st i ns):runP none ((L ++ [l]).map splO)=((runP none (L.map splO)).1 ++ [sayO (resP (runP none (L.map splO)).2 i ns).1],(resP (runP none (L.map splO)).2 i ns).2):=by
 rw [List.map_append,List.map_cons,List.map_nil,runP_end,h]
section
variable {w:World} {A:Nat→Addr}
theorem splays_any (ad:Option Addr) (cap:Nat) (ls:List Ln) (hx:IsLn w ad ls) (hE:Held9 w A) (hT:TabO w) (hX:TxtO w A) :
  Calls Tryz.prog 5 #[.slice ad ls.length cap] w fun e w'=>e=.returned (.bool true)∧Below w.heap.size w w':=by
 have HE:=hid hE
 have HT:=hid hT
 have HX:=hid hX
 have HXs:=hid hx
 obtain ⟨n,Hn⟩:∃ n,Hid (ls.length=n):=⟨_,rfl⟩
 rw [Hn.out]
 have HH:=hid (hello_any hE hT hX)
 clear hx hE hT hX
 by_cases h60:60<n
 ·have h60':(60:Int)<(n:Int):=by omega
  go_enter Tryz.func5,Tryz.ntmps5
  go_wp2_with fail
  refine HH.out.mono ?_
  rintro e w1 ⟨rfl,hb1⟩
  have HB1:=hid hb1
  clear hb1
  go_wp2_with fail
  go_ret
  exact ⟨rfl,HB1.out⟩
 have h60':¬ (60:Int)<(n:Int):=by omega
 go_enter Tryz.func5,Tryz.ntmps5
 go_wp2_with fail
 refine HH.out.mono ?_
 rintro e w1 ⟨rfl,hb1⟩
 have HB1:=hid hb1
 have HXs1:=hid (HXs.out.later hb1)
 clear hb1
 have HI0:Hid (PyI w1 w1 ls 0 (.slice none 0 0) (.slice none 0 0) (.pointer none) (fun _=>2000)):=⟨⟨Below.refl _ _,World.ownsRow_nil _ _ _ _,World.ownsRow_nil _ _ _ _,⟨rfl,fun _=>Nat.le_refl _⟩,(fun g hg=>by cases hg),(fun g hg=>by cases hg),fun g hg=>by cases hg⟩,fun l hl=>by simp at hl⟩
 go_wp2_with fail
 go_loopw [4,5,6,7] (fun u v p q wr=>∃ (k:Nat) (C:Nat→Nat),k≤n∧q=.int .i64 (k:Int)∧Hid (PyI w1 wr ls k u v p C)) (fun _ _ _ q _=>n - (intOf q).toNat)
 case atStart=>exact ⟨0,_,Nat.zero_le _,rfl,HI0.out⟩
 case round =>
  obtain ⟨k,C,hk,rfl,HI⟩:=hrel
  obtain ⟨L,HL⟩:∃ L,Hid (linesP (ls.take k)=L):=⟨_,rfl⟩
  have HPm:=hid HI.out.pm
  have HSm:=hid HI.out.sm
  rw [HL.out] at HPm
  have hj60:=linesP_len (ls.take k)
  rw [HL.out,List.length_take] at hj60
  obtain ⟨j,Hj⟩:∃ j,Hid (L.length=j):=⟨_,rfl⟩
  rw [Hj.out] at HPm hj60
  obtain ⟨st,Hst⟩:∃ st,Hid ((runP none (L.map splO)).2=st):=⟨_,rfl⟩
  obtain ⟨R,HR⟩:∃ R,Hid ((runP none (L.map splO)).1=R):=⟨_,rfl⟩
  rw [Hst.out,HR.out] at HPm
  have hj:j≤60:=by omega
  clear hj60
  obtain ⟨adu,capu,hu⟩:=own_formO HPm.out.lns
  obtain ⟨adv,capv,hv⟩:=own_formO HPm.out.wnt
  subst hu
  subst hv
  by_cases hlt:k<n
  ·have hlt2:(k:Int)<(n:Int):=by omega
   have hkx:k<ls.length:=by rw [Hn.out]; exact hlt
   obtain ⟨hsl1,b,o,hadr,C0,C1⟩:=HXs1.out k hkx
   have hsl:=hsl1.later HPm.out.bel
   subst hadr
   have HTk:=hid (List.take_succ_eq_append_getElem hkx)
   obtain ⟨x,HXk⟩:∃ x,Hid (ls[k]'hkx=x):=⟨_,rfl⟩
   rw [HXk.out] at C0 C1 hsl hsl1 HTk
   obtain ⟨wd,ns,v⟩:=x
   simp only at C0 C1 hsl hsl1
   have hsl2:=hsl
   obtain ⟨a2,cap2,hv,-⟩:=hsl2
   obtain ⟨mm,Hm⟩:∃ mm,Hid (ns.length=mm):=⟨_,rfl⟩
   rw [Hm.out] at hv
   subst hv
   have HS1:=hid hsl1
   have HC0:=hid C0
   have HC1:=hid C1
   have c0:=cell_later HPm.out.bel C0
   have c1:=cell_later HPm.out.bel C1
   clear C0 C1
   by_cases h12:12<mm
   ·have h12':(12:Int)<(mm:Int):=by omega
    go_wp2_with fail
    go_ret
    exact ⟨rfl,below_trans HB1.out HPm.out.bel⟩
   have h12':¬ (12:Int)<(mm:Int):=by omega
   by_cases h61:60<wd.size
   ·have h61':(60:Int)<(wd.size:Int):=by omega
    go_wp2_with fail
    go_ret
    exact ⟨rfl,below_trans HB1.out HPm.out.bel⟩
   have h61':¬ (60:Int)<(wd.size:Int):=by omega
   have HSm2:Hid (∀ l,l∈ls.take (k+1)→l.ns.length≤12):=fun l hl=>by
    rw [HTk.out] at hl
    rcases List.mem_append.1 hl with q|q
    ·exact HSm.out l q
    ·rw [List.mem_singleton.1 q]
     show ns.length≤12
     rw [Hm.out]; omega
   have HLo:=hid (lof_any (wd:=wd) hsl (by rw [Hm.out]; omega) (by omega))
   obtain ⟨r,Hr⟩:∃ r,Hid (lineO wd.data.toList ns=r):=⟨_,rfl⟩
   have HLk:Hid (linesP (ls.take (k+1))=L ++ r.toList):=by
    change _=_
    rw [HTk.out,linesP_snoc,HL.out]
    show L ++ (lineO wd.data.toList ns).toList=_
    rw [Hr.out]
   rw [Hr.out] at HLo
   clear hsl hsl1
   cases r with
   | none =>
    have HLo2:Hid (Calls Tryz.prog 11 #[.agg #[.string wd,.slice a2 mm cap2]] wr fun e w'=>e=.returned (.tuple #[.string ⟨#[]⟩,.bool false])∧Below wr.heap.size wr w'):=HLo.out
    have HFin:Hid (∀ w2,Below wr.heap.size wr w2→PyI w1 w2 ls (k+1) _ _ _ C):=fun w2 hb2=>by
     refine ⟨?_,HSm2.out⟩
     rw [HLk.out,show L ++ (none:Option Bs).toList=L from List.append_nil L,Hj.out,Hst.out,HR.out]
     exact (HPm.out.later hb2).up (Nat.le_succ k)
    go_wp2_with fail
    refine HLo2.out.mono ?_
    rintro e w2 ⟨rfl,hb2⟩
    have HI2:=hid (HFin.out w2 hb2)
    clear hb2
    go_wp2_with fail
    go_roundw
    case rel=>exact ⟨k+1,C,by omega,by go_num,HI2.out⟩
    case measure=>simp [intOf]; omega
   | some l =>
    have HLo2:Hid (Calls Tryz.prog 11 #[.agg #[.string wd,.slice a2 mm cap2]] wr fun e w'=>e=.returned (.tuple #[.string (bB l),.bool true])∧Below wr.heap.size wr w'):=HLo.out
    obtain ⟨i,hi19,hcmd,hmany,hfit,-,hback⟩:=line_back Hr.out
    have HCmd:=hid hcmd
    have HMany:=hid hmany
    have HFit:=hid hfit
    have hend:=runP_at_end L l hback
    rw [Hst.out,HR.out] at hend
    have HEnd:=hid hend
    obtain ⟨x,Hx⟩:∃ x,Hid (bB l=x):=⟨_,rfl⟩
    rw [Hx.out] at HLo2
    have HStr:Hid (strV (L ++ [l])=strV L ++ [.string x]):=by
     change _=_
     rw [← Hx.out]
     unfold strV
     rw [List.map_append]
     rfl
    have HFin:Hid (∀ w6 u6 v6 p6 C6,PyM w1 w6 u6 v6 p6 C6 (j+1) (j+1) (strV L ++ [.string x]) (strV R ++ [.string (bB (sayO (resP st i ns).1))]) (k+1) (resP st i ns).2→PyI w1 w6 ls (k+1) u6 v6 p6 C6):=fun w6 u6 v6 p6 C6 hp=>by
     refine ⟨?_,HSm2.out⟩
     have e1:L ++ (some l).toList=L ++ [l]:=rfl
     have e2:(L ++ [l]).length=j+1:=by rw [List.length_append,Hj.out]; rfl
     have e3:strV (R ++ [sayO (resP st i ns).1])=strV R ++ [.string (bB (sayO (resP st i ns).1))]:=by
      unfold strV
      rw [List.map_append]
      rfl
     rw [HLk.out,e1,e2,HEnd.out,HStr.out,e3]
     exact hp
    clear hcmd hmany hfit hback hend hi19
    have hSw:(wd.toList == [115,105,116,101,115])=(0 == i):=isNm_of HCmd.out 0 (by decide)
    by_cases hi0:i=0
    ·subst hi0
     have hSw2:(wd.toList == [115,105,116,101,115])=true:=hSw
     obtain ⟨c,Hc⟩:∃ c,Hid (errW ns=c):=⟨_,rfl⟩
     have hc9:c≤9:=by rw [← Hc.out]; exact (cod_errW ns).1
     obtain ⟨y,Hy⟩:∃ y,Hid (bB (sayO (c,[111,107]))=y):=⟨_,rfl⟩
     have HOr:Hid (∀ U:World,Calls Tryz.prog 15 #[.int .i64 (c:Int)] U fun e w'=>e=.returned (.string y)∧Below U.heap.size U w'):=fun U=>by rw [← Hy.out]; exact orOk_any c hc9 U
     have HWe:Hid (∀ U,Below w1.heap.size w1 U→Calls Tryz.prog 13 #[.slice a2 mm cap2] U fun e w'=>e=.returned (.int .i64 (c:Int))∧w'=U):=fun U hb=>by
      have:=rErr_any (.slice a2 mm cap2) ns U (HS1.out.later hb)
      rw [Hc.out] at this
      exact this
     clear hSw
     by_cases hc0:c=0
     ·have HRes:Hid (resP st 0 ns=((0,[111,107]),some (ns,newX))):=by
       change _=_
       unfold resP
       rw [if_pos rfl,if_pos (by rw [Hc.out]; exact hc0)]
      have HY2:Hid (bB (sayO ((0,[111,107]):Nat×Bs))=y):=by rw [← Hy.out,hc0]; exact hid rfl
      have HNw:Hid (∀ U,Below w1.heap.size w1 U→Calls Tryz.prog 14 #[.slice a2 mm cap2] U fun e w'=>∃ C Y,e=.returned (.pointer (some ⟨Y.xb,0,none⟩))∧RW U w' C Y a2 cap2 ns newX 0):=fun U hb=>by
       have h1:=HS1.out.later hb
       rw [← Hm.out] at h1 ⊢
       exact rwnew_ok h1 (by rw [Hc.out]; exact hc0)
      have HSl1:Hid (IsSl w1 (.slice a2 ns.length cap2) ns):=by rw [Hm.out]; exact HS1.out
      have hce:((c:Int) == 0)=true:=by rw [hc0]; rfl
      clear hc0
      go_wp2_with fail
      refine HLo2.out.mono ?_
      rintro e w2 ⟨rfl,hb2⟩
      have HP2:=hid (HPm.out.later hb2)
      obtain ⟨W2,HW2⟩:∃ W2,Hid (w2.alloc (.cells #[.string x] 9)=W2):=⟨_,rfl⟩
      have HB2:Hid (Below w2.heap.size w2 W2):=by rw [← HW2.out]; exact (Below.refl _ _).alloc (Nat.le_refl _) _
      have HPW:=hid (HP2.out.later HB2.out)
      have HLit:Hid (∀ j z,[Value.string x][j]? = some z→W2.cell? ((⟨w2.heap.size,0,none⟩:Addr).add j)=some z):=by rw [← HW2.out]; exact lit_one w2 9 (.string x)
      have hbs:w1.heap.size≤W2.heap.size:=HPW.out.bel.size
      have hW2:=HW2.out
      clear hb2
      go_wp2_with (at_builtin; refine append_str rfl _ _ rfl w1.heap.size j (.slice adu j capu) (strV L) ⟨w2.heap.size,0,none⟩ 1 x rfl rfl HPW.out.lns HLit.out (by omega) hbs ?_; intro adl capl w3 hown hg hat; have HP3:=hid (HPW.out.addL hown hg hat); have c0':=cell_later HP3.out.bel HC0.out; have c1':=cell_later HP3.out.bel HC1.out; clear hown hg hat)
      refine (HWe.out w3 HP3.out.bel).mono ?_
      rintro e w4 ⟨rfl,hx4⟩
      subst w4
      go_wp2_with fail
      refine (HNw.out w3 HP3.out.bel).mono ?_
      rintro e w4 ⟨C4,Y4,rfl,hR4⟩
      have HP4:=hid ((HP3.out.new hR4 HSl1.out AX.new).up (Nat.le_succ k))
      clear hR4
      go_wp2_with fail
      refine (HOr.out w4).mono ?_
      rintro e w5 ⟨rfl,hb5⟩
      have HP4b:=hid (HP4.out.later hb5)
      clear hb5
      obtain ⟨W5,HW5⟩:∃ W5,Hid (w5.alloc (.cells #[.string y] 9)=W5):=⟨_,rfl⟩
      have HB5:Hid (Below w5.heap.size w5 W5):=by rw [← HW5.out]; exact (Below.refl _ _).alloc (Nat.le_refl _) _
      have HP5:=hid (HP4b.out.later HB5.out)
      have HLit5:Hid (∀ j z,[Value.string y][j]? = some z→W5.cell? ((⟨w5.heap.size,0,none⟩:Addr).add j)=some z):=by rw [← HW5.out]; exact lit_one w5 9 (.string y)
      have hbs5:w1.heap.size≤W5.heap.size:=HP5.out.bel.size
      have hW5:=HW5.out
      go_wp2_with (at_builtin; refine append_str rfl _ _ rfl w1.heap.size j (.slice adv j capv) (strV R) ⟨w5.heap.size,0,none⟩ 1 y rfl rfl HP5.out.wnt HLit5.out (by omega) hbs5 ?_; intro adw capw w6 hown hg hat; have HP6:=hid (HP5.out.addW hown hg hat); clear hown hg hat)
      go_roundw
      case rel=>exact ⟨k+1,_,by omega,by go_num,HFin.out _ _ _ _ _ (by rw [HRes.out,HY2.out]; exact HP6.out)⟩
      case measure=>simp [intOf]; omega
     ·have HRes:Hid (resP st 0 ns=((c,[]),st)):=by
       change _=_
       unfold resP
       rw [if_pos rfl,if_neg (by rw [Hc.out]; exact hc0),Hc.out]
      have HY2:Hid (bB (sayO ((c,[]):Nat×Bs))=y):=by
       rw [← Hy.out]
       unfold sayO
       rw [if_neg hc0,if_neg hc0]
       exact hid rfl
      have hce:((c:Int) == 0)=false:=beq_eq_false_iff_ne.2 (by omega)
      clear hc0
      go_wp2_with fail
      refine HLo2.out.mono ?_
      rintro e w2 ⟨rfl,hb2⟩
      have HP2:=hid (HPm.out.later hb2)
      obtain ⟨W2,HW2⟩:∃ W2,Hid (w2.alloc (.cells #[.string x] 9)=W2):=⟨_,rfl⟩
      have HB2:Hid (Below w2.heap.size w2 W2):=by rw [← HW2.out]; exact (Below.refl _ _).alloc (Nat.le_refl _) _
      have HPW:=hid (HP2.out.later HB2.out)
      have HLit:Hid (∀ j z,[Value.string x][j]? = some z→W2.cell? ((⟨w2.heap.size,0,none⟩:Addr).add j)=some z):=by rw [← HW2.out]; exact lit_one w2 9 (.string x)
      have hbs:w1.heap.size≤W2.heap.size:=HPW.out.bel.size
      have hW2:=HW2.out
      clear hb2
      go_wp2_with (at_builtin; refine append_str rfl _ _ rfl w1.heap.size j (.slice adu j capu) (strV L) ⟨w2.heap.size,0,none⟩ 1 x rfl rfl HPW.out.lns HLit.out (by omega) hbs ?_; intro adl capl w3 hown hg hat; have HP3:=hid (HPW.out.addL hown hg hat); have c0':=cell_later HP3.out.bel HC0.out; have c1':=cell_later HP3.out.bel HC1.out; clear hown hg hat)
      refine (HWe.out w3 HP3.out.bel).mono ?_
      rintro e w4 ⟨rfl,hx4⟩
      subst w4
      go_wp2_with fail
      refine (HOr.out w3).mono ?_
      rintro e w5 ⟨rfl,hb5⟩
      have HP4b:=hid ((HP3.out.later hb5).up (Nat.le_succ k))
      clear hb5
      obtain ⟨W5,HW5⟩:∃ W5,Hid (w5.alloc (.cells #[.string y] 9)=W5):=⟨_,rfl⟩
      have HB5:Hid (Below w5.heap.size w5 W5):=by rw [← HW5.out]; exact (Below.refl _ _).alloc (Nat.le_refl _) _
      have HP5:=hid (HP4b.out.later HB5.out)
      have HLit5:Hid (∀ j z,[Value.string y][j]? = some z→W5.cell? ((⟨w5.heap.size,0,none⟩:Addr).add j)=some z):=by rw [← HW5.out]; exact lit_one w5 9 (.string y)
      have hbs5:w1.heap.size≤W5.heap.size:=HP5.out.bel.size
      have hW5:=HW5.out
      go_wp2_with (at_builtin; refine append_str rfl _ _ rfl w1.heap.size j (.slice adv j capv) (strV R) ⟨w5.heap.size,0,none⟩ 1 y rfl rfl HP5.out.wnt HLit5.out (by omega) hbs5 ?_; intro adw capw w6 hown hg hat; have HP6:=hid (HP5.out.addW hown hg hat); clear hown hg hat)
      go_roundw
      case rel=>exact ⟨k+1,_,by omega,by go_num,HFin.out _ _ _ _ _ (by rw [HRes.out,HY2.out]; exact HP6.out)⟩
      case measure=>simp [intOf]; omega
    ·have hSw2:(wd.toList == [115,105,116,101,115])=false:=by rw [hSw]; exact beq_eq_false_iff_ne.2 (fun e=>hi0 e.symm)
     clear hSw
     cases st with
     | none =>
      obtain ⟨hp,-⟩:=HPm.out.doc
      subst hp
      obtain ⟨y,Hy⟩:∃ y,Hid (bB (errO 4)=y):=⟨_,rfl⟩
      have HRes:Hid (resP none i ns=((4,[]),none)):=by
       change _=_
       unfold resP
       rw [if_neg hi0]
      have HY2:Hid (bB (sayO ((4,[]):Nat×Bs))=y):=by rw [← Hy.out]; exact hid rfl
      have HEt:Hid (∀ U:World,Calls Tryz.prog 10 #[.int .i64 4] U fun e w'=>e=.returned (.string y)∧Below U.heap.size U w'):=fun U=>by rw [← Hy.out]; exact eText_any 3 (by decide) U
      go_wp2_with fail
      refine HLo2.out.mono ?_
      rintro e w2 ⟨rfl,hb2⟩
      have HP2:=hid (HPm.out.later hb2)
      obtain ⟨W2,HW2⟩:∃ W2,Hid (w2.alloc (.cells #[.string x] 9)=W2):=⟨_,rfl⟩
      have HB2:Hid (Below w2.heap.size w2 W2):=by rw [← HW2.out]; exact (Below.refl _ _).alloc (Nat.le_refl _) _
      have HPW:=hid (HP2.out.later HB2.out)
      have HLit:Hid (∀ j z,[Value.string x][j]? = some z→W2.cell? ((⟨w2.heap.size,0,none⟩:Addr).add j)=some z):=by rw [← HW2.out]; exact lit_one w2 9 (.string x)
      have hbs:w1.heap.size≤W2.heap.size:=HPW.out.bel.size
      have hW2:=HW2.out
      clear hb2
      go_wp2_with (at_builtin; refine append_str rfl _ _ rfl w1.heap.size j (.slice adu j capu) (strV L) ⟨w2.heap.size,0,none⟩ 1 x rfl rfl HPW.out.lns HLit.out (by omega) hbs ?_; intro adl capl w3 hown hg hat; have HP3:=hid (HPW.out.addL hown hg hat); have c0':=cell_later HP3.out.bel HC0.out; have c1':=cell_later HP3.out.bel HC1.out; clear hown hg hat)
      refine (HEt.out w3).mono ?_
      rintro e w5 ⟨rfl,hb5⟩
      have HP4b:=hid ((HP3.out.later hb5).up (Nat.le_succ k))
      clear hb5
      obtain ⟨W5,HW5⟩:∃ W5,Hid (w5.alloc (.cells #[.string y] 9)=W5):=⟨_,rfl⟩
      have HB5:Hid (Below w5.heap.size w5 W5):=by rw [← HW5.out]; exact (Below.refl _ _).alloc (Nat.le_refl _) _
      have HP5:=hid (HP4b.out.later HB5.out)
      have HLit5:Hid (∀ j z,[Value.string y][j]? = some z→W5.cell? ((⟨w5.heap.size,0,none⟩:Addr).add j)=some z):=by rw [← HW5.out]; exact lit_one w5 9 (.string y)
      have hbs5:w1.heap.size≤W5.heap.size:=HP5.out.bel.size
      have hW5:=HW5.out
      go_wp2_with (at_builtin; refine append_str rfl _ _ rfl w1.heap.size j (.slice adv j capv) (strV R) ⟨w5.heap.size,0,none⟩ 1 y rfl rfl HP5.out.wnt HLit5.out (by omega) hbs5 ?_; intro adw capw w6 hown hg hat; have HP6:=hid (HP5.out.addW hown hg hat); clear hown hg hat)
      go_roundw
      case rel=>exact ⟨k+1,_,by omega,by go_num,HFin.out _ _ _ _ _ (by rw [HRes.out,HY2.out]; exact HP6.out)⟩
      case measure=>simp [intOf]; omega
     | some zv =>
      obtain ⟨zs,V⟩:=zv
      have hdoc:=HPm.out.doc
      obtain ⟨Y,aw,cp,m,hp,hRW,hAX,hmk⟩:=hdoc
      subst hp
      clear hRW
      have HAX:=hid hAX
      have HMk:=hid hmk
      clear hAX hmk
      have HAn:Hid (∀ U Y aw cp m,RW w1 U C Y aw cp zs V m→m≤9000 * k→Calls Tryz.prog 16 #[.pointer (some ⟨Y.xb,0,none⟩),.agg #[.string wd,.slice a2 mm cap2]] U (AnsO w1 U C Y aw cp zs V m i ns)):=fun U Y aw cp m hR hm=>ans_any HCmd.out hi0 HMany.out HFit.out hR HAX.out (by omega) HS1.out
      go_wp2_with fail
      refine HLo2.out.mono ?_
      rintro e w2 ⟨rfl,hb2⟩
      have HP2:=hid (HPm.out.later hb2)
      obtain ⟨W2,HW2⟩:∃ W2,Hid (w2.alloc (.cells #[.string x] 9)=W2):=⟨_,rfl⟩
      have HB2:Hid (Below w2.heap.size w2 W2):=by rw [← HW2.out]; exact (Below.refl _ _).alloc (Nat.le_refl _) _
      have HPW:=hid (HP2.out.later HB2.out)
      have HLit:Hid (∀ j z,[Value.string x][j]? = some z→W2.cell? ((⟨w2.heap.size,0,none⟩:Addr).add j)=some z):=by rw [← HW2.out]; exact lit_one w2 9 (.string x)
      have hbs:w1.heap.size≤W2.heap.size:=HPW.out.bel.size
      have hW2:=HW2.out
      clear hb2
      go_wp2_with (at_builtin; refine append_str rfl _ _ rfl w1.heap.size j (.slice adu j capu) (strV L) ⟨w2.heap.size,0,none⟩ 1 x rfl rfl HPW.out.lns HLit.out (by omega) hbs ?_; intro adl capl w3 hown hg hat; have HP3:=hid (HPW.out.addL hown hg hat); have c0':=cell_later HP3.out.bel HC0.out; have c1':=cell_later HP3.out.bel HC1.out; clear hown hg hat)
      obtain ⟨Y3,aw3,cp3,m3,hp3,hR3,-,hm3⟩:=HP3.out.doc
      have hxb:Y.xb=Y3.xb:=by
       injection hp3 with h1
       have h2:=Option.some.inj h1
       injection h2
      rw [hxb]
      refine (HAn.out w3 Y3 aw3 cp3 m3 hR3 hm3).mono ?_
      rintro e w5 ⟨rfl,V5,hres5,hA5,ho5⟩
      obtain ⟨y,Hy⟩:∃ y,Hid (bB (sayO (resP (some (zs,V)) i ns).1)=y):=⟨_,rfl⟩
      have hM:m3+9000≤9000 * (k+1):=by omega
      obtain ⟨C5,hp5⟩:=HP3.out.ans hp3 ho5 hA5 hM
      rw [hxb] at hp5
      have HP4b:=hid hp5
      have HRes2:Hid ((resP (some (zs,V)) i ns).2=some (zs,V5)):=hres5
      rw [Hy.out]
      clear hp5 hR3 hm3 ho5 hA5 hres5 hM
      obtain ⟨W5,HW5⟩:∃ W5,Hid (w5.alloc (.cells #[.string y] 9)=W5):=⟨_,rfl⟩
      have HB5:Hid (Below w5.heap.size w5 W5):=by rw [← HW5.out]; exact (Below.refl _ _).alloc (Nat.le_refl _) _
      have HP5:=hid (HP4b.out.later HB5.out)
      have HLit5:Hid (∀ j z,[Value.string y][j]? = some z→W5.cell? ((⟨w5.heap.size,0,none⟩:Addr).add j)=some z):=by rw [← HW5.out]; exact lit_one w5 9 (.string y)
      have hbs5:w1.heap.size≤W5.heap.size:=HP5.out.bel.size
      have hW5:=HW5.out
      go_wp2_with (at_builtin; refine append_str rfl _ _ rfl w1.heap.size j (.slice adv j capv) (strV R) ⟨w5.heap.size,0,none⟩ 1 y rfl rfl HP5.out.wnt HLit5.out (by omega) hbs5 ?_; intro adw capw w6 hown hg hat; have HP6:=hid (HP5.out.addW hown hg hat); clear hown hg hat)
      go_roundw
      case rel=>exact ⟨k+1,_,by omega,by go_num,HFin.out _ _ _ _ _ (by rw [HRes2.out,Hy.out]; exact HP6.out)⟩
      case measure=>simp [intOf]; omega
  ·obtain rfl:k=n:=by omega
   have hlt2:¬ (k:Int)<(k:Int):=by omega
   have htk:ls.take k=ls:=List.take_of_length_le (Nat.le_of_eq Hn.out)
   have hsm:=HSm.out
   rw [htk] at hsm
   rw [htk] at HL
   have HSz:=hid (linesP_small hsm)
   rw [HL.out] at HSz
   have HBw:=hid (below_trans HB1.out HPm.out.bel)
   have HLL:Hid ((L.map bB).length=j):=by
    change _=_
    rw [List.length_map,Hj.out]
   have HRl:Hid ((R.map bB).length=j):=by
    change _=_
    rw [List.length_map,← HR.out,runP_length,List.length_map,Hj.out]
   obtain ⟨ad3,cap3,e3,hss⟩:SlS wr (.slice adu j capu) (L.map bB):=SlS.owned HLL.out (by have:=HPm.out.lns; rw [strV_map] at this; exact this)
   rw [HLL.out] at e3
   injection e3 with e4 e5 e6
   subst e4 e6
   have HWn:Hid (SlS wr (.slice adv j capv) (R.map bB)):=SlS.owned HRl.out (by have:=HPm.out.wnt; rw [strV_map] at this; exact this)
   have HRn:=hid (scRun_any (w:=wr) (A:=A) adu capu (L.map bB) (by rw [HLL.out]; omega) HSz.out hss (HE.out.later HBw.out) (HT.out.later HBw.out) (fun c hc=>cell_later HBw.out (HX.out c hc)))
   rw [HLL.out,words_map,HR.out] at HRn
   clear hss e5 hsm htk
   go_wp2_with fail
   refine HRn.out.mono ?_
   rintro e w5 ⟨u5,rfl,ho,hb5⟩
   have HB5:=hid (below_trans HBw.out hb5)
   have HS5:Hid (SlS w5 u5 (R.map bB)):=SlS.owned HRl.out (by rw [strV_map] at ho; exact ho)
   have HSm5:=hid (sameT_yes u5 (.slice adv j capv) (R.map bB) w5 HS5.out (HWn.out.later hb5) (by rw [HRl.out]; omega))
   clear ho hb5
   go_wp2_with fail
   refine HSm5.out.mono ?_
   rintro e w6 ⟨rfl,hb6⟩
   have HB6:=hid (below_trans HB5.out hb6)
   clear hb6
   go_wp2_with fail
   go_ret
   exact ⟨rfl,HB6.out⟩
end
end Go.Proofs.YtaehdgemkafinaaGreatDoor
