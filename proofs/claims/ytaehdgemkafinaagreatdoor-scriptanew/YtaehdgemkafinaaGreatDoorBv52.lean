/-
  On the way to SAnewProof: O34 LnIn.
-/
import Derived.Test.YtaehdgemkafinaaGreatDoorBv51
import Derived.ChangeShapes
import Derived.WideShapes
import Derived.RowKit
set_option maxHeartbeats 8000000
set_option maxRecDepth 100000
namespace Go.Proofs.YtaehdgemkafinaaGreatDoor
open Go.RowKit
structure Ln where
 wd:ByteArray
 ns:List Int
 v:Value
def IsLn (w:World) (ad:Option Addr) (ls:List Ln):Prop:=∀ i (h:i<ls.length),IsSl w (ls[i]'h).v (ls[i]'h).ns∧∃ b o,ad=some ⟨b,o,none⟩∧w.cell? ⟨b,o+i * 2,none⟩=some (.string (ls[i]'h).wd)∧w.cell? ⟨b,o+i * 2+1,none⟩=some (ls[i]'h).v
theorem IsLn.later {w w':World} {ad:Option Addr} {ls:List Ln} (h:IsLn w ad ls) (hb:Below w.heap.size w w'):IsLn w' ad ls:=fun i hi=>by
 obtain ⟨h1,b,o,h2,h3,h4⟩:=h i hi
 exact ⟨h1.later hb,b,o,h2,cell_later hb h3,cell_later hb h4⟩
def keepA (l:Ln):Option Bs:=if 12<l.ns.length ∨ 60<l.wd.size ∨ l.wd.data.toList=[115,105,116,101,115] then none else lineO l.wd.data.toList l.ns
def anewL (ls:List Ln):List Bs:=sitesL :: ls.filterMap keepA
theorem anewL_snoc (ls:List Ln) (l:Ln):anewL (ls ++ [l])=anewL ls ++ (keepA l).toList:=by
 unfold anewL
 rw [List.filterMap_append,List.cons_append]
 congr 2
theorem anewL_len (ls:List Ln):(anewL ls).length≤ls.length+1:=by
 unfold anewL
 rw [List.length_cons]
 exact Nat.succ_le_succ (List.length_filterMap_le _ _)
theorem anewL_small (ls:List Ln):∀ x,x∈(anewL ls).map bB→x.size≤1000:=fun x hx=>by
 obtain ⟨y,hy,rfl⟩:=List.mem_map.1 hx
 show y.length≤1000
 unfold anewL at hy
 rcases List.mem_cons.1 hy with e|e
 ·rw [e]; decide
 ·obtain ⟨l,-,hl⟩:=List.mem_filterMap.1 e
  unfold keepA at hl
  split at hl
  ·cases hl
  ·have:=line_len hl
   omega
theorem own_litS (w:World) (base:Nat) (x:ByteArray) (hb:base≤w.heap.size):(w.alloc (.cells #[.string x] 9)).ownsRow base 9 1 (.slice (some ⟨w.heap.size,0,none⟩) 1 1) 1 [.string x] :=
 ⟨rfl,.inr ⟨w.heap.size,1,#[.string x],rfl,hb,heap_alloc_new w _,Nat.le_refl _,by unfold maxLen; omega,rfl,rfl⟩⟩
theorem append_strs {w:World} {ops:Array Oper} {rest:List Oper} {o:Oper} {a:Act} {Q:Exit→Act→World→Prop} (hgd:o.guard=none) (s x:Operand)
  (ho:o.op=.call { callee:=.builtin .append,args:=#[s,x],argTypes:=#[22,22] })
  (base n k:Nat) (v u:Value) (xs ys:List Value) (b2:Nat) (hs:a.eval s=v) (hx:a.eval x=u) (hown:w.ownsRow base 9 1 v n xs) (hu:w.ownsRow b2 9 1 u k ys) (hk:ys.length=k) (hy:∀ z,z∈ys→∃ t,z=.string t) (hn:n+k≤1000000000000) (hb:base≤w.heap.size)
  (h:∀ ad' cap' w',w'.ownsRow base 9 1 (.slice ad' (n+k) cap') (n+k) (xs ++ ys)→w.grownBy w' v.ownBlock→wpList Tryz.prog ops Q rest (a.put o.dst (.slice ad' (n+k) cap')) w') :
  wpList Tryz.prog ops Q (o :: rest) a w:=by
 obtain ⟨i0,hi0,hz0,hz1,hz2⟩:=info_parts Tryz.infoStr
 subst hk
 rcases hu.2 with ⟨e,h0⟩|⟨g,cap,cur,e,-⟩
 ·have hy0:ys=[]:=List.length_eq_zero_iff.1 h0
  subst hy0
  obtain ⟨ad',cap',hv'⟩:=own_formO hown
  refine wpList_append_own_none hgd s x 22 ho base 9 i0 1 Tryz.underlying22 hi0 v n xs hs hown (by rw [hx,e]) ?_
  have:=h ad' cap' w (by simpa [← hv'] using hown) ⟨rfl,rfl,rfl,Nat.le_refl _,fun _ _ _=>rfl⟩
  rw [hv']
  simpa using this
 ·have hcell:=hu
  rw [e] at hcell
  refine wpList_append_own_at w hgd s x 22 ho base 9 i0 _ 1 16 Tryz.underlying22 hi0 hz0 hz1 hz2 rfl (by decide) v n xs hs hown ⟨g,0,none⟩ ys.length cap ys (by rw [hx,e]) (by simp) (fun j z hz=>hcell.cells rfl j z hz) (fun z hz=>by obtain ⟨y,rfl⟩:=hy z hz; rfl) (by unfold maxLen; omega) (by omega) hb ?_
  intro v' w' h2 h3 _ _
  obtain ⟨ad',cap',rfl⟩:=own_formO h2
  exact h ad' cap' w' h2 h3
theorem sameT_quiet (v1 v2:Value) (xs:List ByteArray) (w:World) (h1:SlS w v1 xs) (h2:SlS w v2 xs) (hl:xs.length≤1000) :
  Calls Tryz.prog 12 #[v1,v2] w fun e w'=>e=.returned (.bool true)∧∃ m,w'=w.drewN m:=by
 obtain ⟨a1,c1,rfl,g1⟩:=h1
 obtain ⟨a2,c2,rfl,g2⟩:=h2
 have G1:=hid g1
 have G2:=hid g2
 obtain ⟨n,Hn⟩:∃ n,Hid (xs.length=n):=⟨_,rfl⟩
 rw [Hn.out] at hl ⊢
 clear g1 g2
 go_enter Tryz.func12,Tryz.ntmps12
 go_wp2_with fail
 go_loopw [5] (fun v wr=>∃ k:Nat,k≤n∧v=.int .i64 (k:Int)∧Hid (∃ m,wr=w.drewN m)) (fun v _=>n - (intOf v).toNat)
 case atStart=>exact ⟨0,Nat.zero_le _,rfl,0,rfl⟩
 case round =>
  obtain ⟨k,hk,rfl,HD⟩:=hrel
  have HB:Hid (Below w.heap.size w wr):=by obtain ⟨m,rfl⟩:=HD.out; exact below_drewN (Below.refl _ _) m
  by_cases hlt:k<n
  ·have hlt2:(k:Int)<(n:Int):=by omega
   have hkl:k<xs.length:=by rw [Hn.out]; exact hlt
   obtain ⟨b1,o1,e1,y1⟩:=(G1.out.later HB.out) k hkl
   obtain ⟨b2,o2,e2,y2⟩:=(G2.out.later HB.out) k hkl
   subst e1 e2
   generalize xs[k]'hkl=x at y1 y2
   go_wp2_with fail
   go_quiet (fail)
   go_wp2_with fail
   go_roundw
   case rel =>
    refine ⟨k+1,by omega,by go_num,?_⟩
    obtain ⟨m,hm⟩:=HD.out
    exact ⟨m+nq,by rw [hm,World.drewN_drewN]⟩
   case measure=>simp [intOf]; omega
  ·obtain rfl:k=n:=by omega
   have hlt2:¬ (k:Int)<(k:Int):=by omega
   go_wp2_with fail
   go_ret
   exact ⟨rfl,HD.out⟩
structure AnI (w wr:World) (ls:List Ln) (k:Nat) (u:Value):Prop where
 bel:Below w.heap.size w wr
 own:wr.ownsRow w.heap.size 9 1 u (anewL (ls.take k)).length (strV (anewL (ls.take k)))
theorem AnI.skip {w wr:World} {ls:List Ln} {k:Nat} {u:Value} (h:AnI w wr ls k u) (hk:k<ls.length) (hn:keepA (ls[k]'hk)=none):AnI w wr ls (k+1) u:=by
 have e:anewL (ls.take (k+1))=anewL (ls.take k):=by
  rw [List.take_succ_eq_append_getElem hk,anewL_snoc,hn]
  simp
 exact ⟨h.bel,by rw [e]; exact h.own⟩
theorem slice_hiS (b off l cap k:Nat) (hk:k≤cap) (w:World):(Instr.slice 22 (.slice (some ⟨b,off,none⟩) l cap) none (some (.int .i64 (k:Int))) none).run Tryz.prog w=.ok (.slice (some ⟨b,off,none⟩) k cap) w:=by
 have h1:(k:Int)≤(cap:Int):=by omega
 go_simp
theorem slice_loS (b off l cap k:Nat) (hk:k≤l) (w:World):(Instr.slice 22 (.slice (some ⟨b,off,none⟩) l cap) (some (.int .i64 (k:Int))) none none).run Tryz.prog w=.ok (.slice (some ⟨b,if cap=k then off else off+k,none⟩) (l - k) (cap - k)) w:=by
 have h1:(k:Int)≤(l:Int):=by omega
 by_cases h:cap=k
 ·rw [if_pos h]
  go_simp
 ·rw [if_neg h]
  go_simp
theorem halves {w:World} {base n:Nat} {u:Value} {X:List ByteArray} (hn:X.length=n) (h0:0<n) (h:w.ownsRow base 9 1 u (n+n) ((X ++ X).map Value.string)) :
  ∃ b cap S2,u=.slice (some ⟨b,0,none⟩) (n+n) cap∧n+n≤cap∧SlS w (.slice (some ⟨b,0,none⟩) n cap) X∧SlS w S2 X∧S2=.slice (some ⟨b,if cap=n then 0 else 0+n,none⟩) (n+n - n) (cap - n):=by
 rcases h.2 with ⟨e,h1⟩|⟨g,cap,cur,e,-,-,hle,-⟩
 ·omega
 ·have hc:∀ i (hi:i<(X ++ X).length),w.cell? ⟨g,i,none⟩=some (.string ((X ++ X)[i]'hi)):=fun i hi=>by
   have hq:=h
   rw [e] at hq
   have:=hq.cells rfl i (.string ((X ++ X)[i]'hi)) (by rw [List.getElem?_map,List.getElem?_eq_getElem hi]; rfl)
   rw [addr_add,Nat.zero_add] at this
   exact this
  refine ⟨g,cap,_,e,hle,⟨_,cap,by rw [hn],fun i hi=>⟨g,0,rfl,?_⟩⟩,⟨_,cap - n,by rw [hn,show n+n - n=n by omega],fun i hi=>⟨g,n,by rw [if_neg (by omega),Nat.zero_add],?_⟩⟩,rfl⟩
  ·rw [Nat.zero_add,hc i (by rw [List.length_append]; omega),List.getElem_append_left hi]
  ·rw [hc (n+i) (by rw [List.length_append]; omega),List.getElem_append_right (by omega)]
   congr 3
   omega
theorem strV_map (L:List Bs):strV L=(L.map bB).map Value.string:=by
 unfold strV
 rw [List.map_map]
 rfl
theorem words_map (L:List Bs):(L.map bB).map wordsL=L.map splO:=by
 rw [List.map_map]
 refine List.map_congr_left fun x _=>?_
 show wordsL (bB x)=splO x
 rw [words_spl]
section
variable {w:World} {A:Nat→Addr}
theorem sanew_any (ad:Option Addr) (cap:Nat) (ls:List Ln) (hx:IsLn w ad ls) (hE:Held9 w A) (hT:TabO w) (hX:TxtO w A) :
  Calls Tryz.prog 4 #[.slice ad ls.length cap] w fun e w'=>e=.returned (.bool true)∧Below w.heap.size w w':=by
 have HE:=hid hE
 have HT:=hid hT
 have HX:=hid hX
 have HXs:=hid hx
 obtain ⟨n,Hn⟩:∃ n,Hid (ls.length=n):=⟨_,rfl⟩
 rw [Hn.out]
 have HH:=hid (hello_any hE hT hX)
 clear hx hE hT hX
 by_cases h20:20<n
 ·have h20':(20:Int)<(n:Int):=by omega
  go_enter Tryz.func4,Tryz.ntmps4
  go_wp2_with fail
  refine HH.out.mono ?_
  rintro e w1 ⟨rfl,hb1⟩
  have HB1:=hid hb1
  clear hb1
  go_wp2_with fail
  go_ret
  exact ⟨rfl,HB1.out⟩
 have h20':¬ (20:Int)<(n:Int):=by omega
 go_enter Tryz.func4,Tryz.ntmps4
 go_wp2_with fail
 refine HH.out.mono ?_
 rintro e w1 ⟨rfl,hb1⟩
 have HB1:=hid hb1
 have HXs1:=hid (HXs.out.later hb1)
 clear hb1
 have HI0:Hid (AnI w1 (w1.alloc (.cells #[.string ⟨#[115,105,116,101,115,32,49,32,49,32,49]⟩] 9)) ls 0 (.slice (some ⟨w1.heap.size,0,none⟩) 1 1)):=⟨(Below.refl _ _).alloc (Nat.le_refl _) _,own_litS w1 _ _ (Nat.le_refl _)⟩
 go_wp2_with fail
 go_loopw [4,5] (fun u v wr=>∃ k:Nat,k≤n∧v=.int .i64 (k:Int)∧Hid (AnI w1 wr ls k u)) (fun _ v _=>n - (intOf v).toNat)
 case atStart=>exact ⟨0,Nat.zero_le _,rfl,HI0.out⟩
 case round =>
  obtain ⟨k,hk,rfl,HI⟩:=hrel
  obtain ⟨j,Hj⟩:∃ j,Hid ((anewL (ls.take k)).length=j):=⟨_,rfl⟩
  have hj:j≤21:=by
   have:=anewL_len (ls.take k)
   rw [Hj.out,List.length_take] at this
   omega
  obtain ⟨adu,capu,hu⟩:=own_formO HI.out.own
  rw [Hj.out] at hu
  subst hu
  by_cases hlt:k<n
  ·have hlt2:(k:Int)<(n:Int):=by omega
   have hkx:k<ls.length:=by rw [Hn.out]; exact hlt
   obtain ⟨hsl,b,o,hadr,c0,c1⟩:=HXs1.out.later HI.out.bel k hkx
   subst hadr
   have HSk:Hid (keepA (ls[k]'hkx)=none→AnI w1 wr ls (k+1) (.slice adu j capu)):=fun hq=>HI.out.skip hkx hq
   have HTk:=hid (List.take_succ_eq_append_getElem hkx)
   obtain ⟨x,HXk⟩:∃ x,Hid (ls[k]'hkx=x):=⟨_,rfl⟩
   rw [HXk.out] at c0 c1 hsl HSk HTk
   obtain ⟨wd,ns,v⟩:=x
   simp only at c0 c1 hsl
   have hsl2:=hsl
   obtain ⟨a2,cap2,hv,-⟩:=hsl2
   obtain ⟨m,Hm⟩:∃ m,Hid (ns.length=m):=⟨_,rfl⟩
   rw [Hm.out] at hv
   subst hv
   by_cases h12:12<m
   ·have h12':(12:Int)<(m:Int):=by omega
    have HQ:=hid (HSk.out (by unfold keepA; exact if_pos (.inl (by show 12<ns.length; rw [Hm.out]; exact h12))))
    go_wp2_with fail
    go_roundw
    case rel=>exact ⟨k+1,by omega,by go_num,HQ.out⟩
    case measure=>simp [intOf]; omega
   have h12':¬ (12:Int)<(m:Int):=by omega
   by_cases h60:60<wd.size
   ·have h60':(60:Int)<(wd.size:Int):=by omega
    have HQ:=hid (HSk.out (by unfold keepA; exact if_pos (.inr (.inl h60))))
    go_wp2_with fail
    go_roundw
    case rel=>exact ⟨k+1,by omega,by go_num,HQ.out⟩
    case measure=>simp [intOf]; omega
   have h60':¬ (60:Int)<(wd.size:Int):=by omega
   by_cases hS:(wd.toList == [115,105,116,101,115])=true
   ·have HQ:=hid (HSk.out (by unfold keepA; exact if_pos (.inr (.inr (by rw [Lib.toList_data] at hS; exact eq_of_beq hS)))))
    go_wp2_with fail
    go_roundw
    case rel=>exact ⟨k+1,by omega,by go_num,HQ.out⟩
    case measure=>simp [intOf]; omega
   have hS':(wd.toList == [115,105,116,101,115])=false:=by simpa using hS
   have hkeep:keepA ⟨wd,ns,.slice a2 m cap2⟩=lineO wd.data.toList ns:=by
    unfold keepA
    refine if_neg ?_
    rintro (q|q|q)
    ·have q':12<ns.length:=q
     rw [Hm.out] at q'
     exact h12 q'
    ·exact h60 q
    ·refine hS ?_
     rw [Lib.toList_data]
     have q':wd.data.toList=[115,105,116,101,115]:=q
     rw [q']
     rfl
   have HLo:=hid (lof_any (wd:=wd) hsl (by rw [Hm.out]; omega) (by omega))
   have HKp:=hid hkeep
   obtain ⟨r,Hr⟩:∃ r,Hid (lineO wd.data.toList ns=r):=⟨_,rfl⟩
   rw [Hr.out] at HLo HKp
   clear hS hkeep hsl
   cases r with
   | none =>
    have HQ:=hid (HSk.out HKp.out)
    have HLo2:Hid (Calls Tryz.prog 11 #[.agg #[.string wd,.slice a2 m cap2]] wr fun e w'=>e=.returned (.tuple #[.string ⟨#[]⟩,.bool false])∧Below wr.heap.size wr w'):=HLo.out
    go_wp2_with fail
    refine HLo2.out.mono ?_
    rintro e w2 ⟨rfl,hb2⟩
    have HI2:Hid (AnI w1 w2 ls (k+1) (.slice adu j capu)):=⟨HQ.out.bel.trans (hb2.mono HQ.out.bel.size),own_later HQ.out.own hb2 (Nat.le_refl _)⟩
    clear hb2
    go_wp2_with fail
    go_roundw
    case rel=>exact ⟨k+1,by omega,by go_num,HI2.out⟩
    case measure=>simp [intOf]; omega
   | some l =>
    have HLo2:Hid (Calls Tryz.prog 11 #[.agg #[.string wd,.slice a2 m cap2]] wr fun e w'=>e=.returned (.tuple #[.string (bB l),.bool true])∧Below wr.heap.size wr w'):=HLo.out
    obtain ⟨x,Hx⟩:∃ x,Hid (bB l=x):=⟨_,rfl⟩
    rw [Hx.out] at HLo2
    have HEq:Hid (strV (anewL (ls.take (k+1)))=strV (anewL (ls.take k)) ++ [.string x]∧(anewL (ls.take (k+1))).length=(anewL (ls.take k)).length+1):=by
     rw [HTk.out,anewL_snoc,HKp.out,← Hx.out]
     unfold strV
     rw [List.map_append,List.length_append]
     exact ⟨rfl,rfl⟩
    go_wp2_with fail
    refine HLo2.out.mono ?_
    rintro e w2 ⟨rfl,hb2⟩
    have hown2:=own_later HI.out.own hb2 (Nat.le_refl _)
    rw [Hj.out] at hown2
    obtain ⟨W2,HW2⟩:∃ W2,Hid (w2.alloc (.cells #[.string x] 9)=W2):=⟨_,rfl⟩
    have HB2:Hid (Below w2.heap.size w2 W2):=by rw [← HW2.out]; exact (Below.refl _ _).alloc (Nat.le_refl _) _
    have HBb:=hid (HI.out.bel.trans (hb2.mono HI.out.bel.size))
    have HO2:=hid (own_later hown2 HB2.out (Nat.le_refl _))
    have HLit:Hid (∀ j z,[Value.string x][j]? = some z→W2.cell? ((⟨w2.heap.size,0,none⟩:Addr).add j)=some z):=by rw [← HW2.out]; exact lit_one w2 9 (.string x)
    have hbs:w1.heap.size≤W2.heap.size:=Nat.le_trans HBb.out.size HB2.out.size
    have hW2:=HW2.out
    clear hb2 hown2
    go_wp2_with (at_builtin; refine append_str rfl _ _ rfl w1.heap.size j (.slice adu j capu) (strV (anewL (ls.take k))) ⟨w2.heap.size,0,none⟩ 1 x rfl rfl HO2.out HLit.out (by omega) hbs ?_; intro ad' cap' w3 hown hg hat; have HS3:=hid (And.intro hown (And.intro hg hat)); clear hown hg hat)
    go_roundw
    case rel =>
     refine ⟨k+1,by omega,by go_num,?_⟩
     have hgb:∀ y,(Value.slice adu j capu).ownBlock=some y→w1.heap.size≤y:=fun y hy=>(HO2.out.lt y hy).1
     refine ⟨Below.grown (HBb.out.trans (HB2.out.mono HBb.out.size)) HS3.out.2.1 hbs hgb,?_⟩
     rw [HEq.out.1,HEq.out.2,Hj.out]
     exact HS3.out.1
    case measure=>simp [intOf]; omega
  ·obtain rfl:k=n:=by omega
   have hlt2:¬ (k:Int)<(k:Int):=by omega
   have htk:ls.take k=ls:=List.take_of_length_le (Nat.le_of_eq Hn.out)
   have hI:=HI.out
   have hown:=hI.own
   rw [htk] at hown
   have hln:=anewL_len ls
   rw [Hn.out] at hln
   have hpos:0<(anewL ls).length:=Nat.succ_pos _
   obtain ⟨L,HL⟩:∃ L,Hid (anewL ls=L):=⟨_,rfl⟩
   have HSm:=hid (anewL_small ls)
   have HTw:Hid ((runP none ((L ++ L).map splO)).1=(runP none (L.map splO)).1 ++ (runP none (L.map splO)).1):=by
    have:=anew_twice ((ls.filterMap keepA).map splO)
    rw [← HL.out,List.map_append]
    exact this
   rw [htk,HL.out] at Hj
   rw [HL.out] at hown hln hpos HSm
   rw [Hj.out] at hown hln hpos
   have HO:=hid hown
   have HBr:=hid hI.bel
   have hsl:(strV L).length=j:=by unfold strV; rw [List.length_map,Hj.out]
   have hst:∀ z,z∈strV L→∃ t,z=.string t:=fun z hz=>by
    obtain ⟨t,-,rfl⟩:=List.mem_map.1 hz
    exact ⟨_,rfl⟩
   have HSl:=hid hsl
   have HSt:=hid hst
   clear hI hown htk hsl hst
   go_wp2_with (at_builtin; first|(refine append_strs rfl _ _ rfl w1.heap.size 0 j (.slice none 0 0) (.slice adu j capu) [] (strV L) w1.heap.size rfl rfl (World.ownsRow_nil _ _ _ _) HO.out HSl.out HSt.out (by omega) HBr.out.size ?_; intro ad' cap' w3 hown hg; have hown2:w3.ownsRow w1.heap.size 9 1 (.slice ad' j cap') j (strV L):=(by rw [Nat.zero_add,List.nil_append] at hown; exact hown); have HS3:=hid (And.intro hown2 hg); clear hown hown2 hg; have HB3:Hid (Below w1.heap.size w1 w3):=Below.grown HBr.out HS3.out.2 HBr.out.size (fun y hy=>by cases hy); have HO3:Hid (w3.ownsRow w1.heap.size 9 1 (.slice adu j capu) j (strV L)):=own_kept HO.out (grown_kept HS3.out.2) (fun g hg e=>by cases e))|(refine append_strs rfl _ _ rfl w1.heap.size j j (.slice ad' j cap') (.slice adu j capu) (strV L) (strV L) w1.heap.size rfl rfl HS3.out.1 HO3.out HSl.out HSt.out (by omega) HB3.out.size ?_; intro ad2 cap2 w4 hown hg; have HS4:=hid (And.intro hown hg); clear hown hg))
   have HB4:Hid (Below w1.heap.size w1 w4):=Below.grown HB3.out HS4.out.2 HB3.out.size (fun y hy=>(HS3.out.1.lt y hy).1)
   have HBw:=hid (below_trans HB1.out HB4.out)
   have HLL:Hid (((L ++ L).map bB).length=j+j):=by
    change _=_
    rw [List.length_map,List.length_append,Hj.out]
   have HSs:Hid (SlS w4 (.slice ad2 (j+j) cap2) ((L ++ L).map bB)):=SlS.owned HLL.out (by
    have:=HS4.out.1
    rw [← strV_map]
    unfold strV at this ⊢
    rw [List.map_append]
    exact this)
   obtain ⟨ad3,cap3,e3,hss⟩:=HSs.out
   rw [HLL.out] at e3
   injection e3 with e4 e5 e6
   subst e4 e6
   have HR:=hid (scRun_any (w:=w4) (A:=A) ad2 cap2 ((L ++ L).map bB) (by rw [HLL.out]; omega) (fun x hx=>HSm.out x (by rw [List.map_append] at hx; rcases List.mem_append.1 hx with q|q <;> exact q)) hss (HE.out.later HBw.out) (HT.out.later HBw.out) (fun c hc=>cell_later HBw.out (HX.out c hc)))
   rw [HLL.out,words_map,HTw.out] at HR
   obtain ⟨X,HXX⟩:∃ X,Hid ((runP none (L.map splO)).1=X):=⟨_,rfl⟩
   have HXl:Hid ((X.map bB).length=j):=by
    change _=_
    rw [List.length_map,← HXX.out,runP_length,List.length_map,Hj.out]
   rw [HXX.out] at HR
   clear hss e5
   go_wp2_with fail
   refine HR.out.mono ?_
   rintro e w5 ⟨u5,rfl,ho,hb5⟩
   have HB5:=hid (below_trans HBw.out hb5)
   obtain ⟨b,cp,S2,hu5,hcp,hs1,hs2,hS2⟩:=halves (X:=X.map bB) HXl.out hpos (by rw [strV_map,List.map_append] at ho; exact ho)
   subst hu5
   have HS1:=hid hs1
   have HS2:=hid hs2
   have hne:((j:Int)+(j:Int) != 2 * (j:Int))=false:=by simp; omega
   have hsa:=fun w'=>slice_hiS b 0 (j+j) cp j (by omega) w'
   have hsb:=fun w'=>slice_loS b 0 (j+j) cp j (by omega) w'
   rw [← hS2] at hsb
   clear ho hb5 hs1 hs2 hcp hS2
   go_wp2_with fail
   go_quiet ((go_at_call 12; exact Calls.quiet_of (sameT_quiet _ _ (X.map bB) _ (HS1.out.later (below_drewN (Below.refl _ _) _)) (HS2.out.later (below_drewN (Below.refl _ _) _)) (by rw [HXl.out]; omega))))
   go_wp2_with fail
   go_ret
   exact ⟨rfl,below_drewN HB5.out _⟩
end
end Go.Proofs.YtaehdgemkafinaaGreatDoor
namespace Go.Proofs.YtaehdgemkafinaaGreatDoor
open Go.ChangeShapes Go.WideShapes Go.RowKit
theorem cellsLine:Tryz.prog.cellsOf 36=2:=by kernel_rfl
theorem cellsStrL:Tryz.prog.cellsOf 9=1:=by kernel_rfl
theorem cellsInts1:Tryz.prog.cellsOf 34=1:=by kernel_rfl
theorem listOf2 {α:Type}:∀ (l:List α),l.length=2→∃ a b,l=[a,b]
 | [a,b],_=>⟨a,b,rfl⟩
theorem line_of_trod {H:Type} {enc:TypeId×Value→H} {W:World} {fuel:Nat} {cs:List Value} {x:DataW H×List MemPlace} {sp:Nat→Bool} {held:Bool}
  (h:DataW.trod enc Tryz.prog W 0 sp held fuel 36 cs=some x):∃ t:Ln,cs=[.string t.wd,t.v]∧IsSl W t.v t.ns:=by
 obtain ⟨ys,n,_,_,hl,hlen,hf⟩:=DataW.trod_struct Tryz.underlying36 h
 rw [cellsLine] at hl
 obtain ⟨c0,c1,rfl⟩:=listOf2 cs hl
 obtain ⟨y0,y1,rfl⟩:=listOf2 ys hlen
 have f0:DataW.trod enc Tryz.prog W 0 sp held n 9 (([c0,c1].drop 0).take (Tryz.prog.cellsOf 9))=some y0:=hf 0 _ rfl
 have f1:DataW.trod enc Tryz.prog W 0 sp held n 34 (([c0,c1].drop 1).take (Tryz.prog.cellsOf 34))=some y1:=hf 1 _ rfl
 rw [cellsStrL] at f0
 rw [cellsInts1] at f1
 obtain ⟨s0,e0,_,_⟩:=DataW.trod_string Tryz.underlying9 f0
 simp at e0
 subst e0
 have f2:DataW.trod enc Tryz.prog W 0 sp held n 34 [c1]=some y1:=f1
 obtain ⟨d1,p1⟩:=y1
 obtain ⟨a,l,c,rfl⟩:∃ a l c,c1=.slice a l c:=by
  rcases Deep.open_slice Tryz.underlying34 f2 with ⟨hcs,_⟩|⟨x,l,c,m,n,D,Pl,hcs,_⟩
  ·exact ⟨none,0,0,by simpa using hcs⟩
  ·exact ⟨some x,l,c,by simpa using hcs⟩
 obtain ⟨zs,hz⟩:=isSl_of_trod (a:=a) (len:=l) (cap:=c) f2
 exact ⟨⟨s0,zs,.slice a l c⟩,rfl,hz⟩
theorem lns_of_trod {H:Type} {enc:TypeId×Value→H} {W:World} {a:Option Addr} {len cap fuel:Nat} {d:DataW H} {p:List MemPlace} {sp:Nat→Bool} {held:Bool}
  (hf:DataW.trod enc Tryz.prog W 0 sp held fuel 33 (Value.slice a len cap).cells.toList=some (d,p)):∃ xs:List Ln,xs.length=len∧IsLn W a xs:=by
 rcases Deep.open_slice Tryz.underlying33 hf with ⟨hcs,_⟩|⟨x,l,c,m,n,D,Pl,hcs,_,hl,hm,hmm,_,hx⟩
 ·simp [Value.cells] at hcs
  obtain ⟨rfl,rfl,rfl⟩:=hcs
  exact ⟨[],rfl,fun i h=>absurd h (Nat.not_lt_zero _)⟩
 ·simp [Value.cells] at hcs
  obtain ⟨rfl,rfl,rfl⟩:=hcs
  have hlm:len≤m:=by rw [hmm]; split <;> omega
  have each:∀ i,i<len→∃ t:Ln,IsSl W t.v t.ns∧∃ b off,some x=some ⟨b,off,none⟩∧W.cell? ⟨b,off+i * 2,none⟩=some (.string t.wd)∧W.cell? ⟨b,off+i * 2+1,none⟩=some t.v:=by
   intro i hi
   obtain ⟨cs,h1,h2⟩:=hx i (by omega)
   obtain ⟨t,rfl,g1⟩:=line_of_trod h2
   rw [cellsLine] at h1
   obtain ⟨_,_,h3⟩:=World.cells?_some h1
   have q0:=h3 0 (by omega)
   have q1:=h3 1 (by omega)
   obtain ⟨b,off,spot⟩:=x
   obtain ⟨cs0,g3,g4⟩:=hx 0 (by omega)
   obtain ⟨t0,rfl,_⟩:=line_of_trod g4
   rw [cellsLine] at g3
   obtain ⟨_,_,g5⟩:=World.cells?_some g3
   have hz:=g5 0 (by omega)
   have hsp:spot=none:=by
    cases spot with
    | none=>rfl
    | some k=>unfold World.cell? Addr.add at hz; simp at hz; revert hz; split <;> simp
   subst hsp
   simp only [Addr.add_lit] at q0 q1
   exact ⟨t,g1,b,off,rfl,by simpa using q0,by simpa using q1⟩
  have:Inhabited Ln:=⟨⟨⟨#[]⟩,[],.slice none 0 0⟩⟩
  obtain ⟨f,hf⟩:=Deep.choose_lt each
  refine ⟨(List.range len).map f,by simp,fun i h=>?_⟩
  have hi:i<len:=by simpa using h
  simpa using hf i hi
end Go.Proofs.YtaehdgemkafinaaGreatDoor
