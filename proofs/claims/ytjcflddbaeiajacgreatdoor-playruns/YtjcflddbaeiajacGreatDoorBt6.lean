/-
  On the way to PRunsProof: TF Q0 TD QI YA.
-/
import Derived.Test.YtjcflddbaeiajacGreatDoorBt2
import Derived.Test.YtjcflddbaeiajacGreatDoorBt1
set_option maxHeartbeats 8000000
set_option maxRecDepth 100000
namespace Go.Proofs.YtjcflddbaeiajacGreatDoor
open Go.RowKit
theorem hasP_take (p:Int) (L:List S3) (k:Nat) (h:k<L.length):hasP p (L.take (k+1))=(hasP p (L.take k) || decide (L[k].p=p)):=by
 unfold hasP; rw [take_snoc L k h,List.any_append]; simp
theorem hasP_in (p:Int) (L:List S3) (k:Nat) (h:k<L.length) (e:L[k].p=p):hasP p L=true:=(hasP_iff p L).2 ⟨_,List.getElem_mem h,e⟩
theorem preL_take (b:Int) (L:List S3) (k:Nat) (h:k<L.length):preL b (L.take (k+1))=(preL b (L.take k) || decide (L[k].p=4∧L[k].a=b)):=by
 unfold preL; rw [take_snoc L k h,List.any_append]; simp
theorem preL_in (b:Int) (L:List S3) (k:Nat) (h:k<L.length) (e:L[k].p=4) (e2:L[k].a=b):preL b L=true:=(preL_iff b L).2 ⟨_,List.getElem_mem h,e,e2⟩
theorem be_take (L:List S3) (k:Nat) (h:k<L.length):be (L.take (k+1))=beS (be (L.take k)) L[k]:=by rw [take_snoc L k h,be_snoc]
theorem told_any (a:Option Addr) (cap:Nat) (L:List S3) (ph:Int) (w:World) (hl:L.length≤200) (hL:SL w a L) :
  Calls Tryz.prog 249 #[.slice a L.length cap,.int .i64 ph] w fun e w'=>e=.returned (.bool (hasP ph L))∧w'=w:=by
 have HX:=hid hL
 have HT:Hid (hasP ph (L.take L.length)=hasP ph L):=by unfold Hid; rw [List.take_length]
 obtain ⟨r,Hr⟩:∃ r,Hid (hasP ph L=r):=⟨_,rfl⟩
 rw [Hr.out]
 clear hL
 go_enter Tryz.func249,Tryz.ntmps249
 go_wp2_with fail
 go_loop [5] (fun i=>∃ k:Nat,k≤L.length∧i=.int .i64 (k:Int)∧hasP ph (L.take k)=false) (fun i=>L.length - (intOf i).toNat)
 case atStart=>exact ⟨0,Nat.zero_le _,rfl,rfl⟩
 case round =>
  obtain ⟨k,hk,rfl,hf⟩:=hrel
  have HF:=hid hf
  clear hf
  by_cases hlt:k<L.length
  ·have HG:=hid (hasP_take ph L k hlt)
   have HI:=hid (hasP_in ph L k hlt)
   obtain ⟨b,o,rfl,y0,y1,y2⟩:=HX.out k hlt
   obtain ⟨⟨sp,sr,sa⟩,HS⟩:∃ s,Hid (L[k]'hlt=s):=⟨_,rfl⟩
   rw [HS.out] at y0 y1 y2 HG HI
   clear HS
   by_cases h1:sp=ph
   ·subst h1
    obtain rfl:true=r:=(HI.out rfl).symm.trans Hr.out
    clear HG HI
    go_wp2_with fail
    go_ret
    exact ⟨rfl,rfl⟩
   ·have G:Hid (hasP ph (L.take (k+1))=false):=by unfold Hid; rw [HG.out,HF.out]; simpa using h1
    clear HG HI
    go_wp2_with fail
    go_round
    case rel=>exact ⟨k+1,by omega,by go_num,G.out⟩
    case measure=>simp [intOf]; omega
  ·obtain rfl:k=L.length:=by omega
   obtain rfl:false=r:=HF.out.symm.trans (HT.out.trans Hr.out)
   go_wp2_with fail
   go_ret
   exact ⟨rfl,rfl⟩
theorem told_is (a:Option Addr) (cap:Nat) (L:List S3) (ph:Int) (r:Bool) (w:World) (hl:L.length≤200) (hL:SL w a L) (h:hasP ph L=r) :
  Calls Tryz.prog 249 #[.slice a L.length cap,.int .i64 ph] w fun e w'=>e=.returned (.bool r)∧w'=w:=by subst h; exact told_any a cap L ph w hl hL
theorem rchoose_any (a:Option Addr) (cap:Nat) (L:List S3) (w:World) (hl:L.length≤200) (hL:SL w a L) :
  Calls Tryz.prog 209 #[.slice a L.length cap] w fun e w'=>e=.returned (.tuple #[.int .i64 (refL L).1,.bool (refL L).2])∧w'=w:=by
 have HX:=hid hL
 obtain ⟨⟨cp,cf⟩,HC⟩:∃ x,Hid (refL L=x):=⟨_,rfl⟩
 rw [HC.out]
 obtain ⟨i2,H2⟩:∃ x,Hid (hasP 2 L=x):=⟨_,rfl⟩
 obtain ⟨i3,H3⟩:∃ x,Hid (hasP 3 L=x):=⟨_,rfl⟩
 have HD:Hid ((if i2=true then ((2:Int),true) else if i3=true then (3,true) else if preL (be L).2 L=true then (4,false) else (5,false))=(cp,cf)):=by
  unfold Hid; rw [← HC.out]; unfold refL; rw [H2.out,H3.out]
 have HT:Hid (be (L.take L.length)=be L):=by unfold Hid; rw [List.take_length]
 clear hL HC
 cases i2 with
 | true =>
  obtain ⟨rfl,rfl⟩:(2:Int)=cp∧true=cf:=by simpa using HD.out
  clear HD
  go_enter Tryz.func209,Tryz.ntmps209
  go_wp2_with (go_at_call 249; (with_reducible refine (told_is a cap L 2 true _ hl HX.out H2.out).mono ?_); rintro e wx ⟨rfl,rfl⟩)
  go_ret2
  exact ⟨rfl,rfl⟩
 | false =>
  cases i3 with
  | true =>
   obtain ⟨rfl,rfl⟩:(3:Int)=cp∧true=cf:=by simpa using HD.out
   clear HD
   go_enter Tryz.func209,Tryz.ntmps209
   go_wp2_with (go_at_call 249; first|((with_reducible refine (told_is a cap L 2 false _ hl HX.out H2.out).mono ?_); rintro e wx ⟨rfl,rfl⟩)|((with_reducible refine (told_is a cap L 3 true _ hl HX.out H3.out).mono ?_); rintro e wx ⟨rfl,rfl⟩))
   go_ret2
   exact ⟨rfl,rfl⟩
  | false =>
   have HD2:Hid ((if preL (be L).2 L=true then ((4:Int),false) else (5,false))=(cp,cf)):=by unfold Hid; simpa using HD.out
   clear HD
   go_enter Tryz.func209,Tryz.ntmps209
   go_wp2_with (go_at_call 249; first|((with_reducible refine (told_is a cap L 2 false _ hl HX.out H2.out).mono ?_); rintro e wx ⟨rfl,rfl⟩)|((with_reducible refine (told_is a cap L 3 false _ hl HX.out H3.out).mono ?_); rintro e wx ⟨rfl,rfl⟩))
   go_loop [4,5,6] (fun f b i=>∃ k:Nat,k≤L.length∧f=.bool (be (L.take k)).1∧b=.int .i64 (be (L.take k)).2∧i=.int .i64 (k:Int)) (fun _ _ i=>L.length - (intOf i).toNat)
   case atStart=>exact ⟨0,Nat.zero_le _,rfl,rfl,rfl⟩
   case round =>
    obtain ⟨k,hk,rfl,rfl,rfl⟩:=hrel
    by_cases hlt:k<L.length
    ·have HG:=hid (be_take L k hlt)
     obtain ⟨b,o,rfl,y0,y1,y2⟩:=HX.out k hlt
     obtain ⟨⟨sp,sr,sa⟩,HS⟩:∃ s,Hid (L[k]'hlt=s):=⟨_,rfl⟩
     rw [HS.out] at y0 y1 y2 HG
     obtain ⟨⟨f,m⟩,HM⟩:∃ x,Hid (be (L.take k)=x):=⟨_,rfl⟩
     rw [HM.out] at HG ⊢
     clear HS HM HD2
     by_cases h4:sp=4
     ·subst h4
      have G0:Hid (be (L.take (k+1))=(false,if f=true ∨ m<sa then sa else m)):=by unfold Hid; rw [HG.out]; unfold beS; exact if_pos (.inl rfl)
      clear HG
      cases f with
      | true =>
       have G:Hid (be (L.take (k+1))=(false,sa)):=by unfold Hid; rw [G0.out,if_pos (.inl rfl)]
       clear G0
       go_wp2_with fail
       go_round
       case rel=>exact ⟨k+1,by omega,by rw [G.out],by rw [G.out],by go_num⟩
       case measure=>simp [intOf]; omega
      | false =>
       by_cases hm:m<sa
       ·have G:Hid (be (L.take (k+1))=(false,sa)):=by unfold Hid; rw [G0.out,if_pos (.inr hm)]
        clear G0
        go_wp2_with fail
        go_round
        case rel=>exact ⟨k+1,by omega,by rw [G.out],by rw [G.out],by go_num⟩
        case measure=>simp [intOf]; omega
       ·have G:Hid (be (L.take (k+1))=(false,m)):=by unfold Hid; rw [G0.out,if_neg (by simpa using hm)]
        clear G0
        go_wp2_with fail
        go_round
        case rel=>exact ⟨k+1,by omega,by rw [G.out],by rw [G.out],by go_num⟩
        case measure=>simp [intOf]; omega
     ·by_cases h5:sp=5
      ·subst h5
       have G0:Hid (be (L.take (k+1))=(false,if f=true ∨ m<sa then sa else m)):=by unfold Hid; rw [HG.out]; unfold beS; exact if_pos (.inr rfl)
       clear HG
       cases f with
       | true =>
        have G:Hid (be (L.take (k+1))=(false,sa)):=by unfold Hid; rw [G0.out,if_pos (.inl rfl)]
        clear G0
        go_wp2_with fail
        go_round
        case rel=>exact ⟨k+1,by omega,by rw [G.out],by rw [G.out],by go_num⟩
        case measure=>simp [intOf]; omega
       | false =>
        by_cases hm:m<sa
        ·have G:Hid (be (L.take (k+1))=(false,sa)):=by unfold Hid; rw [G0.out,if_pos (.inr hm)]
         clear G0
         go_wp2_with fail
         go_round
         case rel=>exact ⟨k+1,by omega,by rw [G.out],by rw [G.out],by go_num⟩
         case measure=>simp [intOf]; omega
        ·have G:Hid (be (L.take (k+1))=(false,m)):=by unfold Hid; rw [G0.out,if_neg (by simpa using hm)]
         clear G0
         go_wp2_with fail
         go_round
         case rel=>exact ⟨k+1,by omega,by rw [G.out],by rw [G.out],by go_num⟩
         case measure=>simp [intOf]; omega
      ·have G:Hid (be (L.take (k+1))=(f,m)):=by unfold Hid; rw [HG.out]; unfold beS; exact if_neg (fun h=>h.elim h4 h5)
       clear HG
       have d4:(sp == 4)=false:=beq_eq_false_iff_ne.2 h4
       have d5:(sp == 5)=false:=beq_eq_false_iff_ne.2 h5
       simp only at y0 y1 y2
       go_wp2_with fail
       go_round
       case rel=>exact ⟨k+1,by omega,by rw [G.out],by rw [G.out],by go_num⟩
       case measure=>simp [intOf]; omega
    ·obtain rfl:k=L.length:=by omega
     rw [HT.out]
     obtain ⟨⟨f,m⟩,HM⟩:∃ x,Hid (be L=x):=⟨_,rfl⟩
     rw [HM.out] at HD2 ⊢
     have HT2:Hid (preL m (L.take L.length)=preL m L):=by unfold Hid; rw [List.take_length]
     clear HT HM
     go_wp2_with fail
     go_loop [7] (fun i=>∃ k:Nat,k≤L.length∧i=.int .i64 (k:Int)∧preL m (L.take k)=false) (fun i=>L.length - (intOf i).toNat)
     case atStart=>exact ⟨0,Nat.zero_le _,rfl,rfl⟩
     case round =>
      obtain ⟨k,hk,rfl,hf⟩:=hrel
      have HF:=hid hf
      clear hf
      by_cases hlt:k<L.length
      ·have HG:=hid (preL_take m L k hlt)
       have HI:=hid (preL_in m L k hlt)
       obtain ⟨b,o,rfl,y0,y1,y2⟩:=HX.out k hlt
       obtain ⟨⟨sp,sr,sa⟩,HS⟩:∃ s,Hid (L[k]'hlt=s):=⟨_,rfl⟩
       rw [HS.out] at y0 y1 y2 HG HI
       clear HS
       by_cases h1:sp=4
       ·subst h1
        by_cases h2:sa=m
        ·subst h2
         have hd2:=HD2.out
         rw [if_pos (HI.out rfl rfl)] at hd2
         obtain ⟨rfl,rfl⟩:(4:Int)=cp∧false=cf:=by simpa using hd2
         clear hd2 HD2 HG HI
         go_wp2_with fail
         go_ret2
         exact ⟨rfl,rfl⟩
        ·have G:Hid (preL m (L.take (k+1))=false):=by unfold Hid; rw [HG.out,HF.out]; simpa using h2
         clear HG HI
         go_wp2_with fail
         go_round
         case rel=>exact ⟨k+1,by omega,by go_num,G.out⟩
         case measure=>simp [intOf]; omega
       ·have G:Hid (preL m (L.take (k+1))=false):=by unfold Hid; rw [HG.out,HF.out]; simp [h1]
        clear HG HI
        go_wp2_with fail
        go_round
        case rel=>exact ⟨k+1,by omega,by go_num,G.out⟩
        case measure=>simp [intOf]; omega
      ·obtain rfl:k=L.length:=by omega
       have hd2:=HD2.out
       rw [if_neg (by rw [← HT2.out,HF.out]; decide)] at hd2
       obtain ⟨rfl,rfl⟩:(5:Int)=cp∧false=cf:=by simpa using hd2
       clear hd2 HD2
       go_wp2_with fail
       go_ret2
       exact ⟨rfl,rfl⟩
structure PL where
 stt:Nat
 ans:Int
 told:List S3
 prep:Int
 seen:Int
 has:Bool
def stP (k:Nat):ByteArray:=if k=0 then ⟨#[97,115,107,105,110,103]⟩ else if k=1 then ⟨#[112,114,101,112,97,114,105,110,103]⟩ else if k=2 then ⟨#[100,111,110,101]⟩ else ⟨#[114,101,102,117,115,101,100]⟩
theorem stP0:stP 0=⟨#[97,115,107,105,110,103]⟩:=rfl
theorem stP1:stP 1=⟨#[112,114,101,112,97,114,105,110,103]⟩:=rfl
theorem stP2:stP 2=⟨#[100,111,110,101]⟩:=rfl
theorem stP3:stP 3=⟨#[114,101,102,117,115,101,100]⟩:=rfl
def waitsB (P:PL) (att k:Int):Bool:=(k == 2 && P.stt == 0 && decide (att=0)) || (k == 4 && P.stt == 0 && decide (0<att)) || (k == 6 && P.stt == 1)
def takesB (n id:Nat) (deal att:Int) (P:PL) (f:F9):Bool:=decide (f.t=id∧f.d=deal∧f.a=att) && waitsB P att f.k && decide (0≤f.f∧f.f<n) && !bit P.ans f.f.toNat
def ansS (a:Int) (i:Nat):Int:=bits .or .i64 a (2 ^ i)
def toldS (L:List S3) (i:Nat) (s:S3):List S3:=L.set i s
def noteP (P:PL) (f:F9):PL:={ P with ans:=ansS P.ans f.f.toNat }
def seeP (P:PL) (p:Int):PL:=if P.has=false ∨ P.seen<p then { P with seen:=p,has:=true } else P
def decP (P:PL) (p:Int):PL×Option (Int×Int):=({ P with stt:=2 },some (7,p))
def preP (P:PL) (p:Int):PL×Option (Int×Int):=({ P with stt:=1,prep:=p,ans:=0 },some (5,p))
def voteP (n:Nat) (P:PL) (y:Bool):PL×Option (Int×Int):=if y=false then decP P 3 else if P.ans=2 ^ n - 1 then preP P 4 else (P,none)
def tellP (zs:List Int) (P:PL) (i:Nat) (s:S3):PL×Option (Int×Int) :=
 if enoughB zs P.ans=false then ({ P with told:=toldS P.told i s },none)
 else if (chooseL (toldS P.told i s)).2=true then decP { P with told:=toldS P.told i s } (chooseL (toldS P.told i s)).1 else preP { P with told:=toldS P.told i s } (chooseL (toldS P.told i s)).1
def ackP (zs:List Int) (P:PL):PL×Option (Int×Int):=if enoughB zs P.ans=false then (P,none) else decP P (afterI P.prep)
def takenP (zs:List Int) (P:PL) (f:F9):PL×Option (Int×Int) :=
 if f.k=2 then voteP zs.length (noteP P f) f.y
 else if f.y=false then ({ seeP (noteP P f) f.pr with stt:=3 },none)
 else if f.k=4 then tellP zs (seeP (noteP P f) f.pr) f.f.toNat ⟨f.ph,f.pr,f.pa⟩
 else ackP zs (seeP (noteP P f) f.pr)
def phear (zs:List Int) (id:Nat) (deal att:Int) (P:PL) (f:F9):PL×Option (Int×Int) :=
 if takesB zs.length id deal att P f=true then takenP zs P f else (P,none)
def toL (id:Nat) (deal kind att ph:Int):Nat→List F9
 | 0=>[]
 | k+1=>toL id deal kind att ph k ++ [⟨id,k,deal,kind,att,false,ph,0,0⟩]
theorem toL_length (id:Nat) (deal kind att ph:Int):∀ k,(toL id deal kind att ph k).length=k
 | 0=>rfl
 | k+1=>by rw [toL,List.length_append,toL_length]; rfl
def outL (id:Nat) (deal att:Int) (n:Nat):Option (Int×Int)→List F9
 | none=>[]
 | some x=>toL id deal x.1 att x.2 n
theorem outL_le (id:Nat) (deal att:Int) (n:Nat) (x:Option (Int×Int)):(outL id deal att n x).length≤n:=by
 cases x with
 | none=>exact Nat.zero_le _
 | some y=>exact Nat.le_of_eq (toL_length _ _ _ _ _ _)
structure PW (n:Nat) (P:PL):Prop where
 len:P.told.length=7
 lo:0≤P.ans
 hi:P.ans<2 ^ n
theorem ansS_bd {n:Nat} {a:Int} {i:Nat} (hn:n≤7) (h0:0≤a) (h1:a<2 ^ n) (hi:i<n):0≤ansS a i∧ansS a i<2 ^ n:=by
 have h2:(2:Int) ^ i<2 ^ n:=Int.pow_lt_pow_of_lt (by decide) hi
 have h3:(0:Int)<2 ^ i:=Int.pow_pos (by decide)
 exact or_lt hn h0 h1 (by omega) h2
theorem seeP_of (P:PL) (p:Int):(seeP P p).stt=P.stt∧(seeP P p).ans=P.ans∧(seeP P p).told=P.told∧(seeP P p).prep=P.prep:=by
 unfold seeP; split <;> exact ⟨rfl,rfl,rfl,rfl⟩
theorem PW.note {n:Nat} {P:PL} {f:F9} (h:PW n P) (hn:n≤7) (h0:0≤f.f) (h1:f.f<n):PW n (noteP P f) :=
 ⟨h.len,(ansS_bd hn h.lo h.hi (by omega)).1,(ansS_bd hn h.lo h.hi (by omega)).2⟩
theorem PW.see {n:Nat} {P:PL} (h:PW n P) (p:Int):PW n (seeP P p):=by
 obtain ⟨-,h2,h3,-⟩:=seeP_of P p
 exact ⟨by rw [h3]; exact h.len,by rw [h2]; exact h.lo,by rw [h2]; exact h.hi⟩
theorem PW.dec {n:Nat} {P:PL} (h:PW n P) (p:Int):PW n (decP P p).1:=⟨h.len,h.lo,h.hi⟩
theorem PW.pre {n:Nat} {P:PL} (h:PW n P) (p:Int):PW n (preP P p).1:=⟨h.len,Int.le_refl _,Int.pow_pos (by decide)⟩
theorem PW.tell {n:Nat} {P:PL} (h:PW n P) (i:Nat) (s:S3):PW n { P with told:=toldS P.told i s }:=⟨by show (P.told.set i s).length=7; rw [List.length_set]; exact h.len,h.lo,h.hi⟩
theorem PW.taken {zs:List Int} {P:PL} {f:F9} (h:PW zs.length P) (hn:zs.length≤7) (h0:0≤f.f) (h1:f.f<zs.length):PW zs.length (takenP zs P f).1:=by
 have h2:=h.note (f:=f) hn h0 h1
 have h3:=h2.see f.pr
 unfold takenP
 split
 ·unfold voteP; split
  ·exact h2.dec _
  ·split
   ·exact h2.pre _
   ·exact h2
 ·split
  ·exact ⟨h3.len,h3.lo,h3.hi⟩
  ·split
   ·unfold tellP
    split
    ·exact h3.tell _ _
    ·split
     ·exact (h3.tell _ _).dec _
     ·exact (h3.tell _ _).pre _
   ·unfold ackP
    split
    ·exact h3
    ·exact h3.dec _
theorem takesB_in {n id:Nat} {deal att:Int} {P:PL} {f:F9} (h:takesB n id deal att P f=true):(f.t=id∧f.d=deal∧f.a=att)∧waitsB P att f.k=true∧(0≤f.f∧f.f<n)∧bit P.ans f.f.toNat=false:=by
 unfold takesB at h
 simp only [Bool.and_eq_true,decide_eq_true_eq,Bool.not_eq_true'] at h
 exact ⟨h.1.1.1,h.1.1.2,h.1.2,h.2⟩
theorem PW.hear {zs:List Int} {id:Nat} {deal att:Int} {P:PL} {f:F9} (h:PW zs.length P) (hn:zs.length≤7):PW zs.length (phear zs id deal att P f).1:=by
 unfold phear
 split
 ·rename_i ht
  obtain ⟨-,-,⟨h0,h1⟩,-⟩:=takesB_in ht
  exact h.taken hn h0 h1
 ·exact h
theorem greatest_is (pb:Nat) (a:Option Addr) (cap:Nat) (L:List S3) (ph m:Int) (is:Bool) (w:World) (hp:w.cell? ⟨pb,0,none⟩=some (.slice a L.length cap)) (hl:L.length≤200) (hL:SL w a L) (h:gr ph L=(m,is)) :
  Calls Tryz.prog 319 #[.int .i64 ph,.pointer (some ⟨pb,0,none⟩)] w fun e w'=>e=.returned (.tuple #[.int .i64 m,.bool is])∧Below w.heap.size w w':=by
 have:=greatest_any pb a cap L ph w hp hl hL
 rw [h] at this
 exact this
theorem choose_any (a:Option Addr) (cap:Nat) (L:List S3) (w:World) (hl:L.length≤200) (hL:SL w a L) :
  Calls Tryz.prog 292 #[.slice a L.length cap] w fun e w'=>e=.returned (.tuple #[.int .i64 (chooseL L).1,.bool (chooseL L).2])∧Below w.heap.size w w':=by
 have HL:=hid hL
 obtain ⟨⟨cp,cf⟩,HC⟩:∃ x,Hid (chooseL L=x):=⟨_,rfl⟩
 rw [HC.out]
 obtain ⟨⟨m2,i2⟩,H2⟩:∃ x,Hid (gr 2 L=x):=⟨_,rfl⟩
 obtain ⟨⟨m3,i3⟩,H3⟩:∃ x,Hid (gr 3 L=x):=⟨_,rfl⟩
 obtain ⟨⟨m4,i4⟩,H4⟩:∃ x,Hid (gr 4 L=x):=⟨_,rfl⟩
 obtain ⟨⟨m5,i5⟩,H5⟩:∃ x,Hid (gr 5 L=x):=⟨_,rfl⟩
 have HD:Hid ((if i2=true then ((2:Int),true) else if i3=true then (3,true) else if i4=true∧(i5=false ∨ m5≤m4) then (4,false) else (5,false))=(cp,cf)):=by
  unfold Hid; rw [← HC.out]; unfold chooseL; rw [H2.out,H3.out,H4.out,H5.out]
 clear hL HC
 have hmf:∀ (fn:Fn) (first cap:Array Value) (w:World),(Instr.makeFunc fn first cap).run Tryz.prog w=.ok (.func fn first cap) w:=fun _ _ _ _=>rfl
 go_enter Tryz.func292,Tryz.ntmps292
 go_wp2_with fail
 go_loopw [16] (fun i wr=>∃ k:Nat,k≤2∧i=.int .i64 (k:Int)∧(0<k→i2=false)∧(1<k→i3=false)∧Below w.heap.size w wr∧wr.cell? ⟨w.heap.size,0,none⟩=some (.slice a L.length cap)∧wr.cell? ⟨w.heap.size+1,0,none⟩=some (.int .i64 2)∧wr.cell? ⟨w.heap.size+1,1,none⟩=some (.int .i64 3)) (fun i _=>2 - (intOf i).toNat)
 case atStart =>
  refine ⟨0,by omega,rfl,by omega,by omega,((Below.refl _ _).alloc (Nat.le_refl _) _).alloc (by simp) _,?_,?_,?_⟩
  ·exact cell_alloc _ (by simp)
  ·rw [World.cell?_alloc_at _ _ _ _ (by simp)]; rfl
  ·rw [World.cell?_alloc_at _ _ _ _ (by simp)]; rfl
 case round =>
  obtain ⟨k,hk,rfl,hk1,hk2,hb,c0,c1,c2⟩:=hrel
  have HB:=hid hb
  have C0:=hid c0
  have C1:=hid c1
  have C2:=hid c2
  have HLw:=hid (HL.out.later hb)
  have hlt0:=cell_lt c0
  have hlt1:=cell_lt c1
  clear hb
  rcases (by omega:k=0 ∨ k=1 ∨ k=2) with rfl|rfl|rfl
  ·clear hk1 hk2
   cases i2 with
   | true =>
    obtain ⟨rfl,rfl⟩:(2:Int)=cp∧true=cf:=by simpa using HD.out
    clear HD
    go_wp2_with (go_at_call 319; refine (greatest_is w.heap.size a cap L 2 m2 true _ C0.out hl HLw.out H2.out).mono ?_; rintro e w1 ⟨rfl,hb1⟩)
    go_ret2
    exact ⟨rfl,below_trans HB.out hb1⟩
   | false =>
    go_wp2_with (go_at_call 319; refine (greatest_is w.heap.size a cap L 2 m2 false _ C0.out hl HLw.out H2.out).mono ?_; rintro e w1 ⟨rfl,hb1⟩)
    go_roundw
    case rel=>exact ⟨1,by omega,by go_num,(by intros; trivial),by omega,below_trans HB.out hb1,cell_later hb1 C0.out,cell_later hb1 C1.out,cell_later hb1 C2.out⟩
    case measure=>simp [intOf]
  ·obtain rfl:=hk1 (by omega)
   clear hk1 hk2
   cases i3 with
   | true =>
    obtain ⟨rfl,rfl⟩:(3:Int)=cp∧true=cf:=by simpa using HD.out
    clear HD
    go_wp2_with (go_at_call 319; refine (greatest_is w.heap.size a cap L 3 m3 true _ C0.out hl HLw.out H3.out).mono ?_; rintro e w1 ⟨rfl,hb1⟩)
    go_ret2
    exact ⟨rfl,below_trans HB.out hb1⟩
   | false =>
    go_wp2_with (go_at_call 319; refine (greatest_is w.heap.size a cap L 3 m3 false _ C0.out hl HLw.out H3.out).mono ?_; rintro e w1 ⟨rfl,hb1⟩)
    go_roundw
    case rel=>exact ⟨2,by omega,by go_num,(by intros; trivial),(by intros; trivial),below_trans HB.out hb1,cell_later hb1 C0.out,cell_later hb1 C1.out,cell_later hb1 C2.out⟩
    case measure=>simp [intOf]
  ·obtain rfl:=hk1 (by omega)
   obtain rfl:=hk2 (by omega)
   clear hk1 hk2 c0 c1 c2
   have HD2:Hid ((if i4=true∧(i5=false ∨ m5≤m4) then ((4:Int),false) else (5,false))=(cp,cf)):=by unfold Hid; simpa using HD.out
   clear HD
   cases i4 with
   | false =>
    obtain ⟨rfl,rfl⟩:(5:Int)=cp∧false=cf:=by simpa using HD2.out
    clear HD2
    go_wp2_with (go_at_call 319; first
     | ((with_reducible refine (greatest_is w.heap.size a cap L 5 m5 i5 _ (cell_later hb1 C0.out) hl (HLw.out.later hb1) H5.out).mono ?_); rintro e w2 ⟨rfl,hb2⟩)
     | ((with_reducible refine (greatest_is w.heap.size a cap L 4 m4 false _ C0.out hl HLw.out H4.out).mono ?_); rintro e w1 ⟨rfl,hb1⟩))
    go_ret2
    exact ⟨rfl,below_trans (below_trans HB.out hb1) hb2⟩
   | true =>
    cases i5 with
    | false =>
     obtain ⟨rfl,rfl⟩:(4:Int)=cp∧false=cf:=by simpa using HD2.out
     clear HD2
     go_wp2_with (go_at_call 319; first
      | ((with_reducible refine (greatest_is w.heap.size a cap L 5 m5 false _ (cell_later hb1 C0.out) hl (HLw.out.later hb1) H5.out).mono ?_); rintro e w2 ⟨rfl,hb2⟩)
      | ((with_reducible refine (greatest_is w.heap.size a cap L 4 m4 true _ C0.out hl HLw.out H4.out).mono ?_); rintro e w1 ⟨rfl,hb1⟩))
     go_ret2
     exact ⟨rfl,below_trans (below_trans HB.out hb1) hb2⟩
    | true =>
     by_cases hm:m5≤m4
     ·obtain ⟨rfl,rfl⟩:(4:Int)=cp∧false=cf:=by simpa [hm] using HD2.out
      clear HD2
      go_wp2_with (go_at_call 319; first
       | ((with_reducible refine (greatest_is w.heap.size a cap L 5 m5 true _ (cell_later hb1 C0.out) hl (HLw.out.later hb1) H5.out).mono ?_); rintro e w2 ⟨rfl,hb2⟩)
       | ((with_reducible refine (greatest_is w.heap.size a cap L 4 m4 true _ C0.out hl HLw.out H4.out).mono ?_); rintro e w1 ⟨rfl,hb1⟩))
      go_ret2
      exact ⟨rfl,below_trans (below_trans HB.out hb1) hb2⟩
     ·obtain ⟨rfl,rfl⟩:(5:Int)=cp∧false=cf:=by simpa [hm] using HD2.out
      clear HD2
      go_wp2_with (go_at_call 319; first
       | ((with_reducible refine (greatest_is w.heap.size a cap L 5 m5 true _ (cell_later hb1 C0.out) hl (HLw.out.later hb1) H5.out).mono ?_); rintro e w2 ⟨rfl,hb2⟩)
       | ((with_reducible refine (greatest_is w.heap.size a cap L 4 m4 true _ C0.out hl HLw.out H4.out).mono ?_); rintro e w1 ⟨rfl,hb1⟩))
      go_ret2
      exact ⟨rfl,below_trans (below_trans HB.out hb1) hb2⟩
end Go.Proofs.YtjcflddbaeiajacGreatDoor
namespace Go.Proofs.YtjcflddbaeiajacGreatDoor
theorem taken_st {zs:List Int} {P:PL} {f:F9} (h:P.stt<4):(takenP zs P f).1.stt<4:=by
 have h1:(seeP (noteP P f) f.pr).stt<4:=by rw [(seeP_of _ _).1]; exact h
 unfold takenP
 split
 ·unfold voteP; split
  ·show 2<4; decide
  ·split
   ·show 1<4; decide
   ·exact h
 ·split
  ·show 3<4; decide
  ·split
   ·unfold tellP
    split
    ·exact h1
    ·split
     ·show 2<4; decide
     ·show 1<4; decide
   ·unfold ackP
    split
    ·exact h1
    ·show 2<4; decide
theorem phear_st {zs:List Int} {id:Nat} {deal att:Int} {P:PL} {f:F9} (h:P.stt<4):(phear zs id deal att P f).1.stt<4:=by
 unfold phear
 split
 ·exact taken_st h
 ·exact h
end Go.Proofs.YtjcflddbaeiajacGreatDoor
namespace Go.Proofs.YtjcflddbaeiajacGreatDoor
open Go.RowKit
structure Gh where
 acc:Nat→Nat→Prop
 val:Nat→Nat
 no:Nat→Prop
end Go.Proofs.YtjcflddbaeiajacGreatDoor
