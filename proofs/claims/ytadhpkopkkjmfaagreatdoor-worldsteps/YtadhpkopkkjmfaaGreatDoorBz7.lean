/-
  On the way to WStepsProof, WCommitsProof, WAgreesProof, WEndsProof, WWaitsProof, JTampersProof, PAgreesProof, PAgainProof: Q0 QI YA.
-/
import Derived.Test.YtadhpkopkkjmfaaGreatDoorBz3
import Derived.Test.YtadhpkopkkjmfaaGreatDoorBz2
import Derived.Test.YtadhpkopkkjmfaaGreatDoorBz1
set_option maxHeartbeats 8000000
set_option maxRecDepth 100000
namespace Go.Proofs.YtadhpkopkkjmfaaGreatDoor
open Go.RowKit
structure PL where
 stt:Nat
 ans:Int
 told:List S3
 prep:Int
 seen:Int
 has:Bool
def stP (k:Nat):ByteArray:=if k=0 then ⟨#[97,115,107,105,110,103]⟩ else if k=1 then ⟨#[112,114,101,112,97,114,105,110,103]⟩ else if k=2 then ⟨#[100,111,110,101]⟩ else ⟨#[114,101,102,117,115,101,100]⟩
theorem stP0:stP 0=⟨#[97,115,107,105,110,103]⟩:=rfl
theorem stP1:stP 1=⟨#[112,114,101,112,97,114,105,110,103]⟩:=rfl
theorem stP2:stP 2=⟨#[100,111,110,101]⟩:=rfl
theorem stP3:stP 3=⟨#[114,101,102,117,115,101,100]⟩:=rfl
def waitsB (P:PL) (att k:Int):Bool:=(k == 2 && P.stt == 0 && decide (att=0)) || (k == 4 && P.stt == 0 && decide (0<att)) || (k == 6 && P.stt == 1)
def takesB (n id:Nat) (deal att:Int) (P:PL) (f:F9):Bool:=decide (f.t=id∧f.d=deal∧f.a=att) && waitsB P att f.k && decide (0≤f.f∧f.f<n) && !bit P.ans f.f.toNat
def ansS (a:Int) (i:Nat):Int:=bits .or .i64 a (2 ^ i)
def toldS (L:List S3) (i:Nat) (s:S3):List S3:=L.set i s
def noteP (P:PL) (f:F9):PL:={ P with ans:=ansS P.ans f.f.toNat }
def seeP (P:PL) (p:Int):PL:=if P.has=false ∨ P.seen<p then { P with seen:=p,has:=true } else P
def decP (P:PL) (p:Int):PL×Option (Int×Int):=({ P with stt:=2 },some (7,p))
def preP (P:PL) (p:Int):PL×Option (Int×Int):=({ P with stt:=1,prep:=p,ans:=0 },some (5,p))
def voteP (n:Nat) (P:PL) (y:Bool):PL×Option (Int×Int):=if y=false then decP P 3 else if P.ans=2 ^ n - 1 then preP P 4 else (P,none)
def tellP (zs:List Int) (P:PL) (i:Nat) (s:S3):PL×Option (Int×Int) :=
 if enoughB zs P.ans=false then ({ P with told:=toldS P.told i s },none)
 else if (chooseL (toldS P.told i s)).2=true then decP { P with told:=toldS P.told i s } (chooseL (toldS P.told i s)).1 else preP { P with told:=toldS P.told i s } (chooseL (toldS P.told i s)).1
def ackP (zs:List Int) (P:PL):PL×Option (Int×Int):=if enoughB zs P.ans=false then (P,none) else decP P (afterI P.prep)
def takenP (zs:List Int) (P:PL) (f:F9):PL×Option (Int×Int) :=
 if f.k=2 then voteP zs.length (noteP P f) f.y
 else if f.y=false then ({ seeP (noteP P f) f.pr with stt:=3 },none)
 else if f.k=4 then tellP zs (seeP (noteP P f) f.pr) f.f.toNat ⟨f.ph,f.pr,f.pa⟩
 else ackP zs (seeP (noteP P f) f.pr)
def phear (zs:List Int) (id:Nat) (deal att:Int) (P:PL) (f:F9):PL×Option (Int×Int) :=
 if takesB zs.length id deal att P f=true then takenP zs P f else (P,none)
def toL (id:Nat) (deal kind att ph:Int):Nat→List F9
 | 0=>[]
 | k+1=>toL id deal kind att ph k ++ [⟨id,k,deal,kind,att,false,ph,0,0⟩]
theorem toL_length (id:Nat) (deal kind att ph:Int):∀ k,(toL id deal kind att ph k).length=k
 | 0=>rfl
 | k+1=>by rw [toL,List.length_append,toL_length]; rfl
def outL (id:Nat) (deal att:Int) (n:Nat):Option (Int×Int)→List F9
 | none=>[]
 | some x=>toL id deal x.1 att x.2 n
theorem outL_le (id:Nat) (deal att:Int) (n:Nat) (x:Option (Int×Int)):(outL id deal att n x).length≤n:=by
 cases x with
 | none=>exact Nat.zero_le _
 | some y=>exact Nat.le_of_eq (toL_length _ _ _ _ _ _)
structure PW (n:Nat) (P:PL):Prop where
 len:P.told.length=7
 lo:0≤P.ans
 hi:P.ans<2 ^ n
theorem ansS_bd {n:Nat} {a:Int} {i:Nat} (hn:n≤7) (h0:0≤a) (h1:a<2 ^ n) (hi:i<n):0≤ansS a i∧ansS a i<2 ^ n:=by
 have h2:(2:Int) ^ i<2 ^ n:=Int.pow_lt_pow_of_lt (by decide) hi
 have h3:(0:Int)<2 ^ i:=Int.pow_pos (by decide)
 exact or_lt hn h0 h1 (by omega) h2
theorem seeP_of (P:PL) (p:Int):(seeP P p).stt=P.stt∧(seeP P p).ans=P.ans∧(seeP P p).told=P.told∧(seeP P p).prep=P.prep:=by
 unfold seeP; split <;> exact ⟨rfl,rfl,rfl,rfl⟩
theorem PW.note {n:Nat} {P:PL} {f:F9} (h:PW n P) (hn:n≤7) (h0:0≤f.f) (h1:f.f<n):PW n (noteP P f) :=
 ⟨h.len,(ansS_bd hn h.lo h.hi (by omega)).1,(ansS_bd hn h.lo h.hi (by omega)).2⟩
theorem PW.see {n:Nat} {P:PL} (h:PW n P) (p:Int):PW n (seeP P p):=by
 obtain ⟨-,h2,h3,-⟩:=seeP_of P p
 exact ⟨by rw [h3]; exact h.len,by rw [h2]; exact h.lo,by rw [h2]; exact h.hi⟩
theorem PW.dec {n:Nat} {P:PL} (h:PW n P) (p:Int):PW n (decP P p).1:=⟨h.len,h.lo,h.hi⟩
theorem PW.pre {n:Nat} {P:PL} (h:PW n P) (p:Int):PW n (preP P p).1:=⟨h.len,Int.le_refl _,Int.pow_pos (by decide)⟩
theorem PW.tell {n:Nat} {P:PL} (h:PW n P) (i:Nat) (s:S3):PW n { P with told:=toldS P.told i s }:=⟨by show (P.told.set i s).length=7; rw [List.length_set]; exact h.len,h.lo,h.hi⟩
theorem PW.taken {zs:List Int} {P:PL} {f:F9} (h:PW zs.length P) (hn:zs.length≤7) (h0:0≤f.f) (h1:f.f<zs.length):PW zs.length (takenP zs P f).1:=by
 have h2:=h.note (f:=f) hn h0 h1
 have h3:=h2.see f.pr
 unfold takenP
 split
 ·unfold voteP; split
  ·exact h2.dec _
  ·split
   ·exact h2.pre _
   ·exact h2
 ·split
  ·exact ⟨h3.len,h3.lo,h3.hi⟩
  ·split
   ·unfold tellP
    split
    ·exact h3.tell _ _
    ·split
     ·exact (h3.tell _ _).dec _
     ·exact (h3.tell _ _).pre _
   ·unfold ackP
    split
    ·exact h3
    ·exact h3.dec _
theorem takesB_in {n id:Nat} {deal att:Int} {P:PL} {f:F9} (h:takesB n id deal att P f=true):(f.t=id∧f.d=deal∧f.a=att)∧waitsB P att f.k=true∧(0≤f.f∧f.f<n)∧bit P.ans f.f.toNat=false:=by
 unfold takesB at h
 simp only [Bool.and_eq_true,decide_eq_true_eq,Bool.not_eq_true'] at h
 exact ⟨h.1.1.1,h.1.1.2,h.1.2,h.2⟩
theorem PW.hear {zs:List Int} {id:Nat} {deal att:Int} {P:PL} {f:F9} (h:PW zs.length P) (hn:zs.length≤7):PW zs.length (phear zs id deal att P f).1:=by
 unfold phear
 split
 ·rename_i ht
  obtain ⟨-,-,⟨h0,h1⟩,-⟩:=takesB_in ht
  exact h.taken hn h0 h1
 ·exact h
end Go.Proofs.YtadhpkopkkjmfaaGreatDoor
namespace Go.Proofs.YtadhpkopkkjmfaaGreatDoor
theorem taken_st {zs:List Int} {P:PL} {f:F9} (h:P.stt<4):(takenP zs P f).1.stt<4:=by
 have h1:(seeP (noteP P f) f.pr).stt<4:=by rw [(seeP_of _ _).1]; exact h
 unfold takenP
 split
 ·unfold voteP; split
  ·show 2<4; decide
  ·split
   ·show 1<4; decide
   ·exact h
 ·split
  ·show 3<4; decide
  ·split
   ·unfold tellP
    split
    ·exact h1
    ·split
     ·show 2<4; decide
     ·show 1<4; decide
   ·unfold ackP
    split
    ·exact h1
    ·show 2<4; decide
theorem phear_st {zs:List Int} {id:Nat} {deal att:Int} {P:PL} {f:F9} (h:P.stt<4):(phear zs id deal att P f).1.stt<4:=by
 unfold phear
 split
 ·exact taken_st h
 ·exact h
end Go.Proofs.YtadhpkopkkjmfaaGreatDoor
namespace Go.Proofs.YtadhpkopkkjmfaaGreatDoor
open Go.RowKit
structure Gh where
 acc:Nat→Nat→Prop
 val:Nat→Nat
 no:Nat→Prop
def Qo (zs:List Int) (S:Nat→Prop):Prop:=∃ q:Int,errS zs q=0∧enoughB zs q=true∧∀ i,i<zs.length→bit q i=true→S i
theorem Qo.mono {zs:List Int} {S T:Nat→Prop} (h:Qo zs S) (hS:∀ i,i<zs.length→S i→T i):Qo zs T:=by
 obtain ⟨q,h1,h2,h3⟩:=h
 exact ⟨q,h1,h2,fun i hi hb=>hS i hi (h3 i hi hb)⟩
theorem Qo.meet {zs:List Int} {S T:Nat→Prop} (h:Qo zs S) (g:Qo zs T):∃ i,i<zs.length∧S i∧T i:=by
 obtain ⟨a,a1,a2,a3⟩:=h
 obtain ⟨b,b1,b2,b3⟩:=g
 have hm:=Go.Proofs.YtadhpkopkkjmfaaGreatDoor.meet a1 b1 a2 b2
 have ha:=lt128 a1
 have hb:=lt128 b1
 obtain ⟨-,p1,p2⟩:=errS_zero a1
 obtain ⟨m,rfl⟩:=Int.eq_ofNat_of_zero_le ha.1
 obtain ⟨l,rfl⟩:=Int.eq_ofNat_of_zero_le hb.1
 rw [bits_and_nat m l (by omega) (by omega)] at hm
 have hne:m &&& l≠0:=by
  intro e
  rw [e] at hm
  cases hm
 obtain ⟨k,hk⟩:=Nat.exists_testBit_of_ne_zero hne
 rw [Nat.testBit_and,Bool.and_eq_true] at hk
 rw [pow_nat] at p2
 have hm2:m<2 ^ zs.length:=by omega
 have hkn:k<zs.length:=by
  refine Nat.lt_of_not_le fun hle=>?_
  have h1:m<2 ^ k:=Nat.lt_of_lt_of_le hm2 (Nat.pow_le_pow_right (by decide) hle)
  rw [Nat.testBit_lt_two_pow h1] at hk
  cases hk.1
 exact ⟨k,hkn,a3 k hkn (by unfold bit; rw [Int.toNat_natCast]; exact hk.1),b3 k hkn (by unfold bit; rw [Int.toNat_natCast]; exact hk.2)⟩
def Dec2 (zs:List Int) (g:Gh):Prop:=∃ a,g.val a=4∧Qo zs fun i=>g.acc i a
def Dec3 (zs:List Int) (g:Gh):Prop:=(∃ a,g.val a=5∧Qo zs fun i=>g.acc i a) ∨ ∃ i,i<zs.length∧g.no i
structure Co (zs:List Int) (s:Nat→St) (g:Gh):Prop where
 av:∀ i a,g.acc i a→g.val a≠0
 ap:∀ i a,i<zs.length→g.acc i a→a≤(s i).pr
 vi:∀ a,g.val a=0 ∨ g.val a=4 ∨ g.val a=5
 v0:g.val 0≠5
 ow:∀ a,g.val a≠0→0<a→a≤(s (a % zs.length)).pr
 bg:∀ a,g.val a≠0→0<a→Qo zs fun i=>a≤(s i).pr
 px:∀ a b,b<a→g.val a≠0→g.val b≠0→g.val a≠g.val b→Qo zs fun i=>b<(s i).pr∧¬ g.acc i b
 s4:∀ i,i<zs.length→((s i).ph=4 ∨ (s i).ph=5)→g.val (s i).at_=(s i).ph∧∀ b,g.acc i b→b≤(s i).at_
 s0:∀ i,i<zs.length→((s i).ph=0 ∨ (s i).ph=1)→∀ b,¬ g.acc i b
 s2:∀ i,i<zs.length→(s i).ph=2→Dec2 zs g
 s3:∀ i,i<zs.length→(s i).ph=3→Dec3 zs g
 al:∀ a,g.val a=4→∀ i,i<zs.length→(s i).ph≠0
 nv:∀ i,i<zs.length→g.no i→(s i).ph=3∧∀ a,g.val a≠4
theorem Co.split {zs:List Int} {s:Nat→St} {g:Gh} (h:Co zs s g) (h2:Dec2 zs g) (h3:Dec3 zs g):False:=by
 obtain ⟨a,ha,hq⟩:=h2
 rcases h3 with ⟨b,hb,hr⟩|⟨i,hi,hn⟩
 ·rcases Nat.lt_trichotomy a b with hlt|rfl|hlt
  ·obtain ⟨i,-,h1,-,h4⟩:=Qo.meet hq (h.px b a hlt (by omega) (by omega) (by omega))
   exact h4 h1
  ·omega
  ·obtain ⟨i,-,h1,-,h4⟩:=Qo.meet hr (h.px a b hlt (by omega) (by omega) (by omega))
   exact h4 h1
 ·exact (h.nv i hi hn).2 a ha
theorem Co.zero {zs:List Int} {s:Nat→St} (hs:∀ i,i<zs.length→(s i).ph=0):Co zs s ⟨fun _ _=>False,fun _=>0,fun _=>False⟩ where
 av:=fun _ _ h=>h.elim
 ap:=fun _ _ _ h=>h.elim
 vi:=fun _=>.inl rfl
 v0:=by decide
 ow:=fun _ h=>(h rfl).elim
 bg:=fun _ h=>(h rfl).elim
 px:=fun _ _ _ h=>(h rfl).elim
 s4:=fun i hi h=>by have:=hs i hi; omega
 s0:=fun _ _ _ _ h=>h
 s2:=fun i hi h=>by have:=hs i hi; omega
 s3:=fun i hi h=>by have:=hs i hi; omega
 al:=fun _ h=>by cases h
 nv:=fun _ _ h=>h.elim
structure Gr (zs:List Int) (s:Nat→St) (g:Gh) (s':Nat→St) (g':Gh):Prop where
 pr:∀ i,(s i).pr≤(s' i).pr
 ph:∀ i,i<zs.length→(s i).ph≠0→(s' i).ph≠0
 va:∀ a,g.val a≠0→g'.val a=g.val a
 ac:∀ i a,g.acc i a→g'.acc i a
 an:∀ i a,i<zs.length→g'.acc i a→g.acc i a ∨ (s i).pr≤a
 no:∀ i,g.no i→g'.no i
 nn:∀ i,i<zs.length→g'.no i→g.no i ∨ (s i).ph=0
theorem Gr.refl (zs:List Int) (s:Nat→St) (g:Gh):Gr zs s g s g:=⟨fun _=>Nat.le_refl _,fun _ _ h=>h,fun _ _=>rfl,fun _ _ h=>h,fun _ _ _ h=>.inl h,fun _ h=>h,fun _ _ h=>.inl h⟩
section
variable {zs:List Int} {s s':Nat→St} {g g':Gh}
theorem Dec2.grow (h:Dec2 zs g) (k:Gr zs s g s' g'):Dec2 zs g':=by
 obtain ⟨a,h1,h2⟩:=h
 exact ⟨a,by rw [k.va a (by omega)]; exact h1,h2.mono fun i _ hi=>k.ac i a hi⟩
theorem Dec3.grow (h:Dec3 zs g) (k:Gr zs s g s' g'):Dec3 zs g':=by
 rcases h with ⟨a,h1,h2⟩|⟨i,h1,h2⟩
 ·exact .inl ⟨a,by rw [k.va a (by omega)]; exact h1,h2.mono fun i _ hi=>k.ac i a hi⟩
 ·exact .inr ⟨i,h1,k.no i h2⟩
structure Told (zs:List Int) (s:Nat→St) (g:Gh) (i a:Nat) (t:S3):Prop where
 pr:a≤(s i).pr
 a0:0≤t.a
 d2:t.p=2→Dec2 zs g
 d3:t.p=3→Dec3 zs g
 va:(t.p=4 ∨ t.p=5)→(g.val t.a.toNat:Int)=t.p
 ac:t.p≠2→t.p≠3→∀ b,b<a→g.acc i b→(t.p=4 ∨ t.p=5)∧(b:Int)≤t.a
theorem Told.grow {i a:Nat} {t:S3} (h:Told zs s g i a t) (hi:i<zs.length) (k:Gr zs s g s' g'):Told zs s' g' i a t where
 pr:=Nat.le_trans h.pr (k.pr i)
 a0:=h.a0
 d2:=fun e=>(h.d2 e).grow k
 d3:=fun e=>(h.d3 e).grow k
 va:=fun e=>by have:=h.va e; rw [k.va _ (by omega)]; exact this
 ac:=fun e2 e3 b hb hac=>by
  rcases k.an i b hi hac with h1|h1
  ·exact h.ac e2 e3 b hb h1
  ·have:=h.pr; omega
structure Fr (zs:List Int) (s:Nat→St) (g:Gh) (f:F9):Prop where
 vy:f.k=2→f.y=true→(s f.f.toNat).ph≠0∧¬ g.no f.f.toNat
 vn:f.k=2→f.y=false→Dec3 zs g
 te:f.k=4→f.y=true→Told zs s g f.f.toNat f.a.toNat ⟨f.ph,f.pr,f.pa⟩
 pe:f.k=5→(f.ph=4 ∨ f.ph=5)∧(g.val f.a.toNat:Int)=f.ph
 ak:f.k=6→f.y=true→g.acc f.f.toNat f.a.toNat
 d2:f.k=7→f.ph=2→Dec2 zs g
 d3:f.k=7→f.ph=3→Dec3 zs g
theorem Fr.grow {f:F9} (h:Fr zs s g f) (hf:f.f.toNat<zs.length) (k:Gr zs s g s' g'):Fr zs s' g' f where
 vy:=fun e y=>by
  obtain ⟨h1,h2⟩:=h.vy e y
  refine ⟨k.ph _ hf h1,fun hn=>?_⟩
  rcases k.nn _ hf hn with h3|h3
  ·exact h2 h3
  ·exact h1 h3
 vn:=fun e y=>(h.vn e y).grow k
 te:=fun e y=>(h.te e y).grow hf k
 pe:=fun e=>by obtain ⟨h1,h2⟩:=h.pe e; exact ⟨h1,by rw [k.va _ (by omega)]; exact h2⟩
 ak:=fun e y=>k.ac _ _ (h.ak e y)
 d2:=fun e p=>(h.d2 e p).grow k
 d3:=fun e p=>(h.d3 e p).grow k
structure Le (zs:List Int) (s:Nat→St) (g:Gh) (id:Nat) (att:Int) (P:PL):Prop where
 a0:0≤att
 vo:P.stt=0→att=0→∀ i,i<zs.length→bit P.ans i=true→(s i).ph≠0∧¬ g.no i
 tv:P.stt=0→0<att→g.val att.toNat=0
 tt:P.stt=0→0<att→∀ i,i<zs.length→bit P.ans i=true→∃ t,P.told[i]? = some t∧Told zs s g i att.toNat t
 t0:P.stt=0→0<att→∀ i t,P.told[i]? = some t→t.p=0 ∨ (i<zs.length∧bit P.ans i=true)
 ow:0<att→att.toNat % zs.length=id∧att.toNat≤(s id).pr
 pv:P.stt=1→(P.prep=4 ∨ P.prep=5)∧(g.val att.toNat:Int)=P.prep
 pa:P.stt=1→∀ i,i<zs.length→bit P.ans i=true→g.acc i att.toNat
theorem Le.grow {id:Nat} {att:Int} {P:PL} (h:Le zs s g id att P) (k:Gr zs s g s' g') (hv:P.stt=0→0<att→g'.val att.toNat=0):Le zs s' g' id att P where
 a0:=h.a0
 vo:=fun e e2 i hi hb=>by
  obtain ⟨h1,h2⟩:=h.vo e e2 i hi hb
  refine ⟨k.ph _ hi h1,fun hn=>?_⟩
  rcases k.nn _ hi hn with h3|h3
  ·exact h2 h3
  ·exact h1 h3
 tv:=hv
 tt:=fun e e2 i hi hb=>by obtain ⟨t,h1,h2⟩:=h.tt e e2 i hi hb; exact ⟨t,h1,h2.grow hi k⟩
 t0:=h.t0
 ow:=fun e=>⟨(h.ow e).1,Nat.le_trans (h.ow e).2 (k.pr id)⟩
 pv:=fun e=>by obtain ⟨h1,h2⟩:=h.pv e; exact ⟨h1,by rw [k.va _ (by omega)]; exact h2⟩
 pa:=fun e i hi hb=>k.ac _ _ (h.pa e i hi hb)
def upd (s:Nat→St) (i:Nat) (t:St):Nat→St:=fun k=>if k=i then t else s k
theorem upd_at (s:Nat→St) (i:Nat) (t:St):upd s i t i=t:=if_pos rfl
theorem upd_ne (s:Nat→St) (i:Nat) (t:St) {k:Nat} (h:k≠i):upd s i t k=s k:=if_neg h
def ghS (g:Gh) (i:Nat) (A:Nat→Prop) (N:Prop):Gh:=⟨fun j a=>g.acc j a ∨ (j=i∧A a),g.val,fun j=>g.no j ∨ (j=i∧N)⟩
theorem co_site (h:Co zs s g) {i:Nat} (hi:i<zs.length) (t:St) (A:Nat→Prop) (N:Prop) (hpr:(s i).pr≤t.pr) (hA:∀ a,A a→g.val a≠0∧(s i).pr≤a∧a≤t.pr)
  (hN:N→(s i).ph=0∧t.ph=3) (hph:(s i).ph≠0→t.ph≠0) (hfin:(s i).ph=3→t.ph=3)
  (t4:(t.ph=4 ∨ t.ph=5)→g.val t.at_=t.ph∧∀ b,(g.acc i b ∨ A b)→b≤t.at_) (t0:(t.ph=0 ∨ t.ph=1)→∀ b,¬ (g.acc i b ∨ A b)) (t2:t.ph=2→Dec2 zs g) (t3:t.ph=3→Dec3 zs g ∨ N) :
  Co zs (upd s i t) (ghS g i A N)∧Gr zs s g (upd s i t) (ghS g i A N):=by
 have hupr:∀ k,(s k).pr≤(upd s i t k).pr:=fun k=>by
  by_cases e:k=i
  ·subst e; rw [upd_at]; exact hpr
  ·rw [upd_ne _ _ _ e]; exact Nat.le_refl _
 have hG:Gr zs s g (upd s i t) (ghS g i A N):=by
  refine ⟨hupr,fun k hk hp=>?_,fun _ _=>rfl,fun _ _ x=>.inl x,fun k a hk x=>?_,fun _ x=>.inl x,fun k hk x=>?_⟩
  ·by_cases e:k=i
   ·subst e; rw [upd_at]; exact hph hp
   ·rw [upd_ne _ _ _ e]; exact hp
  ·rcases x with x|⟨rfl,x⟩
   ·exact .inl x
   ·exact .inr (hA a x).2.1
  ·rcases x with x|⟨rfl,x⟩
   ·exact .inl x
   ·exact .inr (hN x).1
 refine ⟨?_,hG⟩
 refine ⟨fun k a x=>?_,fun k a hk x=>?_,h.vi,h.v0,fun a ha h0=>Nat.le_trans (h.ow a ha h0) (hupr _),fun a ha h0=>(h.bg a ha h0).mono fun k _ x=>Nat.le_trans x (hupr k),fun a b hab ha hb hne=>?_,fun k hk x=>?_,fun k hk x b=>?_,fun k hk x=>?_,fun k hk x=>?_,fun a ha k hk=>?_,fun k hk x=>?_⟩
 ·rcases x with x|⟨-,x⟩
  ·exact h.av k a x
  ·exact (hA a x).1
 ·rcases x with x|⟨rfl,x⟩
  ·exact Nat.le_trans (h.ap k a hk x) (hupr k)
  ·rw [upd_at]; exact (hA a x).2.2
 ·refine (h.px a b hab ha hb hne).mono fun k _ x=>⟨Nat.lt_of_lt_of_le x.1 (hupr k),?_⟩
  rintro (y|⟨rfl,y⟩)
  ·exact x.2 y
  ·have:=(hA b y).2.1; omega
 ·by_cases e:k=i
  ·subst e
   rw [upd_at] at x ⊢
   refine ⟨(t4 x).1,?_⟩
   rintro b (y|⟨-,y⟩)
   ·exact (t4 x).2 b (.inl y)
   ·exact (t4 x).2 b (.inr y)
  ·rw [upd_ne _ _ _ e] at x ⊢
   refine ⟨(h.s4 k hk x).1,?_⟩
   rintro b (y|⟨y,-⟩)
   ·exact (h.s4 k hk x).2 b y
   ·exact (e y).elim
 ·by_cases e:k=i
  ·subst e
   rw [upd_at] at x
   rintro (y|⟨-,y⟩)
   ·exact t0 x b (.inl y)
   ·exact t0 x b (.inr y)
  ·rw [upd_ne _ _ _ e] at x
   rintro (y|⟨y,-⟩)
   ·exact h.s0 k hk x b y
   ·exact (e y).elim
 ·by_cases e:k=i
  ·subst e; rw [upd_at] at x; exact (t2 x).grow hG
  ·rw [upd_ne _ _ _ e] at x; exact (h.s2 k hk x).grow hG
 ·by_cases e:k=i
  ·subst e
   rw [upd_at] at x
   rcases t3 x with y|y
   ·exact y.grow hG
   ·exact .inr ⟨k,hi,.inr ⟨rfl,y⟩⟩
  ·rw [upd_ne _ _ _ e] at x; exact (h.s3 k hk x).grow hG
 ·exact hG.ph k hk (h.al a ha k hk)
 ·by_cases e:k=i
  ·subst e
   rcases x with x|⟨-,x⟩
   ·obtain ⟨x1,x2⟩:=h.nv k hk x
    refine ⟨?_,x2⟩
    rw [upd_at]
    exact hfin x1
   ·refine ⟨by rw [upd_at]; exact (hN x).2,fun a ha=>h.al a ha k hk (hN x).1⟩
  ·rcases x with x|⟨x,-⟩
   ·rw [upd_ne _ _ _ e]; exact h.nv k hk x
   ·exact (e x).elim
theorem ghS_id (g:Gh) (i:Nat):ghS g i (fun _=>False) False=g:=by
 obtain ⟨a,v,n⟩:=g
 unfold ghS
 simp
def ansF (id:Nat) (f:F9) (o:HOut):F9:=⟨id,f.f,f.d,o.k,f.a,o.yes,o.st.ph,o.st.pr,o.st.at_⟩
theorem same_site (s:Nat→St) (i:Nat):upd s i (s i)=s:=by
 funext k
 unfold upd
 split
 ·rename_i e; rw [e]
 ·rfl
theorem hear_co (h:Co zs s g) {i:Nat} (hi:i<zs.length) (hg:(s i).good) (ref:Bool) (f:F9) (hf:Fr zs s g f) (h5:0≤f.ph) :
  ∃ g',Co zs (upd s i (hearL (s i) ref f.k.toNat f.a.toNat f.ph.toNat).st) g'∧Gr zs s g (upd s i (hearL (s i) ref f.k.toNat f.a.toNat f.ph.toNat).st) g'∧g'.val=g.val ∧
   ((hearL (s i) ref f.k.toNat f.a.toNat f.ph.toNat).k≠0→Fr zs (upd s i (hearL (s i) ref f.k.toNat f.a.toNat f.ph.toNat).st) g' (ansF i f (hearL (s i) ref f.k.toNat f.a.toNat f.ph.toNat))):=by
 have hgood:=hg
 obtain ⟨g1,g2,g3⟩:=hg
 have same:∀ o:HOut,o.st=s i→(o.k≠0→Fr zs s g (ansF i f o))→∃ g',Co zs (upd s i o.st) g'∧Gr zs s g (upd s i o.st) g'∧g'.val=g.val∧(o.k≠0→Fr zs (upd s i o.st) g' (ansF i f o)):=by
  intro o e hFr
  rw [e,same_site s i]
  exact ⟨g,h,Gr.refl _ _ _,rfl,hFr⟩
 unfold hearL
 split
 · -- a vote
  unfold askP
  by_cases e0:(s i).ph=0
  ·rw [if_pos e0]
   cases ref with
   | true =>
    rw [if_pos rfl]
    have hc:=co_site h hi ⟨3,(s i).pr,(s i).at_⟩ (fun _=>False) True (Nat.le_refl _) (fun _ x=>x.elim) (fun _=>⟨e0,rfl⟩) (fun x=>absurd e0 x) (fun x=>rfl) (fun x=>by simp at x) (fun x=>by simp at x) (fun x=>by simp at x) (fun _=>.inr trivial)
    refine ⟨_,hc.1,hc.2,rfl,fun _=>⟨fun _ y=>(by simp [ansF] at y),fun _ _=>.inr ⟨i,hi,.inr ⟨rfl,trivial⟩⟩,fun k=>(by simp [ansF] at k),fun k=>(by simp [ansF] at k),fun k=>(by simp [ansF] at k),fun k=>(by simp [ansF] at k),fun k=>(by simp [ansF] at k)⟩⟩
   | false =>
    rw [if_neg (by decide)]
    have hc:=co_site h hi ⟨1,(s i).pr,(s i).at_⟩ (fun _=>False) False (Nat.le_refl _) (fun _ x=>x.elim) (fun x=>x.elim) (fun x=>absurd e0 x) (fun x=>by omega) (fun x=>by simp at x) (fun _ b x=>h.s0 i hi (.inl e0) b (x.elim id False.elim)) (fun x=>by simp at x) (fun x=>by simp at x)
    rw [ghS_id] at hc
    refine ⟨_,hc.1,hc.2,rfl,fun _=>⟨fun _ _=>⟨?_,?_⟩,fun _ y=>(by simp [ansF] at y),fun k=>(by simp [ansF] at k),fun k=>(by simp [ansF] at k),fun k=>(by simp [ansF] at k),fun k=>(by simp [ansF] at k),fun k=>(by simp [ansF] at k)⟩⟩
    ·show (upd s i _ ((i:Int).toNat)).ph≠0
     rw [Int.toNat_natCast,upd_at]; exact Nat.one_ne_zero
    ·show ¬ g.no ((i:Int).toNat)
     rw [Int.toNat_natCast]
     intro hn
     have:=(h.nv i hi hn).1
     omega
  ·rw [if_neg e0]
   refine same ⟨⟨(s i).ph,(s i).pr,(s i).at_⟩,2,decide ((s i).ph≠3)⟩ rfl fun _=>⟨fun _ y=>⟨?_,?_⟩,fun _ y=>?_,fun k=>(by simp [ansF] at k),fun k=>(by simp [ansF] at k),fun k=>(by simp [ansF] at k),fun k=>(by simp [ansF] at k),fun k=>(by simp [ansF] at k)⟩
   ·show (s ((i:Int).toNat)).ph≠0
    rw [Int.toNat_natCast]; exact e0
   ·show ¬ g.no ((i:Int).toNat)
    rw [Int.toNat_natCast]
    intro hn
    have h1:=(h.nv i hi hn).1
    have h2:decide ((s i).ph≠3)=true:=y
    exact of_decide_eq_true h2 h1
   ·have h2:decide ((s i).ph≠3)=false:=y
    have h3:=of_decide_eq_false h2
    exact h.s3 i hi (by omega)
 ·split
  · -- a promise
   split
   ·rename_i hlt
    have hc:=co_site h hi ⟨(s i).ph,f.a.toNat,(s i).at_⟩ (fun _=>False) False (Nat.le_of_lt hlt) (fun _ x=>x.elim) (fun x=>x.elim) (fun x=>x) (fun x=>x) (fun x=>⟨(h.s4 i hi x).1,fun b y=>(h.s4 i hi x).2 b (y.elim id False.elim)⟩) (fun x b y=>h.s0 i hi x b (y.elim id False.elim)) (fun x=>h.s2 i hi x) (fun x=>.inl (h.s3 i hi x))
    rw [ghS_id] at hc
    refine ⟨_,hc.1,hc.2,rfl,fun _=>⟨fun k=>(by simp [ansF] at k),fun k=>(by simp [ansF] at k),fun _ _=>?_,fun k=>(by simp [ansF] at k),fun k=>(by simp [ansF] at k),fun k=>(by simp [ansF] at k),fun k=>(by simp [ansF] at k)⟩⟩
    show Told zs (upd s i ⟨(s i).ph,f.a.toNat,(s i).at_⟩) g ((i:Int).toNat) f.a.toNat ⟨((s i).ph:Int),(f.a.toNat:Int),((s i).at_:Int)⟩
    rw [Int.toNat_natCast]
    refine ⟨by rw [upd_at]; exact Nat.le_refl _,Int.natCast_nonneg _,fun e=>h.s2 i hi (by simp only at e; omega),fun e=>h.s3 i hi (by simp only at e; omega),fun e=>?_,fun e2 e3 b hb hac=>?_⟩
    ·have e':(s i).ph=4 ∨ (s i).ph=5:=by simp only at e; omega
     simp only [Int.toNat_natCast]
     rw [(h.s4 i hi e').1]
    ·simp only at e2 e3
     have hnot:¬ ((s i).ph=0 ∨ (s i).ph=1):=fun x=>h.s0 i hi x b hac
     have e':(s i).ph=4 ∨ (s i).ph=5:=by omega
     refine ⟨by simp only; omega,?_⟩
     have:=(h.s4 i hi e').2 b hac
     simp only
     omega
   ·exact same ⟨s i,4,false⟩ rfl fun _=>⟨fun k=>(by simp [ansF] at k),fun k=>(by simp [ansF] at k),fun _ y=>(by simp [ansF] at y),fun k=>(by simp [ansF] at k),fun k=>(by simp [ansF] at k),fun k=>(by simp [ansF] at k),fun k=>(by simp [ansF] at k)⟩
  ·split
   ·rename_i hk
    split
    ·rename_i hp
     split
     ·rename_i hc
      obtain ⟨hpr,hf2⟩:=hc
      have hf3:=of_decide_eq_false hf2
      obtain ⟨-,hv⟩:=hf.pe (by omega)
      have hv2:g.val f.a.toNat=f.ph.toNat:=by omega
      have hco:=co_site h hi ⟨f.ph.toNat,f.a.toNat,f.a.toNat⟩ (fun a=>a=f.a.toNat) False hpr (fun a x=>by subst x; exact ⟨by omega,hpr,Nat.le_refl _⟩) (fun x=>x.elim) (fun _=>by show f.ph.toNat≠0; omega) (fun x=>by omega)
       (fun _=>⟨hv2,fun b y=>by
        rcases y with y|y
        ·exact Nat.le_trans (h.ap i b hi y) hpr
        ·exact Nat.le_of_eq y⟩) (fun x=>by simp only at x; omega) (fun x=>by simp only at x; omega) (fun x=>by simp only at x; omega)
      refine ⟨_,hco.1,hco.2,rfl,fun _=>⟨fun k=>(by simp [ansF] at k),fun k=>(by simp [ansF] at k),fun k=>(by simp [ansF] at k),fun k=>(by simp [ansF] at k),fun _ _=>?_,fun k=>(by simp [ansF] at k),fun k=>(by simp [ansF] at k)⟩⟩
      show g.acc ((i:Int).toNat) f.a.toNat ∨ ((i:Int).toNat=i∧f.a.toNat=f.a.toNat)
      exact .inr ⟨Int.toNat_natCast _,rfl⟩
     ·exact same ⟨s i,6,false⟩ rfl fun _=>⟨fun k=>(by simp [ansF] at k),fun k=>(by simp [ansF] at k),fun k=>(by simp [ansF] at k),fun k=>(by simp [ansF] at k),fun _ y=>(by simp [ansF] at y),fun k=>(by simp [ansF] at k),fun k=>(by simp [ansF] at k)⟩
    ·exact same ⟨s i,0,false⟩ rfl fun e=>absurd rfl e
   ·split
    ·rename_i hk
     split
     ·rename_i hc
      have e1:=of_decide_eq_true hc.1
      have e2:=of_decide_eq_false hc.2
      have hco:=co_site h hi ⟨f.ph.toNat,(s i).pr,(s i).at_⟩ (fun _=>False) False (Nat.le_refl _) (fun _ x=>x.elim) (fun x=>x.elim) (fun _=>by show f.ph.toNat≠0; omega) (fun x=>by omega) (fun x=>by simp only at x; omega) (fun x=>by simp only at x; omega) (fun x=>hf.d2 (by omega) (by simp only at x; omega)) (fun x=>.inl (hf.d3 (by omega) (by simp only at x; omega)))
      rw [ghS_id] at hco
      exact ⟨_,hco.1,hco.2,rfl,fun e=>absurd rfl e⟩
     ·exact same ⟨s i,0,false⟩ rfl fun e=>absurd rfl e
    ·exact same ⟨s i,0,false⟩ rfl fun e=>absurd rfl e
end
end Go.Proofs.YtadhpkopkkjmfaaGreatDoor
