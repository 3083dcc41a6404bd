/-
  On the way to SPlaysProof: Q0 QI O6A L2 L3 TF.
-/
import Derived.Test.YtaehdgemkafinaaGreatDoorBw2
import Derived.Test.YtaehdgemkafinaaGreatDoorBw1
import Derived.Laws.ResultCell
set_option maxHeartbeats 8000000
set_option maxRecDepth 100000
namespace Go.Proofs.YtaehdgemkafinaaGreatDoor
open Go.RowKit
structure PL where
 stt:Nat
 ans:Int
 told:List S3
 prep:Int
 seen:Int
 has:Bool
def stP (k:Nat):ByteArray:=if k=0 then ⟨#[97,115,107,105,110,103]⟩ else if k=1 then ⟨#[112,114,101,112,97,114,105,110,103]⟩ else if k=2 then ⟨#[100,111,110,101]⟩ else ⟨#[114,101,102,117,115,101,100]⟩
theorem stP0:stP 0=⟨#[97,115,107,105,110,103]⟩:=rfl
theorem stP1:stP 1=⟨#[112,114,101,112,97,114,105,110,103]⟩:=rfl
theorem stP2:stP 2=⟨#[100,111,110,101]⟩:=rfl
theorem stP3:stP 3=⟨#[114,101,102,117,115,101,100]⟩:=rfl
def waitsB (P:PL) (att k:Int):Bool:=(k == 2 && P.stt == 0 && decide (att=0)) || (k == 4 && P.stt == 0 && decide (0<att)) || (k == 6 && P.stt == 1)
def takesB (n id:Nat) (deal att:Int) (P:PL) (f:F9):Bool:=decide (f.t=id∧f.d=deal∧f.a=att) && waitsB P att f.k && decide (0≤f.f∧f.f<n) && !bit P.ans f.f.toNat
def ansS (a:Int) (i:Nat):Int:=bits .or .i64 a (2 ^ i)
def toldS (L:List S3) (i:Nat) (s:S3):List S3:=L.set i s
def noteP (P:PL) (f:F9):PL:={ P with ans:=ansS P.ans f.f.toNat }
def seeP (P:PL) (p:Int):PL:=if P.has=false ∨ P.seen<p then { P with seen:=p,has:=true } else P
def decP (P:PL) (p:Int):PL×Option (Int×Int):=({ P with stt:=2 },some (7,p))
def preP (P:PL) (p:Int):PL×Option (Int×Int):=({ P with stt:=1,prep:=p,ans:=0 },some (5,p))
def voteP (n:Nat) (P:PL) (y:Bool):PL×Option (Int×Int):=if y=false then decP P 3 else if P.ans=2 ^ n - 1 then preP P 4 else (P,none)
def tellP (zs:List Int) (P:PL) (i:Nat) (s:S3):PL×Option (Int×Int) :=
 if enoughB zs P.ans=false then ({ P with told:=toldS P.told i s },none)
 else if (chooseL (toldS P.told i s)).2=true then decP { P with told:=toldS P.told i s } (chooseL (toldS P.told i s)).1 else preP { P with told:=toldS P.told i s } (chooseL (toldS P.told i s)).1
def ackP (zs:List Int) (P:PL):PL×Option (Int×Int):=if enoughB zs P.ans=false then (P,none) else decP P (afterI P.prep)
def takenP (zs:List Int) (P:PL) (f:F9):PL×Option (Int×Int) :=
 if f.k=2 then voteP zs.length (noteP P f) f.y
 else if f.y=false then ({ seeP (noteP P f) f.pr with stt:=3 },none)
 else if f.k=4 then tellP zs (seeP (noteP P f) f.pr) f.f.toNat ⟨f.ph,f.pr,f.pa⟩
 else ackP zs (seeP (noteP P f) f.pr)
def phear (zs:List Int) (id:Nat) (deal att:Int) (P:PL) (f:F9):PL×Option (Int×Int) :=
 if takesB zs.length id deal att P f=true then takenP zs P f else (P,none)
def toL (id:Nat) (deal kind att ph:Int):Nat→List F9
 | 0=>[]
 | k+1=>toL id deal kind att ph k ++ [⟨id,k,deal,kind,att,false,ph,0,0⟩]
theorem toL_length (id:Nat) (deal kind att ph:Int):∀ k,(toL id deal kind att ph k).length=k
 | 0=>rfl
 | k+1=>by rw [toL,List.length_append,toL_length]; rfl
def outL (id:Nat) (deal att:Int) (n:Nat):Option (Int×Int)→List F9
 | none=>[]
 | some x=>toL id deal x.1 att x.2 n
theorem outL_le (id:Nat) (deal att:Int) (n:Nat) (x:Option (Int×Int)):(outL id deal att n x).length≤n:=by
 cases x with
 | none=>exact Nat.zero_le _
 | some y=>exact Nat.le_of_eq (toL_length _ _ _ _ _ _)
structure PW (n:Nat) (P:PL):Prop where
 len:P.told.length=7
 lo:0≤P.ans
 hi:P.ans<2 ^ n
theorem ansS_bd {n:Nat} {a:Int} {i:Nat} (hn:n≤7) (h0:0≤a) (h1:a<2 ^ n) (hi:i<n):0≤ansS a i∧ansS a i<2 ^ n:=by
 have h2:(2:Int) ^ i<2 ^ n:=Int.pow_lt_pow_of_lt (by decide) hi
 have h3:(0:Int)<2 ^ i:=Int.pow_pos (by decide)
 exact or_lt hn h0 h1 (by omega) h2
theorem seeP_of (P:PL) (p:Int):(seeP P p).stt=P.stt∧(seeP P p).ans=P.ans∧(seeP P p).told=P.told∧(seeP P p).prep=P.prep:=by
 unfold seeP; split <;> exact ⟨rfl,rfl,rfl,rfl⟩
theorem PW.note {n:Nat} {P:PL} {f:F9} (h:PW n P) (hn:n≤7) (h0:0≤f.f) (h1:f.f<n):PW n (noteP P f) :=
 ⟨h.len,(ansS_bd hn h.lo h.hi (by omega)).1,(ansS_bd hn h.lo h.hi (by omega)).2⟩
theorem PW.see {n:Nat} {P:PL} (h:PW n P) (p:Int):PW n (seeP P p):=by
 obtain ⟨-,h2,h3,-⟩:=seeP_of P p
 exact ⟨by rw [h3]; exact h.len,by rw [h2]; exact h.lo,by rw [h2]; exact h.hi⟩
theorem PW.dec {n:Nat} {P:PL} (h:PW n P) (p:Int):PW n (decP P p).1:=⟨h.len,h.lo,h.hi⟩
theorem PW.pre {n:Nat} {P:PL} (h:PW n P) (p:Int):PW n (preP P p).1:=⟨h.len,Int.le_refl _,Int.pow_pos (by decide)⟩
theorem PW.tell {n:Nat} {P:PL} (h:PW n P) (i:Nat) (s:S3):PW n { P with told:=toldS P.told i s }:=⟨by show (P.told.set i s).length=7; rw [List.length_set]; exact h.len,h.lo,h.hi⟩
theorem PW.taken {zs:List Int} {P:PL} {f:F9} (h:PW zs.length P) (hn:zs.length≤7) (h0:0≤f.f) (h1:f.f<zs.length):PW zs.length (takenP zs P f).1:=by
 have h2:=h.note (f:=f) hn h0 h1
 have h3:=h2.see f.pr
 unfold takenP
 split
 ·unfold voteP; split
  ·exact h2.dec _
  ·split
   ·exact h2.pre _
   ·exact h2
 ·split
  ·exact ⟨h3.len,h3.lo,h3.hi⟩
  ·split
   ·unfold tellP
    split
    ·exact h3.tell _ _
    ·split
     ·exact (h3.tell _ _).dec _
     ·exact (h3.tell _ _).pre _
   ·unfold ackP
    split
    ·exact h3
    ·exact h3.dec _
theorem takesB_in {n id:Nat} {deal att:Int} {P:PL} {f:F9} (h:takesB n id deal att P f=true):(f.t=id∧f.d=deal∧f.a=att)∧waitsB P att f.k=true∧(0≤f.f∧f.f<n)∧bit P.ans f.f.toNat=false:=by
 unfold takesB at h
 simp only [Bool.and_eq_true,decide_eq_true_eq,Bool.not_eq_true'] at h
 exact ⟨h.1.1.1,h.1.1.2,h.1.2,h.2⟩
theorem PW.hear {zs:List Int} {id:Nat} {deal att:Int} {P:PL} {f:F9} (h:PW zs.length P) (hn:zs.length≤7):PW zs.length (phear zs id deal att P f).1:=by
 unfold phear
 split
 ·rename_i ht
  obtain ⟨-,-,⟨h0,h1⟩,-⟩:=takesB_in ht
  exact h.taken hn h0 h1
 ·exact h
end Go.Proofs.YtaehdgemkafinaaGreatDoor
namespace Go.Proofs.YtaehdgemkafinaaGreatDoor
theorem taken_st {zs:List Int} {P:PL} {f:F9} (h:P.stt<4):(takenP zs P f).1.stt<4:=by
 have h1:(seeP (noteP P f) f.pr).stt<4:=by rw [(seeP_of _ _).1]; exact h
 unfold takenP
 split
 ·unfold voteP; split
  ·show 2<4; decide
  ·split
   ·show 1<4; decide
   ·exact h
 ·split
  ·show 3<4; decide
  ·split
   ·unfold tellP
    split
    ·exact h1
    ·split
     ·show 2<4; decide
     ·show 1<4; decide
   ·unfold ackP
    split
    ·exact h1
    ·show 2<4; decide
theorem phear_st {zs:List Int} {id:Nat} {deal att:Int} {P:PL} {f:F9} (h:P.stt<4):(phear zs id deal att P f).1.stt<4:=by
 unfold phear
 split
 ·exact taken_st h
 ·exact h
end Go.Proofs.YtaehdgemkafinaaGreatDoor
namespace Go.Proofs.YtaehdgemkafinaaGreatDoor
open Go.RowKit
def leftO (n:Nat) (L:Array Bool):Nat:=((List.range n).filter fun i=>!L.getD i true).length
theorem filter_less {α:Type} {p q:α→Bool}:∀ (l:List α) (x:α),x∈l→(∀ y,q y=true→p y=true)→p x=true→q x=false→(l.filter q).length<(l.filter p).length
 | [],x,h,_,_,_=>by cases h
 | y :: l,x,h,hpq,hp,hq=>by
  have hle:∀ l:List α,(l.filter q).length≤(l.filter p).length:=fun l=>by
   induction l with
   | nil=>exact Nat.le_refl _
   | cons z l ih =>
    simp only [List.filter_cons]
    cases h1:q z with
    | true=>rw [hpq z h1]; simpa using ih
    | false=>cases p z <;> simp <;> omega
  rcases List.mem_cons.1 h with rfl|h
  ·simp only [List.filter_cons,hp,hq]
   have:=hle l
   simp; omega
  ·have:=filter_less l x h hpq hp hq
   simp only [List.filter_cons]
   cases h1:q y with
   | true=>rw [hpq y h1]; simpa using this
   | false=>cases p y <;> simp <;> omega
theorem left_set {n i:Nat} {L:Array Bool} (hi:i<n) (hs:i<L.size) (h:L.getD i true=false):leftO n (L.setIfInBounds i true)<leftO n L:=by
 refine filter_less (List.range n) i (List.mem_range.2 hi) (fun y hy=>?_) (by rw [h]; rfl) ?_
 ·by_cases e:y=i
  ·subst e; rw [h]; rfl
  ·have:(L.setIfInBounds i true).getD y true=L.getD y true:=by simp [Ne.symm e]
   rw [this] at hy; exact hy
 ·simp [hs]
section
variable {P:Program} {md:Region.Mode} {ops:Array Oper} {Q:Exit→Act→World→Prop} {I:Nat→(Nat→Bool)→Act→World→Prop}
theorem ready_mem {L:Array Bool} {i:Nat} (h:i∈Region.ready md ops L):i<ops.size∧L.getD i true=false∧∀ o,ops[i]? = some o→∀ e,e∈o.after.toList→Region.binds md e=true→L.getD e.on false=true:=by
 unfold Region.ready at h
 obtain ⟨h1,h2⟩:=List.mem_filter.1 h
 simp only [Bool.and_eq_true,Bool.not_eq_true'] at h2
 refine ⟨List.mem_range.1 h1,h2.1,fun o ho e he hb=>?_⟩
 have h3:=h2.2
 rw [ho] at h3
 simp only [Option.map_some,Option.getD_some,Array.all_eq_true'] at h3
 have h4:=h3 e (Array.mem_toList_iff.1 he)
 rw [hb] at h4
 simpa using h4
theorem ready_nil (hd:∀ (i:Nat) (o:Oper),ops[i]? = some o→∀ e,e∈o.after.toList→e.on<i) {L:Array Bool} (hL:L.size=ops.size) (h:Region.ready md ops L=[]):∀ i,i<ops.size→L.getD i false=true:=by
 intro i
 induction i using Nat.strongRecOn with
 | ind i ih =>
  intro hi
  cases hq:L.getD i false with
  | true=>rfl
  | false =>
   exfalso
   have hmem:i∈Region.ready md ops L:=by
    unfold Region.ready
    refine List.mem_filter.2 ⟨List.mem_range.2 hi,?_⟩
    have h1:L.getD i true=false:=by
     rw [Array.getD_eq_getD_getElem?,Array.getElem?_eq_getElem (by omega)] at hq ⊢
     simpa using hq
    rw [h1,Array.getElem?_eq_getElem hi]
    simp only [Bool.not_false,Bool.true_and,Option.map_some,Option.getD_some,Array.all_eq_true']
    intro e he
    have h2:=hd i _ (Array.getElem?_eq_getElem hi) e (Array.mem_toList_iff.2 he)
    rw [ih e.on h2 (by omega)]
    simp
   rw [h] at hmem; cases hmem
theorem wpAny_inv (hd:∀ (i:Nat) (o:Oper),ops[i]? = some o→∀ e,e∈o.after.toList→e.on<i)
  (hstep:∀ f L a w,I (f+1) L a w→∀ i,i<ops.size→L i=false→(∀ (o:Oper),ops[i]? = some o→∀ e,e∈o.after.toList→Region.binds md e=true→L e.on=true) →
   wpOp P ops Q i (fun a' w'=>∀ L',(∀ j,L' j=if j=i then true else L j)→I f L' a' w') a w)
  (hend:∀ f L a w,I f L a w→(∀ i,i<ops.size→L i=true)→Q .normal a w) :
  ∀ (fuel:Nat) (L:Array Bool) (a:Act) (w:World),L.size=ops.size→leftO ops.size L≤fuel→I fuel (fun i=>L.getD i false) a w→wpAny P md ops Q fuel L a w:=by
 intro fuel
 induction fuel with
 | zero =>
  intro L a w hL hl hI
  have hr:Region.ready md ops L=[]:=by
   cases h:Region.ready md ops L with
   | nil=>rfl
   | cons i r =>
    exfalso
    obtain ⟨h1,h2,-⟩:=ready_mem (md:=md) (ops:=ops) (L:=L) (i:=i) (by rw [h]; exact List.mem_cons_self)
    have:=left_set h1 (by omega) h2
    omega
  exact ⟨hr,hend 0 _ a w hI (ready_nil hd hL hr)⟩
 | succ fuel ih =>
  intro L a w hL hl hI
  refine ⟨fun hr=>hend _ _ a w hI (ready_nil hd hL hr),fun i hi=>?_⟩
  obtain ⟨h1,h2,h3⟩:=ready_mem hi
  have hLf:L.getD i false=false:=by
   rw [Array.getD_eq_getD_getElem?,Array.getElem?_eq_getElem (by omega)] at h2 ⊢
   simpa using h2
  refine wpOp_mono (fun a' w' hI'=>?_) (hstep fuel _ a w hI i h1 hLf h3)
  refine ih (L.setIfInBounds i true) a' w' (by simpa using hL) (by have:=left_set h1 (by omega) h2; omega) (hI' _ (fun j=>?_))
  by_cases e:j=i
  ·subst e; simp [show j<L.size by omega]
  ·rw [if_neg e]; simp [Ne.symm e]
end
theorem Tryz.infoFr:(Tryz.prog.info? 125).map (fun i=>(i.zero,i.size,i.bytes))=some (some (frV 0 0 0 0 0 false 0 0 0),9,72):=by kernel_rfl
def sentL (id:Nat) (deal kind att ph:Int) (itself:Bool):Nat→List F9
 | 0=>[]
 | k+1=>if k=id∧itself=false then sentL id deal kind att ph itself k else sentL id deal kind att ph itself k ++ [⟨id,k,deal,kind,att,false,ph,0,0⟩]
theorem sentL_le (id:Nat) (deal kind att ph:Int) (itself:Bool):∀ k,(sentL id deal kind att ph itself k).length≤k
 | 0=>Nat.le_refl _
 | k+1=>by
  have:=sentL_le id deal kind att ph itself k
  unfold sentL
  split
  ·omega
  ·rw [List.length_append]; simp; omega
def rlC (id deal att:Int) (vw:Value) (st:ByteArray) (wait:Int) (vh:Value) (ph seen:Int):Array Value:=#[.int .i64 id,.int .i64 deal,.int .i64 att,vw,.string st,.int .i64 wait,vh,.int .i64 ph,.int .i64 seen]
theorem lit_cellsF (w:World) (t:TypeId) (L:List Value):∀ j u,L[j]? = some u→(w.alloc (.cells L.toArray t)).cell? ((⟨w.heap.size,0,none⟩:Addr).add j)=some u:=by
 intro j u h
 rw [addr_add,cell_of_row _ _ _ _ _ _ (heap_alloc_new w _),List.getElem?_toArray,Nat.zero_add]
 exact h
theorem f9_one (x:F9):∀ u∈f9L x,u.oneCell'=true:=by
 intro u hu
 simp [f9L] at hu
 rcases hu with rfl|rfl|rfl|rfl|rfl|rfl|rfl|rfl|rfl <;> rfl
theorem rlsend_any (lb id n cap:Nat) (deal kind att ph:Int) (itself:Bool) (aw:Option Addr) (st:ByteArray) (wait:Int) (vh:Value) (ph0 seen:Int) (w:World)
  (h:w.heap[lb]? = some (.cells (rlC id deal att (.slice aw n cap) st wait vh ph0 seen) 121 (0,0))) (hn:n≤30) :
  Calls Tryz.prog 86 #[.pointer (some ⟨lb,0,none⟩),.int .i64 kind,.int .i64 ph,.bool itself] w fun e w'=>∃ v,e=.returned v∧w'.ownsRow w.heap.size 125 9 v (sentL id deal kind att ph itself n).length (frCells (sentL id deal kind att ph itself n))∧Below w.heap.size w w':=by
 obtain ⟨i0,hi,hz0,hz1,hz2⟩:=info_parts Tryz.infoFr
 have H:=hid h
 clear h
 unfold rlC at H
 obtain ⟨L,HL⟩:∃ L,Hid (sentL id deal kind att ph itself=L):=⟨_,rfl⟩
 rw [HL.out]
 have HLE:Hid (∀ k,(L k).length≤k):=by rw [← HL.out]; exact sentL_le _ _ _ _ _ _
 have H0:Hid (L 0=[]):=by rw [← HL.out]; rfl
 go_enter Tryz.func86,Tryz.ntmps86
 go_wp2_with fail
 go_loopw [9,10] (fun v i wr=>∃ k:Nat,k≤n∧i=.int .i64 (k:Int)∧wr.ownsRow w.heap.size 125 9 v (L k).length (frCells (L k))∧Below w.heap.size w wr) (fun _ i _=>n - (intOf i).toNat)
 case atStart=>exact ⟨0,Nat.zero_le _,rfl,by rw [H0.out]; exact World.ownsRow_nil _ _ _ _,Below.refl _ _⟩
 case round =>
  obtain ⟨k,hk,rfl,hown,hb⟩:=hrel
  have HO:=hid hown
  have HB:=hid hb
  have hr:=(hb.block _ (row_ltJ H.out)).trans H.out
  have c0:wr.cell? ⟨lb,0,none⟩=some (.int .i64 (id:Int)):=by rw [cell_of_row _ _ _ _ _ _ hr]; rfl
  have c1:wr.cell? ⟨lb,1,none⟩=some (.int .i64 deal):=by rw [cell_of_row _ _ _ _ _ _ hr]; rfl
  have c2:wr.cell? ⟨lb,2,none⟩=some (.int .i64 att):=by rw [cell_of_row _ _ _ _ _ _ hr]; rfl
  have c3:wr.cell? ⟨lb,3,none⟩=some (.slice aw n cap):=by rw [cell_of_row _ _ _ _ _ _ hr]; rfl
  have hlb:lb<wr.heap.size:=row_ltJ hr
  have hle:=HLE.out k
  clear hown hb hr
  by_cases hlt:k<n
  ·by_cases hki:k=id∧itself=false
   ·obtain ⟨rfl,rfl⟩:=hki
    have HS:Hid (L (k+1)=L k):=by rw [← HL.out]; unfold Hid; exact if_pos ⟨rfl,rfl⟩
    go_wp2_with fail
    go_roundw
    case rel=>exact ⟨k+1,by omega,by go_num,by rw [HS.out]; exact HO.out,HB.out⟩
    case measure=>simp [intOf]; omega
   ·have HS:Hid (L (k+1)=L k ++ [⟨id,k,deal,kind,att,false,ph,0,0⟩]):=by rw [← HL.out]; unfold Hid; exact if_neg hki
    have HS2:Hid ((L (k+1)).length=(L k).length+1∧frCells (L (k+1))=frCells (L k) ++ f9L ⟨id,k,deal,kind,att,false,ph,0,0⟩):=by
     rw [HS.out]
     exact ⟨by simp,by rw [frCells_append]; rfl⟩
    by_cases e:k=id
    ·have hit:itself=true:=by
      cases itself with
      | true=>rfl
      | false=>exact absurd ⟨e,rfl⟩ hki
     subst hit
     clear hki
     subst e
     have HZ:=World.ownsRow.alloc HO.out
     have hws:=HB.out.size
     go_wp2_with fail
     go_region_law ((refine step_append_lies _ (by rfl) _ _ _ (by rfl) w.heap.size 125 i0 (frV 0 0 0 0 0 false 0 0 0) 9 72 Tryz.underlying55 hi hz0 hz1 hz2 (by rfl) (by decide) _ (L k).length (frCells (L k)) (by rfl) (by exact HZ _) ⟨wr.heap.size,0,none⟩ 1 1 (f9L ⟨k,k,deal,kind,att,false,ph,0,0⟩) (by rfl) (by rfl) (by exact lit_cellsF wr 125 (f9L ⟨k,k,deal,kind,att,false,ph,0,0⟩)) (by exact f9_one _) (by decide) (by unfold maxLen; omega) (by omega) (by exact Nat.le_trans hws (by simp)) (wr.heap.size+1) (by simp) ?_; intro g5 c5 w5 hown5 hg5 hat5 hlt5; have HQ5:=hid (And.intro (show w5.ownsRow w.heap.size 125 9 (.slice (some ⟨g5,0,none⟩) ((L k).length+1) c5) (L (k+1)).length (frCells (L (k+1))) by rw [HS2.out.1,HS2.out.2]; exact hown5) ((HB.out.alloc HB.out.size (.cells (f9L ⟨k,k,deal,kind,att,false,ph,0,0⟩).toArray 125)).drew.grown hg5 (by simp; omega) (fun j hj=>(HO.out.lt j hj).1))); clear hown5 hg5 hat5))
     all_goals go_wp2_with fail
     all_goals go_roundw
     all_goals first|exact ⟨k+1,by omega,by go_num,HQ5.out.1,HQ5.out.2⟩|exact ⟨k+1,by omega,by go_num,HQ5.out.1,HQ5.out.2.drew⟩|(simp [intOf]; omega)
    ·have hne:¬ (k:Int)=(id:Int):=by omega
     clear hki
     have HZ:=World.ownsRow.alloc HO.out
     have hws:=HB.out.size
     go_wp2_with fail
     go_region_law ((refine step_append_lies _ (by rfl) _ _ _ (by rfl) w.heap.size 125 i0 (frV 0 0 0 0 0 false 0 0 0) 9 72 Tryz.underlying55 hi hz0 hz1 hz2 (by rfl) (by decide) _ (L k).length (frCells (L k)) (by rfl) (by exact HZ _) ⟨wr.heap.size,0,none⟩ 1 1 (f9L ⟨id,k,deal,kind,att,false,ph,0,0⟩) (by rfl) (by rfl) (by exact lit_cellsF wr 125 (f9L ⟨id,k,deal,kind,att,false,ph,0,0⟩)) (by exact f9_one _) (by decide) (by unfold maxLen; omega) (by omega) (by exact Nat.le_trans hws (by simp)) (wr.heap.size+1) (by simp) ?_; intro g5 c5 w5 hown5 hg5 hat5 hlt5; have HQ5:=hid (And.intro (show w5.ownsRow w.heap.size 125 9 (.slice (some ⟨g5,0,none⟩) ((L k).length+1) c5) (L (k+1)).length (frCells (L (k+1))) by rw [HS2.out.1,HS2.out.2]; exact hown5) ((HB.out.alloc HB.out.size (.cells (f9L ⟨id,k,deal,kind,att,false,ph,0,0⟩).toArray 125)).drew.grown hg5 (by simp; omega) (fun j hj=>(HO.out.lt j hj).1))); clear hown5 hg5 hat5))
     all_goals go_wp2_with fail
     all_goals go_roundw
     all_goals first|exact ⟨k+1,by omega,by go_num,HQ5.out.1,HQ5.out.2⟩|exact ⟨k+1,by omega,by go_num,HQ5.out.1,HQ5.out.2.drew⟩|(simp [intOf]; omega)
  ·obtain rfl:k=n:=by omega
   go_wp2_with fail
   go_ret
   exact ⟨_,rfl,HO.out,HB.out⟩
theorem resF2 {P:Program} {fn:Func} {p u:Tmp} {ty:TypeId} (h:fn.results=#[.cell p ty,.tmp u]) (tmps:Array Value) (w:World) (g:Nat) (t:TypeId) (cs:Array Value) (fr:Nat×Nat) (d:TypeDesc)
  (hp:tmps.getD p undef=.pointer (some ⟨g,0,none⟩)) (hg:w.heap[g]? = some (.cells cs t fr))
  (hu:P.underlying ty=some d) (hd:(match d with|.struct _|.array _ _=>true|_=>false)=true) (hi:(P.info? ty).map (·.size)=some cs.size) :
  (results fn tmps).run P w=.ok (.tuple #[.agg cs,tmps.getD u undef]) w:=by
 rw [results_cell_tmp h,hp]
 simp [asAddr,run_loadVar_row w g t ty cs fr d hg hu hd hi]
theorem sizeF9:(Tryz.prog.info? 125).map (·.size)=some 9:=by kernel_rfl
theorem FL.owned {w:World} {base:Nat} {v:Value} {L:List F9} (h:w.ownsRow base 125 9 v L.length (frCells L)):∃ ad cap,v=.slice ad L.length cap∧FL w ad L:=IsFr.owned h
structure RLd (w:World) (lb id n cap:Nat) (deal att:Int) (aw:Option Addr) (st:ByteArray) (wait:Int) (vh:Value) (hs:List F9) (ph seen:Int):Prop where
 row:w.heap[lb]? = some (.cells (rlC id deal att (.slice aw n cap) st wait vh ph seen) 121 (0,0))
 own:w.ownsRow (lb+1) 125 9 vh hs.length (frCells hs)
section
variable {w w':World} {lb id n cap:Nat} {deal att:Int} {aw:Option Addr} {st:ByteArray} {wait:Int} {vh:Value} {hs:List F9} {ph seen:Int}
theorem RLd.later (h:RLd w lb id n cap deal att aw st wait vh hs ph seen) (hb:Below w.heap.size w w'):RLd w' lb id n cap deal att aw st wait vh hs ph seen :=
 ⟨(hb.block _ (row_ltJ h.row)).trans h.row,own_later h.own hb (Nat.le_refl _)⟩
theorem RLd.cells (h:RLd w lb id n cap deal att aw st wait vh hs ph seen):w.cell? ⟨lb,0,none⟩=some (.int .i64 (id:Int))∧w.cell? ⟨lb,1,none⟩=some (.int .i64 deal)∧w.cell? ⟨lb,2,none⟩=some (.int .i64 att)∧w.cell? ⟨lb,3,none⟩=some (.slice aw n cap)∧w.cell? ⟨lb,4,none⟩=some (.string st)∧w.cell? ⟨lb,5,none⟩=some (.int .i64 wait)∧w.cell? ⟨lb,6,none⟩=some vh∧w.cell? ⟨lb,7,none⟩=some (.int .i64 ph)∧w.cell? ⟨lb,8,none⟩=some (.int .i64 seen):=by
 refine ⟨?_,?_,?_,?_,?_,?_,?_,?_,?_⟩ <;> rw [cell_of_row _ _ _ _ _ _ h.row] <;> rfl
theorem RLd.fz (h:RLd w lb id n cap deal att aw st wait vh hs ph seen) (i:Nat):w.frozen? ⟨lb,i,none⟩=false:=frozen_of_row w lb i _ _ h.row
end
theorem below9 {w W:World} (h:Below w.heap.size w W) (x0 x1 x2 x3 x4 x5 x6 x7 x8:Value) :
  Below w.heap.size w (((((((((W.setCell ⟨w.heap.size,0,none⟩ x0).setCell ⟨w.heap.size,1,none⟩ x1).setCell ⟨w.heap.size,2,none⟩ x2).setCell ⟨w.heap.size,3,none⟩ x3).setCell ⟨w.heap.size,4,none⟩ x4).setCell ⟨w.heap.size,5,none⟩ x5).setCell ⟨w.heap.size,6,none⟩ x6).setCell ⟨w.heap.size,7,none⟩ x7).setCell ⟨w.heap.size,8,none⟩ x8) :=
 ((((((((h.setCell (Nat.le_refl _) _).setCell (Nat.le_refl _) _).setCell (Nat.le_refl _) _).setCell (Nat.le_refl _) _).setCell (Nat.le_refl _) _).setCell (Nat.le_refl _) _).setCell (Nat.le_refl _) _).setCell (Nat.le_refl _) _).setCell (Nat.le_refl _) _
def fromL (hs:List F9) (i:Int):Option F9:=hs.find? fun x=>decide (x.f=i)
theorem fromL_none {hs:List F9} {i:Int} (h:∀ k (hk:k<hs.length),(hs[k]'hk).f≠i):fromL hs i=none:=by
 unfold fromL
 rw [List.find?_eq_none]
 intro x hx
 obtain ⟨k,hk,rfl⟩:=List.getElem_of_mem hx
 simpa using h k hk
theorem fromL_some {hs:List F9} {i:Int} {k:Nat} (hk:k<hs.length) (h:(hs[k]'hk).f=i) (hb:∀ j (hj:j<k),(hs[j]'(Nat.lt_trans hj hk)).f≠i):fromL hs i=some (hs[k]'hk):=by
 unfold fromL
 rw [List.find?_eq_some_iff_getElem]
 exact ⟨by simpa using h,k,hk,rfl,fun j hj=>by simpa using hb j hj⟩
def frO (x:Option F9):Value:=match x with
 | none=>frV 0 0 0 0 0 false 0 0 0
 | some y=>frV y.f y.t y.d y.k y.a y.y y.ph y.pr y.pa
theorem frO_none:frO none=frV 0 0 0 0 0 false 0 0 0:=rfl
theorem rlfrom_any (lb id n cap:Nat) (deal att:Int) (aw:Option Addr) (st:ByteArray) (wait:Int) (vh:Value) (hs:List F9) (ph seen i:Int) (w:World) (h:RLd w lb id n cap deal att aw st wait vh hs ph seen) (hl:hs.length≤1000) :
  Calls Tryz.prog 145 #[.pointer (some ⟨lb,0,none⟩),.int .i64 i] w fun e w'=>e=.returned (.tuple #[frO (fromL hs i),.bool (fromL hs i).isSome])∧Below w.heap.size w w':=by
 obtain ⟨W,HW⟩:∃ W,Hid (w.alloc (.cells #[.int .i64 0,.int .i64 0,.int .i64 0,.int .i64 0,.int .i64 0,.bool false,.int .i64 0,.int .i64 0,.int .i64 0] 125)=W):=⟨_,rfl⟩
 have HB:Hid (Below w.heap.size w W):=by rw [← HW.out]; exact (Below.refl _ _).alloc (Nat.le_refl _) _
 have HR:Hid (W.heap[w.heap.size]? = some (.cells #[.int .i64 0,.int .i64 0,.int .i64 0,.int .i64 0,.int .i64 0,.bool false,.int .i64 0,.int .i64 0,.int .i64 0] 125 (0,0))):=by rw [← HW.out]; exact heap_alloc_new w _
 have hlt0:lb<w.heap.size:=row_ltJ h.row
 have HI:=hid (h.later HB.out)
 clear h
 obtain ⟨ad,cp,rfl,hfl⟩:=FL.owned HI.out.own
 have HF:=hid hfl
 clear hfl
 obtain ⟨c0,c1,c2,c3,c4,c5,c6,c7,c8⟩:=HI.out.cells
 obtain ⟨r0,r1,r2,r3,r4,r5,r6,r7,r8⟩:=nine HR.out
 have z0:=frozen_of_row W w.heap.size 0 _ _ HR.out
 have z1:=frozen_of_row W w.heap.size 1 _ _ HR.out
 have z2:=frozen_of_row W w.heap.size 2 _ _ HR.out
 have z3:=frozen_of_row W w.heap.size 3 _ _ HR.out
 have z4:=frozen_of_row W w.heap.size 4 _ _ HR.out
 have z5:=frozen_of_row W w.heap.size 5 _ _ HR.out
 have z6:=frozen_of_row W w.heap.size 6 _ _ HR.out
 have z7:=frozen_of_row W w.heap.size 7 _ _ HR.out
 have z8:=frozen_of_row W w.heap.size 8 _ _ HR.out
 have hW:=HW.out
 go_enter Tryz.func145,Tryz.ntmps145
 go_wp2_with fail
 go_loopw [6] (fun v wr=>∃ k:Nat,k≤hs.length∧v=.int .i64 (k:Int)∧W=wr∧∀ j (hj:j<hs.length),j<k→(hs[j]'hj).f≠i) (fun v _=>hs.length - (intOf v).toNat)
 case atStart=>exact ⟨0,Nat.zero_le _,rfl,rfl,fun j _ hj=>absurd hj (Nat.not_lt_zero _)⟩
 case round =>
  obtain ⟨k,hk,rfl,rfl,hno⟩:=hrel
  have HNo:=hid hno
  clear hno
  by_cases hlt:k<hs.length
  ·obtain ⟨b,o,rfl,hq⟩:=HF.out k hlt
   obtain ⟨x,HXk⟩:∃ x,Hid (hs[k]'hlt=x):=⟨_,rfl⟩
   rw [HXk.out] at hq
   obtain ⟨xf,xt,xd,xk,xa,xy,xph,xpr,xpa⟩:=x
   obtain ⟨a0,a1,a2,a3,a4,a5,a6,a7,a8⟩:=nineO hq
   simp only at a0 a1 a2 a3 a4 a5 a6 a7 a8
   clear hq
   by_cases hx:xf=i
   ·subst hx
    have HFo:Hid (fromL hs xf=some ⟨xf,xt,xd,xk,xa,xy,xph,xpr,xpa⟩):=by
     have:=fromL_some (i:=xf) hlt (by rw [HXk.out]) (fun j hj=>HNo.out j (Nat.lt_trans hj hlt) hj)
     rw [HXk.out] at this
     exact this
    go_wp2_with fail
    refine bodyPost_ret (resF2 rfl _ _ w.heap.size 125 _ (0,0) _ rfl (set9 HR.out _ _ _ _ _ _ _ _ _) Tryz.underlying125 rfl sizeF9) rfl ?_
    exact ⟨by rw [HFo.out]; rfl,below9 HB.out _ _ _ _ _ _ _ _ _⟩
   ·go_wp2_with fail
    go_roundw
    case rel =>
     refine ⟨k+1,by omega,by go_num,by first|rfl|trivial,fun j hj hjk=>?_⟩
     by_cases e:j=k
     ·subst e; rw [HXk.out]; exact hx
     ·exact HNo.out j hj (by omega)
    case measure=>simp [intOf]; omega
  ·obtain rfl:k=hs.length:=by omega
   have HFo:Hid (fromL hs i=none):=fromL_none (fun j hj=>HNo.out j hj hj)
   go_wp2_with fail
   refine bodyPost_ret (resF2 rfl _ _ w.heap.size 125 _ (0,0) _ rfl (set9 HR.out _ _ _ _ _ _ _ _ _) Tryz.underlying125 rfl sizeF9) rfl ?_
   exact ⟨by rw [HFo.out]; rfl,below9 HB.out _ _ _ _ _ _ _ _ _⟩
theorem hasP_take (p:Int) (L:List S3) (k:Nat) (h:k<L.length):hasP p (L.take (k+1))=(hasP p (L.take k) || decide (L[k].p=p)):=by
 unfold hasP; rw [take_snoc L k h,List.any_append]; simp
theorem hasP_in (p:Int) (L:List S3) (k:Nat) (h:k<L.length) (e:L[k].p=p):hasP p L=true:=(hasP_iff p L).2 ⟨_,List.getElem_mem h,e⟩
theorem preL_take (b:Int) (L:List S3) (k:Nat) (h:k<L.length):preL b (L.take (k+1))=(preL b (L.take k) || decide (L[k].p=4∧L[k].a=b)):=by
 unfold preL; rw [take_snoc L k h,List.any_append]; simp
theorem preL_in (b:Int) (L:List S3) (k:Nat) (h:k<L.length) (e:L[k].p=4) (e2:L[k].a=b):preL b L=true:=(preL_iff b L).2 ⟨_,List.getElem_mem h,e,e2⟩
theorem be_take (L:List S3) (k:Nat) (h:k<L.length):be (L.take (k+1))=beS (be (L.take k)) L[k]:=by rw [take_snoc L k h,be_snoc]
theorem told_any (a:Option Addr) (cap:Nat) (L:List S3) (ph:Int) (w:World) (hl:L.length≤200) (hL:SL w a L) :
  Calls Tryz.prog 184 #[.slice a L.length cap,.int .i64 ph] w fun e w'=>e=.returned (.bool (hasP ph L))∧w'=w:=by
 have HX:=hid hL
 have HT:Hid (hasP ph (L.take L.length)=hasP ph L):=by unfold Hid; rw [List.take_length]
 obtain ⟨r,Hr⟩:∃ r,Hid (hasP ph L=r):=⟨_,rfl⟩
 rw [Hr.out]
 clear hL
 go_enter Tryz.func184,Tryz.ntmps184
 go_wp2_with fail
 go_loop [5] (fun i=>∃ k:Nat,k≤L.length∧i=.int .i64 (k:Int)∧hasP ph (L.take k)=false) (fun i=>L.length - (intOf i).toNat)
 case atStart=>exact ⟨0,Nat.zero_le _,rfl,rfl⟩
 case round =>
  obtain ⟨k,hk,rfl,hf⟩:=hrel
  have HF:=hid hf
  clear hf
  by_cases hlt:k<L.length
  ·have HG:=hid (hasP_take ph L k hlt)
   have HI:=hid (hasP_in ph L k hlt)
   obtain ⟨b,o,rfl,y0,y1,y2⟩:=HX.out k hlt
   obtain ⟨⟨sp,sr,sa⟩,HS⟩:∃ s,Hid (L[k]'hlt=s):=⟨_,rfl⟩
   rw [HS.out] at y0 y1 y2 HG HI
   clear HS
   by_cases h1:sp=ph
   ·subst h1
    obtain rfl:true=r:=(HI.out rfl).symm.trans Hr.out
    clear HG HI
    go_wp2_with fail
    go_ret
    exact ⟨rfl,rfl⟩
   ·have G:Hid (hasP ph (L.take (k+1))=false):=by unfold Hid; rw [HG.out,HF.out]; simpa using h1
    clear HG HI
    go_wp2_with fail
    go_round
    case rel=>exact ⟨k+1,by omega,by go_num,G.out⟩
    case measure=>simp [intOf]; omega
  ·obtain rfl:k=L.length:=by omega
   obtain rfl:false=r:=HF.out.symm.trans (HT.out.trans Hr.out)
   go_wp2_with fail
   go_ret
   exact ⟨rfl,rfl⟩
theorem told_is (a:Option Addr) (cap:Nat) (L:List S3) (ph:Int) (r:Bool) (w:World) (hl:L.length≤200) (hL:SL w a L) (h:hasP ph L=r) :
  Calls Tryz.prog 184 #[.slice a L.length cap,.int .i64 ph] w fun e w'=>e=.returned (.bool r)∧w'=w:=by subst h; exact told_any a cap L ph w hl hL
theorem rchoose_any (a:Option Addr) (cap:Nat) (L:List S3) (w:World) (hl:L.length≤200) (hL:SL w a L) :
  Calls Tryz.prog 151 #[.slice a L.length cap] w fun e w'=>e=.returned (.tuple #[.int .i64 (refL L).1,.bool (refL L).2])∧w'=w:=by
 have HX:=hid hL
 obtain ⟨⟨cp,cf⟩,HC⟩:∃ x,Hid (refL L=x):=⟨_,rfl⟩
 rw [HC.out]
 obtain ⟨i2,H2⟩:∃ x,Hid (hasP 2 L=x):=⟨_,rfl⟩
 obtain ⟨i3,H3⟩:∃ x,Hid (hasP 3 L=x):=⟨_,rfl⟩
 have HD:Hid ((if i2=true then ((2:Int),true) else if i3=true then (3,true) else if preL (be L).2 L=true then (4,false) else (5,false))=(cp,cf)):=by
  unfold Hid; rw [← HC.out]; unfold refL; rw [H2.out,H3.out]
 have HT:Hid (be (L.take L.length)=be L):=by unfold Hid; rw [List.take_length]
 clear hL HC
 cases i2 with
 | true =>
  obtain ⟨rfl,rfl⟩:(2:Int)=cp∧true=cf:=by simpa using HD.out
  clear HD
  go_enter Tryz.func151,Tryz.ntmps151
  go_wp2_with (go_at_call 184; (with_reducible refine (told_is a cap L 2 true _ hl HX.out H2.out).mono ?_); rintro e wx ⟨rfl,rfl⟩)
  go_ret2
  exact ⟨rfl,rfl⟩
 | false =>
  cases i3 with
  | true =>
   obtain ⟨rfl,rfl⟩:(3:Int)=cp∧true=cf:=by simpa using HD.out
   clear HD
   go_enter Tryz.func151,Tryz.ntmps151
   go_wp2_with (go_at_call 184; first|((with_reducible refine (told_is a cap L 2 false _ hl HX.out H2.out).mono ?_); rintro e wx ⟨rfl,rfl⟩)|((with_reducible refine (told_is a cap L 3 true _ hl HX.out H3.out).mono ?_); rintro e wx ⟨rfl,rfl⟩))
   go_ret2
   exact ⟨rfl,rfl⟩
  | false =>
   have HD2:Hid ((if preL (be L).2 L=true then ((4:Int),false) else (5,false))=(cp,cf)):=by unfold Hid; simpa using HD.out
   clear HD
   go_enter Tryz.func151,Tryz.ntmps151
   go_wp2_with (go_at_call 184; first|((with_reducible refine (told_is a cap L 2 false _ hl HX.out H2.out).mono ?_); rintro e wx ⟨rfl,rfl⟩)|((with_reducible refine (told_is a cap L 3 false _ hl HX.out H3.out).mono ?_); rintro e wx ⟨rfl,rfl⟩))
   go_loop [4,5,6] (fun f b i=>∃ k:Nat,k≤L.length∧f=.bool (be (L.take k)).1∧b=.int .i64 (be (L.take k)).2∧i=.int .i64 (k:Int)) (fun _ _ i=>L.length - (intOf i).toNat)
   case atStart=>exact ⟨0,Nat.zero_le _,rfl,rfl,rfl⟩
   case round =>
    obtain ⟨k,hk,rfl,rfl,rfl⟩:=hrel
    by_cases hlt:k<L.length
    ·have HG:=hid (be_take L k hlt)
     obtain ⟨b,o,rfl,y0,y1,y2⟩:=HX.out k hlt
     obtain ⟨⟨sp,sr,sa⟩,HS⟩:∃ s,Hid (L[k]'hlt=s):=⟨_,rfl⟩
     rw [HS.out] at y0 y1 y2 HG
     obtain ⟨⟨f,m⟩,HM⟩:∃ x,Hid (be (L.take k)=x):=⟨_,rfl⟩
     rw [HM.out] at HG ⊢
     clear HS HM HD2
     by_cases h4:sp=4
     ·subst h4
      have G0:Hid (be (L.take (k+1))=(false,if f=true ∨ m<sa then sa else m)):=by unfold Hid; rw [HG.out]; unfold beS; exact if_pos (.inl rfl)
      clear HG
      cases f with
      | true =>
       have G:Hid (be (L.take (k+1))=(false,sa)):=by unfold Hid; rw [G0.out,if_pos (.inl rfl)]
       clear G0
       go_wp2_with fail
       go_round
       case rel=>exact ⟨k+1,by omega,by rw [G.out],by rw [G.out],by go_num⟩
       case measure=>simp [intOf]; omega
      | false =>
       by_cases hm:m<sa
       ·have G:Hid (be (L.take (k+1))=(false,sa)):=by unfold Hid; rw [G0.out,if_pos (.inr hm)]
        clear G0
        go_wp2_with fail
        go_round
        case rel=>exact ⟨k+1,by omega,by rw [G.out],by rw [G.out],by go_num⟩
        case measure=>simp [intOf]; omega
       ·have G:Hid (be (L.take (k+1))=(false,m)):=by unfold Hid; rw [G0.out,if_neg (by simpa using hm)]
        clear G0
        go_wp2_with fail
        go_round
        case rel=>exact ⟨k+1,by omega,by rw [G.out],by rw [G.out],by go_num⟩
        case measure=>simp [intOf]; omega
     ·by_cases h5:sp=5
      ·subst h5
       have G0:Hid (be (L.take (k+1))=(false,if f=true ∨ m<sa then sa else m)):=by unfold Hid; rw [HG.out]; unfold beS; exact if_pos (.inr rfl)
       clear HG
       cases f with
       | true =>
        have G:Hid (be (L.take (k+1))=(false,sa)):=by unfold Hid; rw [G0.out,if_pos (.inl rfl)]
        clear G0
        go_wp2_with fail
        go_round
        case rel=>exact ⟨k+1,by omega,by rw [G.out],by rw [G.out],by go_num⟩
        case measure=>simp [intOf]; omega
       | false =>
        by_cases hm:m<sa
        ·have G:Hid (be (L.take (k+1))=(false,sa)):=by unfold Hid; rw [G0.out,if_pos (.inr hm)]
         clear G0
         go_wp2_with fail
         go_round
         case rel=>exact ⟨k+1,by omega,by rw [G.out],by rw [G.out],by go_num⟩
         case measure=>simp [intOf]; omega
        ·have G:Hid (be (L.take (k+1))=(false,m)):=by unfold Hid; rw [G0.out,if_neg (by simpa using hm)]
         clear G0
         go_wp2_with fail
         go_round
         case rel=>exact ⟨k+1,by omega,by rw [G.out],by rw [G.out],by go_num⟩
         case measure=>simp [intOf]; omega
      ·have G:Hid (be (L.take (k+1))=(f,m)):=by unfold Hid; rw [HG.out]; unfold beS; exact if_neg (fun h=>h.elim h4 h5)
       clear HG
       have d4:(sp == 4)=false:=beq_eq_false_iff_ne.2 h4
       have d5:(sp == 5)=false:=beq_eq_false_iff_ne.2 h5
       simp only at y0 y1 y2
       go_wp2_with fail
       go_round
       case rel=>exact ⟨k+1,by omega,by rw [G.out],by rw [G.out],by go_num⟩
       case measure=>simp [intOf]; omega
    ·obtain rfl:k=L.length:=by omega
     rw [HT.out]
     obtain ⟨⟨f,m⟩,HM⟩:∃ x,Hid (be L=x):=⟨_,rfl⟩
     rw [HM.out] at HD2 ⊢
     have HT2:Hid (preL m (L.take L.length)=preL m L):=by unfold Hid; rw [List.take_length]
     clear HT HM
     go_wp2_with fail
     go_loop [7] (fun i=>∃ k:Nat,k≤L.length∧i=.int .i64 (k:Int)∧preL m (L.take k)=false) (fun i=>L.length - (intOf i).toNat)
     case atStart=>exact ⟨0,Nat.zero_le _,rfl,rfl⟩
     case round =>
      obtain ⟨k,hk,rfl,hf⟩:=hrel
      have HF:=hid hf
      clear hf
      by_cases hlt:k<L.length
      ·have HG:=hid (preL_take m L k hlt)
       have HI:=hid (preL_in m L k hlt)
       obtain ⟨b,o,rfl,y0,y1,y2⟩:=HX.out k hlt
       obtain ⟨⟨sp,sr,sa⟩,HS⟩:∃ s,Hid (L[k]'hlt=s):=⟨_,rfl⟩
       rw [HS.out] at y0 y1 y2 HG HI
       clear HS
       by_cases h1:sp=4
       ·subst h1
        by_cases h2:sa=m
        ·subst h2
         have hd2:=HD2.out
         rw [if_pos (HI.out rfl rfl)] at hd2
         obtain ⟨rfl,rfl⟩:(4:Int)=cp∧false=cf:=by simpa using hd2
         clear hd2 HD2 HG HI
         go_wp2_with fail
         go_ret2
         exact ⟨rfl,rfl⟩
        ·have G:Hid (preL m (L.take (k+1))=false):=by unfold Hid; rw [HG.out,HF.out]; simpa using h2
         clear HG HI
         go_wp2_with fail
         go_round
         case rel=>exact ⟨k+1,by omega,by go_num,G.out⟩
         case measure=>simp [intOf]; omega
       ·have G:Hid (preL m (L.take (k+1))=false):=by unfold Hid; rw [HG.out,HF.out]; simp [h1]
        clear HG HI
        go_wp2_with fail
        go_round
        case rel=>exact ⟨k+1,by omega,by go_num,G.out⟩
        case measure=>simp [intOf]; omega
      ·obtain rfl:k=L.length:=by omega
       have hd2:=HD2.out
       rw [if_neg (by rw [← HT2.out,HF.out]; decide)] at hd2
       obtain ⟨rfl,rfl⟩:(5:Int)=cp∧false=cf:=by simpa using hd2
       clear hd2 HD2
       go_wp2_with fail
       go_ret2
       exact ⟨rfl,rfl⟩
end Go.Proofs.YtaehdgemkafinaaGreatDoor
