/-
  On the way to SPlaysProof: PB J0 J1 JD Plain S0 Plain2 Plain4 Laid DoorA LV SPlaysF SPlaysG.
-/
import Derived.Test.YtaehdgemkafinaaGreatDoorRows
import Derived.Test.YtaehdgemkafinaaGreatDoorCards
import Derived.Lib.AppendStr
import Derived.Laws.Strings2
import Derived.Laws.IdiomStrings
import Derived.WalkKit
import Derived.ProofKit
import Derived.LaidLaws
import Derived.LaidMore
import Derived.LaidSub
import Derived.LaidHandle
import Derived.MakeChecks
import Derived.Lay
import Derived.Conc.Holds
import Derived.Leaving
import Derived.SevenTiedAt
import Derived.JoinedOf
set_option maxHeartbeats 8000000
set_option maxRecDepth 100000
namespace Go.Proofs.YtaehdgemkafinaaGreatDoor
def putB (B:ByteArray) (a:Nat) (s:ByteArray) (k:Nat):ByteArray:=B.extract 0 a ++ s.extract 0 k ++ B.extract (a+k) B.size
theorem ext_list (B:ByteArray) (i j:Nat):(B.extract i j).data.toList=(B.data.toList.drop i).take (j - i):=by
 have h:=ByteArray.extract_mk B.data.toList i j
 have e:ByteArray.mk B.data.toList.toArray=B:=by cases B; simp
 rw [e] at h
 rw [h]
theorem size_list (B:ByteArray):B.size=B.data.toList.length:=rfl
theorem putB_list (B:ByteArray) (a:Nat) (s:ByteArray) (k:Nat):(putB B a s k).data.toList=B.data.toList.take a ++ s.data.toList.take k ++ B.data.toList.drop (a+k):=by
 unfold putB
 rw [ByteArray.data_append,ByteArray.data_append,Array.toList_append,Array.toList_append,ext_list,ext_list,ext_list]
 simp only [List.drop_zero,Nat.sub_zero]
 congr 1
 rw [List.take_of_length_le]
 rw [List.length_drop,size_list]
 exact Nat.le_refl _
theorem size_putB {B:ByteArray} {a:Nat} {s:ByteArray} {k:Nat} (h:a+k≤B.size) (hk:k≤s.size):(putB B a s k).size=B.size:=by
 rw [size_list] at h hk
 rw [size_list,size_list,putB_list]
 simp only [List.length_append,List.length_take,List.length_drop]
 omega
theorem ba_ext {X Y:ByteArray} (h:X.data.toList=Y.data.toList):X=Y:=ByteArray.ext (Array.ext' h)
theorem putB_zero {B:ByteArray} {a:Nat} {s:ByteArray}:putB B a s 0=B:=by
 apply ba_ext
 rw [putB_list]
 simp
theorem put_step {α:Type} (L S:List α) (a k:Nat) (d:α) (h:a+k<L.length) (hk:k<S.length) :
  L.take a ++ S.take (k+1) ++ L.drop (a+(k+1))=(L.take a ++ S.take k ++ L.drop (a+k)).set (a+k) (S.getD k d):=by
 apply List.ext_getElem?
 intro j
 simp only [List.getElem?_set,List.getElem?_append,List.length_append,List.length_take,List.getElem?_take,List.getElem?_drop,List.length_drop]
 have e1:min a L.length=a:=by omega
 have e2:min (k+1) S.length=k+1:=by omega
 have e3:min k S.length=k:=by omega
 simp only [e1,e2,e3]
 rcases Nat.lt_trichotomy j (a+k) with h1|h1|h1
 ·by_cases h2:j<a
  ·simp [h2,show j<a+(k+1) by omega,show ¬ a+k=j by omega,show j<a+k by omega]
  ·simp [h2,show j<a+(k+1) by omega,show ¬ a+k=j by omega,show j<a+k by omega,show j - a<k+1 by omega,show j - a<k by omega]
 ·subst h1
  simp [show a+k<a+(k+1) by omega,show a+k - a=k by omega,show k<k+1 by omega,hk,List.getD]
  rw [if_neg (by omega),if_pos (by omega)]
 ·simp [show ¬ j<a+(k+1) by omega,show ¬ a+k=j by omega,show ¬ j<a+k by omega]
  congr 1
  omega
theorem getB {s:ByteArray} {k:Nat} (hk:k<s.size):s[k]'hk=s.data.toList[k]'hk:=by
 have:s[k]'hk=s.data[k]'hk:=rfl
 rw [this,← Array.getElem_toList]
theorem putB_succ {B:ByteArray} {a:Nat} {s:ByteArray} {k:Nat} (h:a+k<B.size) (hk:k<s.size) :
  (Lib.strCells (putB B a s (k+1))).toArray=(Lib.strCells (putB B a s k)).toArray.setIfInBounds (a+k) (.int .u8 ((s[k]'hk).toNat:Int)):=by
 apply Array.ext'
 rw [size_list] at h
 have hk':=hk
 rw [size_list] at hk'
 simp only [Lib.strCells,Array.toList_setIfInBounds]
 rw [putB_list,putB_list,put_step _ _ a k 0 h hk',List.map_set]
 congr 1
 rw [getB hk,List.getD_eq_getElem?_getD,List.getElem?_eq_getElem hk']
 rfl
theorem strCells_at {B:ByteArray} {j:Nat} (h:j<B.size):(Lib.strCells B)[j]? = some (.int .u8 ((B[j]'h).toNat:Int)):=by
 rw [Lib.strCells,List.getElem?_map,List.getElem?_eq_getElem h,getB h]
 rfl
def wideL (n:Nat):Nat→List UInt8
 | 0=>[]
 | k+1=>wideL (n / 256) k ++ [UInt8.ofNat (n % 256)]
theorem wideL_length (k:Nat):∀ n,(wideL n k).length=k:=by
 induction k with
 | zero=>intro n; rfl
 | succ k ih=>intro n; simp [wideL,ih]
def numL (l:List UInt8):Nat:=l.foldl (fun n b=>256 * n+b.toNat) 0
theorem numL_snoc (l:List UInt8) (b:UInt8):numL (l ++ [b])=256 * numL l+b.toNat:=by simp [numL]
theorem numL_wide (k:Nat):∀ n,numL (wideL n k)=n % 256 ^ k:=by
 induction k with
 | zero=>intro n; simp [wideL,numL,Nat.mod_one]
 | succ k ih =>
  intro n
  rw [wideL,numL_snoc,ih]
  have h:(UInt8.ofNat (n % 256)).toNat=n % 256:=by simp
  rw [h,Nat.pow_succ,Nat.mul_comm (256 ^ k) 256,Nat.mod_mul]
  omega
theorem numL_lt (l:List UInt8):numL l<256 ^ l.length:=by
 have gen:∀ r:List UInt8,numL r.reverse<256 ^ r.length:=by
  intro r
  induction r with
  | nil=>simp [numL]
  | cons b r ih =>
   rw [List.reverse_cons,numL_snoc,List.length_cons,Nat.pow_succ]
   have hb:=UInt8.toNat_lt b
   omega
 have:=gen l.reverse
 rwa [List.reverse_reverse,List.length_reverse] at this
def crcBit (c b k:Nat):Nat:=if (c ^^^ (b / 2 ^ k)) % 2=1 then (c / 2) ^^^ 3988292384 else c / 2
def crcBits (c b:Nat):Nat→Nat
 | 0=>c
 | k+1=>crcBit (crcBits c b k) b k
def crcFold (c:Nat):List UInt8→Nat
 | []=>c
 | b :: l=>crcFold (crcBits c b.toNat 8) l
def crcL (l:List UInt8):Nat:=crcFold 4294967295 l ^^^ 4294967295
theorem crcBit_lt {c:Nat} (h:c<4294967296) (b k:Nat):crcBit c b k<4294967296:=by
 unfold crcBit
 split
 ·exact Nat.xor_lt_two_pow (n:=32) (by omega) (by decide)
 ·omega
theorem crcBits_lt {c:Nat} (h:c<4294967296) (b:Nat):∀ k,crcBits c b k<4294967296
 | 0=>h
 | k+1=>crcBit_lt (crcBits_lt h b k) b k
theorem crcFold_lt:∀ (l:List UInt8) {c:Nat},c<4294967296→crcFold c l<4294967296
 | [],_,h=>h
 | b :: l,_,h=>crcFold_lt l (crcBits_lt h b.toNat 8)
theorem crcL_lt (l:List UInt8):crcL l<4294967296:=Nat.xor_lt_two_pow (n:=32) (crcFold_lt l (by decide)) (by decide)
theorem crcFold_snoc (b:UInt8):∀ (l:List UInt8) (c:Nat),crcFold c (l ++ [b])=crcBits (crcFold c l) b.toNat 8
 | [],_=>rfl
 | x :: l,c=>crcFold_snoc b l (crcBits c x.toNat 8)
structure St where
 ph:Nat
 pr:Nat
 at_:Nat
def stSame (a b:St):Bool:=decide (a.ph=b.ph∧a.pr=b.pr∧a.at_=b.at_)
theorem stSame_true {a b:St} (h:stSame a b=true):a=b:=by
 obtain ⟨h1,h2,h3⟩:=of_decide_eq_true h
 cases a; cases b
 cases h1; cases h2; cases h3; rfl
theorem stSame_false {a b:St} (h:stSame a b=false):¬ a=b:=fun e=>of_decide_eq_false h (by subst e; exact ⟨rfl,rfl,rfl⟩)
def stEq (a b:St):Decidable (a=b):=if h:stSame a b=true then .isTrue (stSame_true h) else .isFalse (stSame_false (Bool.eq_false_iff.2 h))
def St.zero:St:=⟨0,0,0⟩
def St.fits (s:St):Prop:=s.ph<256∧s.pr<4294967296∧s.at_<4294967296
def textL (n:Nat) (s:St):List UInt8:=wideL n 4 ++ wideL s.ph 1 ++ wideL s.pr 4 ++ wideL s.at_ 4
def bodyL (n:Nat) (s:St):List UInt8:=textL n s ++ wideL (crcL (textL n s)) 4
theorem textL_length (n:Nat) (s:St):(textL n s).length=13:=by simp [textL,wideL_length]
theorem bodyL_length (n:Nat) (s:St):(bodyL n s).length=17:=by simp [bodyL,textL_length,wideL_length]
def readN (t:List UInt8):Nat:=numL (t.take 4)
def readS (t:List UInt8):St:=⟨numL ((t.drop 4).take 1),numL ((t.drop 5).take 4),numL ((t.drop 9).take 4)⟩
def heldL (k:Nat) (t:List UInt8):Nat×St:=if 1≤readN t∧readN t % 2=k % 2∧bodyL (readN t) (readS t) ++ [165]=t then (readN t,readS t) else (0,St.zero)
theorem take_app {α:Type} {a b:List α} {n:Nat} (h:a.length=n):(a ++ b).take n=a:=by rw [← h]; simp
theorem drop_app {α:Type} {a b:List α} {n:Nat} (h:a.length=n):(a ++ b).drop n=b:=by rw [← h]; simp
theorem readN_body (n:Nat) (s:St) (r:List UInt8) (hn:n<4294967296):readN (bodyL n s ++ r)=n:=by
 unfold readN bodyL textL
 rw [List.append_assoc,List.append_assoc,List.append_assoc,List.append_assoc,take_app (wideL_length 4 n),numL_wide]
 exact Nat.mod_eq_of_lt hn
theorem readS_body (n:Nat) (s:St) (r:List UInt8) (hs:s.fits):readS (bodyL n s ++ r)=s:=by
 obtain ⟨h1,h2,h3⟩:=hs
 have e:bodyL n s ++ r=wideL n 4 ++ (wideL s.ph 1 ++ (wideL s.pr 4 ++ (wideL s.at_ 4 ++ (wideL (crcL (textL n s)) 4 ++ r)))):=by simp [bodyL,textL]
 have d4:(bodyL n s ++ r).drop 4=wideL s.ph 1 ++ (wideL s.pr 4 ++ (wideL s.at_ 4 ++ (wideL (crcL (textL n s)) 4 ++ r))):=by rw [e,drop_app (wideL_length 4 n)]
 have d5:(bodyL n s ++ r).drop 5=wideL s.pr 4 ++ (wideL s.at_ 4 ++ (wideL (crcL (textL n s)) 4 ++ r)):=by
  rw [show (5:Nat)=4+1 from rfl,← List.drop_drop,d4,drop_app (wideL_length 1 _)]
 have d9:(bodyL n s ++ r).drop 9=wideL s.at_ 4 ++ (wideL (crcL (textL n s)) 4 ++ r):=by
  rw [show (9:Nat)=5+4 from rfl,← List.drop_drop,d5,drop_app (wideL_length 4 _)]
 unfold readS
 rw [d4,d5,d9,take_app (wideL_length 1 _),take_app (wideL_length 4 _),take_app (wideL_length 4 _),numL_wide,numL_wide,numL_wide,Nat.mod_eq_of_lt (by simpa using h1),Nat.mod_eq_of_lt (by simpa using h2),Nat.mod_eq_of_lt (by simpa using h3)]
theorem heldL_body (k n:Nat) (s:St) (h1:1≤n) (hn:n<4294967296) (hk:n % 2=k % 2) (hs:s.fits):heldL k (bodyL n s ++ [165])=(n,s):=by
 unfold heldL
 rw [readN_body n s _ hn,readS_body n s _ hs,if_pos ⟨h1,hk,rfl⟩]
theorem heldL_torn (k:Nat) (t:List UInt8) (b:UInt8) (h:t.getLast? = some b) (hb:b≠165):heldL k t=(0,St.zero):=by
 unfold heldL
 rw [if_neg]
 rintro ⟨_,_,h3⟩
 rw [← h3] at h
 simp at h
 exact hb h.symm
theorem heldL_parity (k:Nat) (t:List UInt8) (h:(heldL k t).1≠0):(heldL k t).1 % 2=k % 2:=by
 unfold heldL at h ⊢
 split
 ·rename_i g; exact g.2.1
 ·rename_i g; rw [if_neg g] at h; exact absurd rfl h
theorem heldL_zero (k:Nat) (t:List UInt8) (h:(heldL k t).1=0):heldL k t=(0,St.zero):=by
 unfold heldL at h ⊢
 split
 ·rename_i g; rw [if_pos g] at h; exact absurd h (by have:=g.1; omega)
 ·rfl
theorem readN_lt (t:List UInt8):readN t<4294967296:=by
 have h:=numL_lt (t.take 4)
 have h2:(t.take 4).length≤4:=by simp; omega
 have h3:256 ^ (t.take 4).length≤256 ^ 4:=Nat.pow_le_pow_right (by decide) h2
 unfold readN
 have h4:(256:Nat) ^ 4=4294967296:=by decide
 omega
theorem heldL_lt (k:Nat) (t:List UInt8):(heldL k t).1<4294967296:=by
 unfold heldL
 split
 ·exact readN_lt t
 ·decide
def putL (L:List UInt8) (a:Nat) (S:List UInt8):List UInt8:=L.take a ++ S ++ L.drop (a+S.length)
theorem putL_length {L S:List UInt8} {a:Nat} (h:a+S.length≤L.length):(putL L a S).length=L.length:=by
 simp [putL]; omega
theorem putL_nil (L:List UInt8) (a:Nat):putL L a []=L:=by simp [putL]
theorem putL_get {L S:List UInt8} {a:Nat} (h:a+S.length≤L.length) (j:Nat):(putL L a S)[j]? = if a≤j∧j<a+S.length then S[j - a]? else L[j]?:=by
 unfold putL
 have e:min a L.length=a:=by omega
 simp only [List.getElem?_append,List.length_append,List.length_take,List.getElem?_take,List.getElem?_drop,e]
 rcases Nat.lt_or_ge j a with h1|h1
 ·rw [if_pos (by omega),if_pos h1,if_pos h1,if_neg (by omega)]
 ·rcases Nat.lt_or_ge j (a+S.length) with h2|h2
  ·rw [if_pos h2,if_neg (by omega),if_pos ⟨h1,h2⟩]
  ·rw [if_neg (by omega),if_neg (by omega)]
   congr 1
   omega
theorem putB_putL {B s:ByteArray} {a k:Nat} (hk:k≤s.size):(putB B a s k).data.toList=putL B.data.toList a (s.data.toList.take k):=by
 rw [putB_list]
 unfold putL
 rw [size_list] at hk
 rw [List.length_take,Nat.min_eq_left hk]
def slotL (L:List UInt8) (k:Nat):List UInt8:=(L.drop (18 * k)).take 18
theorem slotL_get (L:List UInt8) (k j:Nat):(slotL L k)[j]? = if j<18 then L[18 * k+j]? else none:=by
 unfold slotL
 rw [List.getElem?_take,List.getElem?_drop]
theorem slotL_length {L:List UInt8} {k:Nat} (h:18 * (k+1)≤L.length):(slotL L k).length=18:=by
 simp [slotL]; omega
def dealL (L:List UInt8) (d:Nat):Nat×St :=
 if (heldL (2 * d) (slotL L (2 * d))).1<(heldL (2 * d+1) (slotL L (2 * d+1))).1 then heldL (2 * d+1) (slotL L (2 * d+1)) else heldL (2 * d) (slotL L (2 * d))
structure Only (L:List UInt8) (k:Nat) (L':List UInt8):Prop where
 len:L'.length=L.length
 other:∀ j,j≠k→slotL L' j=slotL L j
theorem Only.refl (L:List UInt8) (k:Nat):Only L k L:=⟨rfl,fun _ _=>rfl⟩
theorem Only.trans {L L' L'':List UInt8} {k:Nat} (h:Only L k L') (g:Only L' k L''):Only L k L'':=⟨g.len.trans h.len,fun j hj=>(g.other j hj).trans (h.other j hj)⟩
theorem only_put {L S:List UInt8} {k i:Nat} (hk:18 * (k+1)≤L.length) (hi:i+S.length≤18):Only L k (putL L (18 * k+i) S):=by
 refine ⟨putL_length (by omega),fun j hj=>?_⟩
 apply List.ext_getElem?
 intro m
 rw [slotL_get,slotL_get]
 split
 ·rw [putL_get (by omega),if_neg (by omega)]
 ·rfl
theorem slot_put {L S:List UInt8} {k i:Nat} (hk:18 * (k+1)≤L.length) (hi:i+S.length≤18):slotL (putL L (18 * k+i) S) k=putL (slotL L k) i S:=by
 apply List.ext_getElem?
 intro m
 rw [slotL_get,putL_get (by omega),putL_get (by rw [slotL_length hk]; omega),slotL_get]
 by_cases h:m<18
 ·rw [if_pos h,if_pos h]
  by_cases g:i≤m∧m<i+S.length
  ·rw [if_pos (by omega),if_pos g]
   congr 1
   omega
  ·rw [if_neg (by omega),if_neg g]
 ·rw [if_neg h,if_neg h,if_neg (by omega)]
def Torn (L:List UInt8) (k:Nat) (L':List UInt8):Prop:=Only L k L'∧(slotL L' k=slotL L k ∨ ∃ b:UInt8,b≠165∧(slotL L' k)[17]? = some b)
def Done (L:List UInt8) (k n:Nat) (s:St) (L':List UInt8):Prop:=Only L k L'∧slotL L' k=bodyL n s ++ [165]
def nextK (d m:Nat):Nat:=2 * d+(m+1) % 2
theorem last_of_17 {t:List UInt8} {b:UInt8} (hl:t.length=18) (h:t[17]? = some b):t.getLast? = some b:=by rw [List.getLast?_eq_getElem?,hl]; exact h
theorem deal_other {L L':List UInt8} {d m e:Nat} (h:Only L (nextK d m) L') (he:e≠d):dealL L' e=dealL L e:=by
 unfold nextK at h
 unfold dealL
 rw [h.other (2 * e) (by omega),h.other (2 * e+1) (by omega)]
theorem deal_torn {L L':List UInt8} {d:Nat} (hL:36 * (d+1)≤L.length) (h:Torn L (nextK d (dealL L d).1) L'):dealL L' d=dealL L d:=by
 obtain ⟨ho,hs⟩:=h
 rcases hs with hs|⟨b,hb,hg⟩
 ·have all:∀ j,slotL L' j=slotL L j:=fun j=>by
   by_cases hj:j=nextK d (dealL L d).1
   ·rw [hj]; exact hs
   ·exact ho.other j hj
  unfold dealL
  rw [all,all]
 ·have hk:18 * (nextK d (dealL L d).1+1)≤L'.length:=by rw [ho.len]; unfold nextK; omega
  have ht:=fun k=>heldL_torn k _ b (last_of_17 (slotL_length hk) hg) hb
  have pa:=heldL_parity (2 * d) (slotL L (2 * d))
  have pb:=heldL_parity (2 * d+1) (slotL L (2 * d+1))
  have za:=heldL_zero (2 * d) (slotL L (2 * d))
  have zb:=heldL_zero (2 * d+1) (slotL L (2 * d+1))
  unfold nextK at ho ht
  unfold dealL at ho ht ⊢
  by_cases c:(heldL (2 * d) (slotL L (2 * d))).1<(heldL (2 * d+1) (slotL L (2 * d+1))).1
  ·rw [if_pos c] at ho ht ⊢
   have p:=pb (by omega)
   have e:((heldL (2 * d+1) (slotL L (2 * d+1))).1+1) % 2=0:=by omega
   rw [e,Nat.add_zero] at ho ht
   rw [ho.other (2 * d+1) (by omega),ht (2 * d),if_pos (by show 0<_; omega)]
  ·rw [if_neg c] at ho ht ⊢
   by_cases z:(heldL (2 * d) (slotL L (2 * d))).1=0
   ·have e:((heldL (2 * d) (slotL L (2 * d))).1+1) % 2=1:=by omega
    rw [e] at ho ht
    rw [ho.other (2 * d) (by omega),ht (2 * d+1),if_neg (by show ¬ _<0; omega)]
   ·have p:=pa z
    have e:((heldL (2 * d) (slotL L (2 * d))).1+1) % 2=1:=by omega
    rw [e] at ho ht
    rw [ho.other (2 * d) (by omega),ht (2 * d+1),if_neg (by show ¬ _<0; omega)]
theorem deal_done {L L':List UInt8} {d:Nat} {s:St} (hn:(dealL L d).1+1<4294967296) (hs:s.fits) (h:Done L (nextK d (dealL L d).1) ((dealL L d).1+1) s L'):dealL L' d=((dealL L d).1+1,s):=by
 obtain ⟨ho,hb⟩:=h
 have le:(heldL (2 * d) (slotL L (2 * d))).1≤(dealL L d).1∧(heldL (2 * d+1) (slotL L (2 * d+1))).1≤(dealL L d).1:=by
  unfold dealL; split <;> omega
 have hh:=fun k (hk:((dealL L d).1+1) % 2=k % 2)=>heldL_body k ((dealL L d).1+1) s (by omega) hn hk hs
 generalize dealL L d=m at *
 unfold nextK at ho hb
 unfold dealL
 rcases Nat.mod_two_eq_zero_or_one (m.1+1) with e|e
 ·rw [e,Nat.add_zero] at ho hb
  rw [ho.other (2 * d+1) (by omega),hb,hh (2 * d) (by omega),if_neg (by show ¬ m.1+1<_; omega)]
 ·rw [e] at ho hb
  rw [ho.other (2 * d) (by omega),hb,hh (2 * d+1) (by omega),if_pos (by show _<m.1+1; omega)]
def Wr (L:List UInt8) (a:Nat) (S:List UInt8) (L':List UInt8) (c:Nat):Prop:=(c=0∧L'=putL L a S) ∨ (c=6∧∃ t,t<S.length∧L'=putL L a (S.take t))
def Zeroed (L:List UInt8) (k:Nat) (L':List UInt8):Prop:=Only L k L'∧(slotL L' k)[17]? = some 0
theorem zero_skip {L:List UInt8} {k:Nat} (h:L[18 * k+17]? = some 0):Zeroed L k L:=⟨Only.refl _ _,by rw [slotL_get]; exact h⟩
theorem zero_wr {L L':List UInt8} {k c:Nat} (hk:18 * (k+1)≤L.length) (h:Wr L (18 * k+17) [0] L' c):(c=0∧Zeroed L k L') ∨ (c=6∧Torn L k L'):=by
 rcases h with ⟨rfl,rfl⟩|⟨rfl,t,ht,rfl⟩
 ·refine .inl ⟨rfl,only_put hk (by simp),?_⟩
  rw [slot_put hk (by simp),putL_get (by rw [slotL_length hk]; simp)]
  rfl
 ·obtain rfl:t=0:=by simpa using ht
  rw [List.take_zero,putL_nil]
  exact .inr ⟨rfl,Only.refl _ _,.inl rfl⟩
def Bodied (L:List UInt8) (k n:Nat) (s:St) (L':List UInt8):Prop:=Only L k L'∧slotL L' k=bodyL n s ++ [0]
theorem Bodied.torn {L L':List UInt8} {k n:Nat} {s:St} (h:Bodied L k n s L'):Torn L k L':=⟨h.1,.inr ⟨0,by decide,by rw [h.2,List.getElem?_append_right (by rw [bodyL_length]; omega),bodyL_length]; rfl⟩⟩
theorem body_wr {L L0 L':List UInt8} {k n c:Nat} {s:St} (hk:18 * (k+1)≤L.length) (h0:Zeroed L k L0) (h:Wr L0 (18 * k) (bodyL n s) L' c):(c=0∧Bodied L k n s L') ∨ (c=6∧Torn L k L'):=by
 have hk0:18 * (k+1)≤L0.length:=by rw [h0.1.len]; exact hk
 have hb:=bodyL_length n s
 rcases h with ⟨rfl,rfl⟩|⟨rfl,t,ht,rfl⟩
 ·refine .inl ⟨rfl,h0.1.trans (only_put (i:=0) hk0 (by omega)),?_⟩
  have e:=slot_put (S:=bodyL n s) (i:=0) hk0 (by omega)
  rw [Nat.add_zero] at e
  rw [e]
  apply List.ext_getElem?
  intro m
  rw [putL_get (by rw [slotL_length hk0]; omega),List.getElem?_append,hb]
  by_cases g:m<17
  ·rw [if_pos (by omega),if_pos g,Nat.sub_zero]
  ·rw [if_neg (by omega),if_neg g]
   by_cases g2:m=17
   ·subst g2; rw [h0.2]; rfl
   ·rw [slotL_get,if_neg (by omega),List.getElem?_eq_none (by simp; omega)]
 ·refine .inr ⟨rfl,h0.1.trans (only_put (i:=0) hk0 (by simp; omega)),.inr ⟨0,by decide,?_⟩⟩
  have e:=slot_put (S:=(bodyL n s).take t) (i:=0) hk0 (by simp; omega)
  rw [Nat.add_zero] at e
  rw [e,putL_get (by rw [slotL_length hk0]; simp; omega),if_neg (by simp; omega)]
  exact h0.2
theorem last_wr {L L1 L':List UInt8} {k n c:Nat} {s:St} (hk:18 * (k+1)≤L.length) (h1:Bodied L k n s L1) (h:Wr L1 (18 * k+17) [165] L' c):(c=0∧Done L k n s L') ∨ (c=6∧Torn L k L'):=by
 have hk1:18 * (k+1)≤L1.length:=by rw [h1.1.len]; exact hk
 rcases h with ⟨rfl,rfl⟩|⟨rfl,t,ht,rfl⟩
 ·refine .inl ⟨rfl,h1.1.trans (only_put hk1 (by simp)),?_⟩
  rw [slot_put hk1 (by simp),h1.2]
  unfold putL
  rw [take_app (bodyL_length n s)]
  simp [bodyL_length]
 ·obtain rfl:t=0:=by simpa using ht
  rw [List.take_zero,putL_nil]
  exact .inr ⟨rfl,h1.torn⟩
def devBit (c:Nat):Nat:=if c % 2=1 then (c / 2) ^^^ 3988292384 else c / 2
def devBits (c:Nat):Nat→Nat
 | 0=>c
 | k+1=>devBit (devBits c k)
theorem xor_half (x y:Nat):(x ^^^ y) / 2=x / 2 ^^^ y / 2:=by
 apply Nat.eq_of_testBit_eq
 intro i
 simp [Nat.testBit_xor,Nat.testBit_div_two]
theorem dev_step (c b k:Nat):devBit (c ^^^ b / 2 ^ k)=crcBit c b k ^^^ b / 2 ^ (k+1):=by
 have e:b / 2 ^ k / 2=b / 2 ^ (k+1):=by rw [Nat.div_div_eq_div_mul,Nat.pow_succ]
 unfold devBit crcBit
 split
 ·rw [xor_half,e,Nat.xor_assoc,Nat.xor_assoc,Nat.xor_comm 3988292384]
 ·rw [xor_half,e]
theorem dev_bits (c b:Nat):∀ k,devBits (c ^^^ b) k=crcBits c b k ^^^ b / 2 ^ k
 | 0=>by simp [devBits,crcBits]
 | k+1=>by rw [devBits,dev_bits c b k,dev_step]; rfl
theorem dev_eight (c:Nat) (b:UInt8):devBits (c ^^^ b.toNat) 8=crcBits c b.toNat 8:=by
 rw [dev_bits]
 have h:=UInt8.toNat_lt b
 rw [show b.toNat / 2 ^ 8=0 by omega,Nat.xor_zero]
theorem devBit_lt {c:Nat} (h:c<4294967296):devBit c<4294967296:=by
 unfold devBit
 split
 ·exact Nat.xor_lt_two_pow (n:=32) (by omega) (by decide)
 ·omega
theorem devBits_lt {c:Nat} (h:c<4294967296):∀ k,devBits c k<4294967296
 | 0=>h
 | k+1=>devBit_lt (devBits_lt h k)
end Go.Proofs.YtaehdgemkafinaaGreatDoor
namespace Go.Proofs.YtaehdgemkafinaaGreatDoor
open Go.RowKit

/-! ### Bits of an int that is not below 0 -/
theorem ofInt_nat (a:Nat) (ha:a<9223372036854775808):(BitVec.ofInt 64 (a:Int)).toNat=a:=by
 rw [BitVec.ofInt_natCast,BitVec.toNat_ofNat]; exact Nat.mod_eq_of_lt (by omega)
theorem bits_and_nat (a b:Nat) (ha:a<9223372036854775808) (hb:b<9223372036854775808):bits .and .i64 (a:Int) (b:Int)=((a &&& b:Nat):Int):=by
 have hx:a &&& b<2 ^ 63:=Nat.and_lt_two_pow _ (by omega)
 show IntKind.i64.wrap ((BitVec.ofInt 64 (a:Int) &&& BitVec.ofInt 64 (b:Int)).toNat:Int)=_
 rw [BitVec.toNat_and,ofInt_nat a ha,ofInt_nat b hb,IntKind.wrap_i64]
 omega
theorem bits_or_nat (a b:Nat) (ha:a<9223372036854775808) (hb:b<9223372036854775808):bits .or .i64 (a:Int) (b:Int)=((a ||| b:Nat):Int):=by
 have hx:a ||| b<2 ^ 63:=Nat.or_lt_two_pow (by omega) (by omega)
 show IntKind.i64.wrap ((BitVec.ofInt 64 (a:Int) ||| BitVec.ofInt 64 (b:Int)).toNat:Int)=_
 rw [BitVec.toNat_or,ofInt_nat a ha,ofInt_nat b hb,IntKind.wrap_i64]
 omega
def bit (s:Int) (k:Nat):Bool:=s.toNat.testBit k
def sumTo (zs:List Int) (s:Int):Nat→Int
 | 0=>0
 | k+1=>sumTo zs s k+if bit s k then zs.getD k 0 else 0
def psum (zs:List Int):Nat→Int
 | 0=>0
 | k+1=>psum zs k+zs.getD k 0
def tot (zs:List Int):Int:=psum zs zs.length
def okTo (zs:List Int) (k:Nat):Prop:=∀ i,i<k→0≤zs.getD i 0∧zs.getD i 0≤1000
def errW (zs:List Int):Nat :=
 if zs.length<1 ∨ 7<zs.length then 3 else if (zs.all fun n=>decide (0≤n∧n≤1000))=true then (if tot zs=0 then 4 else 0) else 2
def errS (zs:List Int) (s:Int):Nat:=if errW zs=0 then (if s<0 ∨ 2 ^ zs.length≤s then 2 else 0) else errW zs
def enoughB (zs:List Int) (s:Int):Bool:=decide (tot zs<2 * sumTo zs s zs.length)
theorem getD_lt (zs:List Int) (k:Nat) (h:k<zs.length):zs.getD k 0=zs[k]:=by simp [h]
theorem okTo_all (zs:List Int):okTo zs zs.length ↔ (zs.all fun n=>decide (0≤n∧n≤1000))=true:=by
 rw [List.all_eq_true]
 constructor
 ·intro h x hx
  obtain ⟨i,hi,rfl⟩:=List.getElem_of_mem hx
  have:=h i hi
  rw [getD_lt zs i hi] at this
  simpa using this
 ·intro h i hi
  have:=h zs[i] (List.getElem_mem hi)
  rw [getD_lt zs i hi]
  simpa using this
theorem okTo_succ {zs:List Int} {k:Nat} (h:okTo zs k) (h0:0≤zs.getD k 0) (h1:zs.getD k 0≤1000):okTo zs (k+1):=by
 intro i hi
 rcases Nat.lt_succ_iff_lt_or_eq.1 hi with h'|rfl
 ·exact h i h'
 ·exact ⟨h0,h1⟩
theorem psum_bd {zs:List Int}:∀ {k:Nat},okTo zs k→0≤psum zs k∧psum zs k≤1000 * k
 | 0,_=>by simp [psum]
 | k+1,h=>by
  have ih:=psum_bd (k:=k) (fun i hi=>h i (Nat.lt_succ_of_lt hi))
  have:=h k (Nat.lt_succ_self k)
  simp only [psum]; omega
theorem sumTo_bd {zs:List Int} (s:Int):∀ {k:Nat},okTo zs k→0≤sumTo zs s k∧sumTo zs s k≤psum zs k
 | 0,_=>by simp [psum,sumTo]
 | k+1,h=>by
  have ih:=sumTo_bd s (k:=k) (fun i hi=>h i (Nat.lt_succ_of_lt hi))
  have:=h k (Nat.lt_succ_self k)
  simp only [psum,sumTo]; split <;> omega
theorem errW_shape {zs:List Int} (h:zs.length<1 ∨ 7<zs.length):errW zs=3:=by unfold errW; rw [if_pos h]
theorem errW_bound {zs:List Int} (h:¬ (zs.length<1 ∨ 7<zs.length)) {k:Nat} (hk:k<zs.length) (hb:zs.getD k 0<0 ∨ 1000<zs.getD k 0):errW zs=2:=by
 unfold errW; rw [if_neg h,if_neg]
 rw [← okTo_all]; intro g; have:=g k hk; omega
theorem errW_ok {zs:List Int} (h:¬ (zs.length<1 ∨ 7<zs.length)) (g:okTo zs zs.length):errW zs=if tot zs=0 then 4 else 0:=by
 unfold errW; rw [if_neg h,if_pos ((okTo_all zs).1 g)]
theorem errW_zero {zs:List Int} (h:errW zs=0):1≤zs.length∧zs.length≤7∧okTo zs zs.length∧tot zs≠0:=by
 unfold errW at h
 split at h
 ·cases h
 ·split at h
  ·split at h
   ·cases h
   ·refine ⟨by omega,by omega,(okTo_all zs).2 (by assumption),by assumption⟩
  ·cases h
theorem errS_zero {zs:List Int} {s:Int} (h:errS zs s=0):errW zs=0∧0≤s∧s<2 ^ zs.length:=by
 unfold errS at h
 split at h
 ·split at h
  ·cases h
  ·exact ⟨by assumption,by omega,by omega⟩
 ·exact absurd h (by assumption)
theorem errS_mk {zs:List Int} {s:Int} (h:errW zs=0) (h0:0≤s) (h1:s<2 ^ zs.length):errS zs s=0:=by
 unfold errS; rw [if_pos h,if_neg (by omega)]
theorem pow_le7 {n:Nat} (h:n≤7):(2:Int) ^ n≤128∧(1:Int)≤2 ^ n:=by
 have:n=0 ∨ n=1 ∨ n=2 ∨ n=3 ∨ n=4 ∨ n=5 ∨ n=6 ∨ n=7:=by omega
 rcases this with rfl|rfl|rfl|rfl|rfl|rfl|rfl|rfl <;> decide
theorem pow_le30 {n:Nat} (h:n≤30):(2:Int) ^ n≤1073741824∧(1:Int)≤2 ^ n:=by
 have h1:(2:Nat) ^ n≤2 ^ 30:=Nat.pow_le_pow_right (by decide) h
 have h2:1≤(2:Nat) ^ n:=Nat.one_le_two_pow
 have e:((2:Int) ^ n)=(((2:Nat) ^ n:Nat):Int):=by simp
 rw [e]; constructor
 ·have:(2:Nat) ^ 30=1073741824:=by decide
  omega
 ·omega
theorem bit_and {s:Int} (k:Nat) (h0:0≤s) (h1:s<9223372036854775808):(bits BinOp.and IntKind.i64 (s / 2 ^ k) 1 == 1)=bit s k:=by
 obtain ⟨m,rfl⟩:=Int.eq_ofNat_of_zero_le h0
 have e:((m:Int) / 2 ^ k)=((m / 2 ^ k:Nat):Int):=by simp
 have hlt:m / 2 ^ k<9223372036854775808:=Nat.lt_of_le_of_lt (Nat.div_le_self _ _) (by omega)
 rw [e,show (1:Int)=((1:Nat):Int) from rfl,bits_and_nat _ 1 hlt (by decide),Nat.and_one_is_mod]
 unfold bit
 rw [Int.toNat_natCast,Nat.testBit_eq_decide_div_mod_eq,Bool.eq_iff_iff]
 simp; omega
theorem bit_two {n k:Nat} (h:k<n):bit (2 ^ n - 1) k=true:=by
 unfold bit
 have e:((2:Int) ^ n - 1).toNat=2 ^ n - 1:=by
  have h2:1≤(2:Nat) ^ n:=Nat.one_le_two_pow
  have e:((2:Int) ^ n)=(((2:Nat) ^ n:Nat):Int):=by simp
  rw [e]; omega
 rw [e,Nat.testBit_two_pow_sub_one]; simpa using h
theorem sumTo_all (zs:List Int) {n:Nat}:∀ {k:Nat},k≤n→sumTo zs (2 ^ n - 1) k=psum zs k
 | 0,_=>rfl
 | k+1,h=>by simp only [sumTo,psum]; rw [sumTo_all zs (k:=k) (by omega),bit_two (by omega)]; simp
end Go.Proofs.YtaehdgemkafinaaGreatDoor
namespace Go.Proofs.YtaehdgemkafinaaGreatDoor
structure HOut where
 st:St
 k:Nat
 yes:Bool
def finB (p:Nat):Bool:=decide (p=2 ∨ p=3)
def askP (s:St) (ref:Bool):Nat:=if s.ph=0 then (if ref=true then 3 else 1) else s.ph
def hearL (s:St) (ref:Bool) (k a ph:Nat):HOut :=
 if k=1 then ⟨⟨askP s ref,s.pr,s.at_⟩,2,decide (askP s ref≠3)⟩
 else if k=3 then (if s.pr<a then ⟨⟨s.ph,a,s.at_⟩,4,true⟩ else ⟨s,4,false⟩)
 else if k=5 then (if ph=4 ∨ ph=5 then (if s.pr≤a∧finB s.ph=false then ⟨⟨ph,a,a⟩,6,true⟩ else ⟨s,6,false⟩) else ⟨s,0,false⟩)
 else if k=7 then (if finB ph=true∧finB s.ph=false then ⟨⟨ph,s.pr,s.at_⟩,0,false⟩ else ⟨s,0,false⟩)
 else ⟨s,0,false⟩
def St.good (s:St):Prop:=s.ph≤5∧s.pr≤1048576∧s.at_≤s.pr
def mayN (a b:Nat):Prop:=a≤5∧b≤5∧(a=b ∨ a=0 ∨ (a=1∧b≠0) ∨ ((a=4 ∨ a=5)∧b≠0∧b≠1))
theorem hear_good (s:St) (ref:Bool) (k a ph:Nat) (h:s.good) (ha:a≤1048576) (hp:ph≤5):(hearL s ref k a ph).st.good∧s.pr≤(hearL s ref k a ph).st.pr∧s.at_≤(hearL s ref k a ph).st.at_∧mayN s.ph (hearL s ref k a ph).st.ph:=by
 obtain ⟨h1,h2,h3⟩:=h
 unfold hearL
 repeat' split
 ·unfold askP St.good mayN
  simp only
  refine ⟨⟨?_,h2,h3⟩,Nat.le_refl _,Nat.le_refl _,h1,?_,?_⟩
  ·repeat' split
   all_goals omega
  ·repeat' split
   all_goals omega
  ·repeat' split
   all_goals omega
 ·rename_i hlt
  exact ⟨⟨h1,ha,by show s.at_≤a; omega⟩,by show s.pr≤a; omega,Nat.le_refl _,h1,h1,.inl rfl⟩
 ·exact ⟨⟨h1,h2,h3⟩,Nat.le_refl _,Nat.le_refl _,h1,h1,.inl rfl⟩
 ·rename_i hph hpr
  obtain ⟨hpr,hf⟩:=hpr
  have hf2:=of_decide_eq_false hf
  refine ⟨⟨hp,ha,Nat.le_refl _⟩,hpr,by show s.at_≤a; omega,h1,hp,?_⟩
  show s.ph=ph ∨ s.ph=0 ∨ (s.ph=1∧ph≠0) ∨ ((s.ph=4 ∨ s.ph=5)∧ph≠0∧ph≠1)
  omega
 ·exact ⟨⟨h1,h2,h3⟩,Nat.le_refl _,Nat.le_refl _,h1,h1,.inl rfl⟩
 ·exact ⟨⟨h1,h2,h3⟩,Nat.le_refl _,Nat.le_refl _,h1,h1,.inl rfl⟩
 ·rename_i hf
  have e1:=of_decide_eq_true hf.1
  have e2:=of_decide_eq_false hf.2
  refine ⟨⟨hp,h2,h3⟩,Nat.le_refl _,Nat.le_refl _,h1,hp,?_⟩
  show s.ph=ph ∨ s.ph=0 ∨ (s.ph=1∧ph≠0) ∨ ((s.ph=4 ∨ s.ph=5)∧ph≠0∧ph≠1)
  omega
 ·exact ⟨⟨h1,h2,h3⟩,Nat.le_refl _,Nat.le_refl _,h1,h1,.inl rfl⟩
 ·exact ⟨⟨h1,h2,h3⟩,Nat.le_refl _,Nat.le_refl _,h1,h1,.inl rfl⟩
end Go.Proofs.YtaehdgemkafinaaGreatDoor
namespace Go.Proofs.YtaehdgemkafinaaGreatDoor
open Go.RowKit
theorem pow_nat (n:Nat):((2:Int) ^ n)=(((2:Nat) ^ n:Nat):Int):=by simp
theorem bit_compl {n:Nat} {a:Int} (h0:0≤a) (h1:a<2 ^ n) {k:Nat} (hk:k<n):bit (2 ^ n - 1 - a) k=!bit a k:=by
 obtain ⟨m,rfl⟩:=Int.eq_ofNat_of_zero_le h0
 rw [pow_nat] at h1
 unfold bit
 have e:((2:Int) ^ n - 1 - (m:Int)).toNat=2 ^ n - (m+1):=by rw [pow_nat]; omega
 rw [e,Nat.testBit_two_pow_sub_succ (by omega)]
 simp [hk]
theorem bit_or {a b:Int} (h0:0≤a) (h1:a<128) (g0:0≤b) (g1:b<128) (k:Nat):bit (bits .or .i64 a b) k=(bit a k || bit b k):=by
 obtain ⟨m,rfl⟩:=Int.eq_ofNat_of_zero_le h0
 obtain ⟨n,rfl⟩:=Int.eq_ofNat_of_zero_le g0
 rw [bits_or_nat m n (by omega) (by omega)]
 unfold bit
 simp [Nat.testBit_or]
theorem bit_none {a b:Int} (h0:0≤a) (h1:a<128) (g0:0≤b) (g1:b<128) (h:bits .and .i64 a b=0) (k:Nat):(bit a k && bit b k)=false:=by
 obtain ⟨m,rfl⟩:=Int.eq_ofNat_of_zero_le h0
 obtain ⟨n,rfl⟩:=Int.eq_ofNat_of_zero_le g0
 rw [bits_and_nat m n (by omega) (by omega)] at h
 have e:m &&& n=0:=by omega
 unfold bit
 rw [Int.toNat_natCast,Int.toNat_natCast,← Nat.testBit_and,e,Nat.zero_testBit]
theorem sumTo_or {zs:List Int} {a b:Int} (h0:0≤a) (h1:a<128) (g0:0≤b) (g1:b<128):∀ {k:Nat},okTo zs k→sumTo zs a k≤sumTo zs (bits .or .i64 a b) k
 | 0,_=>by simp [sumTo]
 | k+1,h=>by
  have ih:=sumTo_or h0 h1 g0 g1 (k:=k) (fun i hi=>h i (by omega))
  have:=h k (by omega)
  simp only [sumTo]
  rw [bit_or h0 h1 g0 g1]
  generalize zs.getD k 0=z at *
  cases bit a k <;> cases bit b k <;> simp <;> omega
theorem sumTo_apart {zs:List Int} {a b:Int} (h0:0≤a) (h1:a<128) (g0:0≤b) (g1:b<128) (hab:bits .and .i64 a b=0):∀ {k:Nat},okTo zs k→sumTo zs a k+sumTo zs b k≤psum zs k
 | 0,_=>by simp [sumTo,psum]
 | k+1,h=>by
  have ih:=sumTo_apart h0 h1 g0 g1 hab (k:=k) (fun i hi=>h i (by omega))
  have:=h k (by omega)
  have hn:=bit_none h0 h1 g0 g1 hab k
  simp only [sumTo,psum]
  revert hn
  generalize zs.getD k 0=z at *
  cases bit a k <;> cases bit b k <;> simp <;> omega
theorem or_lt {n:Nat} {a b:Int} (hn:n≤7) (h0:0≤a) (h1:a<2 ^ n) (g0:0≤b) (g1:b<2 ^ n):0≤bits .or .i64 a b∧bits .or .i64 a b<2 ^ n:=by
 have hp:=(pow_le7 hn).1
 obtain ⟨m,rfl⟩:=Int.eq_ofNat_of_zero_le h0
 obtain ⟨l,rfl⟩:=Int.eq_ofNat_of_zero_le g0
 rw [pow_nat] at h1 g1 hp ⊢
 have:m ||| l<2 ^ n:=Nat.or_lt_two_pow (by omega) (by omega)
 rw [bits_or_nat m l (by omega) (by omega)]
 omega
theorem lt128 {zs:List Int} {a:Int} (h:errS zs a=0):0≤a∧a<128:=by
 obtain ⟨h1,h2,h3⟩:=errS_zero h
 have:=(pow_le7 (errW_zero h1).2.1).1
 omega
theorem meet {zs:List Int} {a b:Int} (h:errS zs a=0) (g:errS zs b=0) (x:enoughB zs a=true) (y:enoughB zs b=true):(bits .and .i64 a b == 0)=false:=by
 rw [beq_eq_false_iff_ne]
 intro e
 have ha:=lt128 h
 have hb:=lt128 g
 have:=sumTo_apart ha.1 ha.2 hb.1 hb.2 e (errW_zero (errS_zero h).1).2.2.1
 unfold enoughB tot at x y
 have x':=of_decide_eq_true x
 have y':=of_decide_eq_true y
 omega
theorem more {zs:List Int} {a b:Int} (h:errS zs a=0) (g:errS zs b=0) (x:enoughB zs a=true):enoughB zs (bits .or .i64 a b)=true:=by
 have ha:=lt128 h
 have hb:=lt128 g
 have:=sumTo_or ha.1 ha.2 hb.1 hb.2 (errW_zero (errS_zero h).1).2.2.1
 unfold enoughB at x ⊢
 have x':=of_decide_eq_true x
 exact decide_eq_true (by omega)
def lowB (s p:Nat):Bool :=
 let rest:Int:=((s / 2 ^ p * 2 ^ p:Nat):Int)
 (rest == 0) || (List.range 7).any fun q=>decide (p≤q) && (bits .and .i64 rest (-rest) == 2 ^ q) && (bits .and .i64 rest (rest - 1) == ((s / 2 ^ (q+1) * 2 ^ (q+1):Nat):Int)) && (bits .andNot .i64 (s:Int) (2 ^ q) == (s:Int) - 2 ^ q) && bit s q && decide (s / 2 ^ (q+1) * 2 ^ (q+1)<s / 2 ^ p * 2 ^ p) && (List.range q).all fun i=>decide (i<p) || !bit s i
theorem lowAll:((List.range 128).all fun s=>(List.range 8).all fun p=>lowB s p)=true:=by decide +kernel
theorem low {s p:Nat} (hs:s<128) (hp:p<8) (h0:((s / 2 ^ p * 2 ^ p:Nat):Int)≠0) :
  ∃ q,p≤q∧q<7∧bits .and .i64 ((s / 2 ^ p * 2 ^ p:Nat):Int) (-((s / 2 ^ p * 2 ^ p:Nat):Int))=2 ^ q∧bits .and .i64 ((s / 2 ^ p * 2 ^ p:Nat):Int) (((s / 2 ^ p * 2 ^ p:Nat):Int) - 1)=((s / 2 ^ (q+1) * 2 ^ (q+1):Nat):Int) ∧
   bits .andNot .i64 (s:Int) (2 ^ q)=(s:Int) - 2 ^ q∧bit s q=true∧s / 2 ^ (q+1) * 2 ^ (q+1)<s / 2 ^ p * 2 ^ p∧∀ i,p≤i→i<q→bit s i=false:=by
 have h:=List.all_eq_true.1 (List.all_eq_true.1 lowAll s (List.mem_range.2 hs)) p (List.mem_range.2 hp)
 unfold lowB at h
 rw [Bool.or_eq_true] at h
 rcases h with h|h
 ·exact absurd (by simpa using h) h0
 ·obtain ⟨q,hq,h⟩:=List.any_eq_true.1 h
  simp only [Bool.and_eq_true,decide_eq_true_eq,beq_iff_eq] at h
  obtain ⟨⟨⟨⟨⟨⟨h1,h2⟩,h3⟩,h4⟩,h5⟩,h7⟩,h6⟩:=h
  refine ⟨q,h1,List.mem_range.1 hq,h2,h3,h4,h5,h7,fun i hi1 hi2=>?_⟩
  have:=List.all_eq_true.1 h6 i (List.mem_range.2 hi2)
  simp at this
  rcases this with h|h
  ·omega
  ·exact h
theorem bit_has {s:Int} (k:Nat) (h0:0≤s):(s / 2 ^ k % 2 == 1)=bit s k:=by
 obtain ⟨m,rfl⟩:=Int.eq_ofNat_of_zero_le h0
 unfold bit
 rw [Int.toNat_natCast,Nat.testBit_eq_decide_div_mod_eq,Bool.eq_iff_iff]
 have e:((m:Int) / 2 ^ k)=((m / 2 ^ k:Nat):Int):=by simp
 rw [e]
 simp; omega
theorem enoughB_alt (zs:List Int) (s:Int):decide (tot zs - sumTo zs s zs.length<sumTo zs s zs.length)=enoughB zs s:=by
 unfold enoughB; exact decide_eq_decide.2 (by omega)
end Go.Proofs.YtaehdgemkafinaaGreatDoor
namespace Go.Proofs.YtaehdgemkafinaaGreatDoor
open Go.ChangeShapes Go.WideShapes Go.RowKit
theorem own:ownKnob Tryz.prog.godebug=none:=by kernel_rfl
theorem laidOut:laidOutB Tryz.prog=true:=by kernel_rfl
theorem star: "*" ++ "errors.errorString"= "*errors.errorString":=by decide
theorem rowErrS (u:TypeId) (h:Tryz.prog.typeName? 3 u=some "*errors.errorString"):u=318 :=
 typeName_ptr_named (nm:= "errors.errorString") (by rw [star]; kernel_rfl) (by kernel_rfl) (by decide) u (by rw [star]; exact h)
theorem cellsErrS:Tryz.prog.cellsOf 336=1:=by kernel_rfl
theorem cellsString:Tryz.prog.cellsOf 9=1:=by kernel_rfl
def errD (text:List UInt8):DataW Unit:=.iface "*errors.errorString" (.ptr (.agg [.lit (.string text)]))
structure Sent (W:World) (g:Nat) (a:Addr):Prop where
 var:W.cell? ⟨g,0,none⟩=some (.iface 318 (.pointer (some a)))
 str:∃ s,W.cell? a=some (.string s)
 row:∃ c t,W.heap[a.block]? = some (.cells c t (0,0))
abbrev saGreat:List (String×DataW Unit):=[("unicode/utf8.first",Rows.laid_unicode_utf8_first)]
theorem sa_great:((Rows.scriptAnewRow.laid.filter fun x=>x.2.handleName?.isNone).filter fun x=>["unicode/utf8.first"].contains x.1)=saGreat:=by kernel_rfl
theorem sad_fits (os:Os):(World.doorLaid Tryz.prog 212 os).layFits Tryz.prog saGreat ((List.range (World.doorLaid Tryz.prog 212 os).heap.size).filter (· != 14))=true:=by kernel_rfl
theorem sad_ifaces (os:Os) (args:Array Value):(World.doorLaid Tryz.prog 212 os).layIfaces Tryz.prog saGreat (((World.doorLaid Tryz.prog 212 os).layVars Tryz.prog saGreat).forCall (fun _ _=>0) ⟨#[],args,[]⟩).memory=true:=by kernel_rfl
theorem sad_in (os:Os) (args:Array Value):LaidIn Tryz.prog (((World.doorLaid Tryz.prog 212 os).layVars Tryz.prog saGreat).forCall (fun _ _=>0) ⟨#[],args,[]⟩).memory ((Rows.scriptAnewRow.laid.filter fun x=>x.2.handleName?.isNone).filter fun x=>!["unicode/utf8.first"].contains x.1) ((List.range (World.doorLaid Tryz.prog 212 os).heap.size).filter (· != 14)) :=
 LaidIn.of_run _ 8 (by kernel_rfl) (by kernel_rfl) (by kernel_rfl) (by kernel_rfl)
theorem sanew_door (os:Os) (args:Array Value):laidMetH Tryz.prog Rows.scriptAnewRow.laid (((World.doorLaid Tryz.prog 212 os).layVars Tryz.prog saGreat).forCall (fun _ _=>0) ⟨#[],args,[]⟩).memory :=
 laidMetH_of_parts3 (fuel:=8) (laidMet_layVars (w0:=World.doorLaid Tryz.prog 212 os) ["unicode/utf8.first"] _ (by rw [sa_great]; simp [World.memory,World.forCall,Input.heap]) (by rw [sa_great]; exact sad_fits os) (by rw [sa_great]; exact sad_ifaces os args) (sad_in os args)) (by kernel_rfl) (by kernel_rfl)
end Go.Proofs.YtaehdgemkafinaaGreatDoor
namespace Go.Proofs.YtaehdgemkafinaaGreatDoor
open Go
theorem leaving_of_handed {a:Assume} {C:Checked} {os:Os} {f:FuncId} {r:Reach} {Pre:World→Array Value→Prop} {Post:World→Array Value→Value→World→Prop} (h:ReturnsInHanded a C os f r Pre Post):ReturnsInLeavingWide a C os f r Pre Post:=fun enter=>by
 obtain ⟨h1,h2,h3,h4,h5⟩:=h enter
 refine ⟨h1,h2,h3,h4,fun w tape i hf=>?_⟩
 obtain ⟨n,v,w',a1,a2,a3,a4,⟨j,last,b1,b2,q,ho,eh⟩,a6⟩:=h5 w tape i hf
 exact ⟨n,v,w',a1,a2,a3,a4,⟨j,last,b1,b2,ho,onlyLeaving_of_quiet q,eh⟩,a6⟩
theorem tied_goes (Lk:Looks) {p:Pinned} {s:OpenSpec} {c:OpenClaim} (al:List (List PathCond)) (kinds:List LaidKind) (tests:Bool) (har:Bool×String) (lk g:Bool)
  (hc:c.holds p s) (hal:∀ D∈al,(c.withDomain D).holds p s) (hw:c.wfByText s=true) (hwal:∀ D∈al,(c.withDomain D).wfByText s=true)
  (htie:c.laidByTextAt Lk p kinds tests)
  (hst:c.start=.entering) (hnb:c.noBlocks=false∧c.again=false) (hm:p.checked.prog.mainIs=some (har.1,har.2.toList)) (hn:(!har.1 && har.2.isEmpty && !lk)=false)
  (hl:∀ f fn,p.checked.prog.funcNamed c.func=some f→p.checked.prog.funcs[f]? = some fn→lk=p.checked.prog.looks []∧∀ (j:Nat) t,fn.params[j]? = some t→p.checked.prog.wantsStandIn t=false)
  (hg:g=c.goesBy p.checked.prog) :
  Claim7.holds p (.plain s) { stood:={ row:=c,standIns:=[],harness:=har,looks:=lk },kinds:=[],alts:=al,goes:=g,laidByText:=true,laidKinds:=kinds,laidTests:=tests,laidLooks:=Lk }:=by
 have h6:∀ r:OpenClaim,Claim7.isSixth { stood:={ row:=r,standIns:=[],harness:=har,looks:=lk },kinds:=[] }=false:=fun r=>by simpa [Claim7.isSixth] using hn
 refine ⟨Claim7.tied_new_at Lk kinds tests (Claim7.new_of_sixth hc har lk hst hnb hm (h6 c) hl) hw,fun D hD=>?_,htie,(fun h=>by cases h),hg⟩
 exact Claim7.tied_new_at Lk kinds tests (Claim7.new_of_sixth (hal D hD) har lk hst hnb hm (h6 _) hl) (hwal D hD)
theorem splays_f0:(Rows.scriptPlaysRow.wf (OpenSpec.ofChange Rows.scriptPlaysSpec))=true:=by kernel_rfl
theorem splays_f1:(laidOutB Tryz.prog)=true:=by kernel_rfl
theorem splays_f2:(mapsRowed Tryz.prog)=true:=by kernel_rfl
theorem splays_f3:(Tryz.f5.params.all (Tryz.prog.readableRec ·))=true:=by kernel_rfl
theorem splays_f4:(namedTie Tryz.prog Rows.scriptPlaysRow.named Rows.scriptPlaysSpec.vars)=true:=by kernel_rfl
theorem splays_f5:((Rows.scriptPlaysRow.stops == []))=true:=by kernel_rfl
theorem splays_f6:((Tryz.prog.stops == []))=true:=by kernel_rfl
theorem splays_f7:((Rows.scriptPlaysRow.knobs == []))=true:=by kernel_rfl
theorem splays_f8:((Tryz.prog.stopKnobs == []))=true:=by kernel_rfl
theorem splays_f9:((Rows.scriptPlaysRow.inPlace == Tryz.prog.inPlace 5))=true:=by kernel_rfl
theorem splays_f10:((Rows.scriptPlaysRow.unfollowed == Tryz.prog.unfollowed 5))=true:=by kernel_rfl
theorem splays_f11:((Rows.scriptPlaysRow.recurses == Tryz.prog.recurses 5))=true:=by kernel_rfl
theorem splays_f12:((Rows.scriptPlaysRow.named == Tryz.prog.varsNamed 5))=true:=by kernel_rfl
theorem splays_f13:((Rows.scriptPlaysRow.maps == (Tryz.f5.params.toList ++ Rows.scriptPlaysSpec.plain.varTypes Tryz.prog).any (Tryz.prog.mapsRec ·)))=true:=by kernel_rfl
theorem splays_f14:((Rows.scriptPlaysRow.ifaces == (Tryz.f5.params.toList ++ Rows.scriptPlaysSpec.plain.varTypes Tryz.prog).any (Tryz.prog.ifacesRec ·)))=true:=by kernel_rfl
theorem splays_f15:((Rows.scriptPlaysRow.mapsOut == Tryz.prog.mapsAmong Tryz.f5.resultTypes.toList))=true:=by kernel_rfl
theorem splays_f16:((Rows.scriptPlaysRow.loops == (Tryz.f5.params.toList ++ Rows.scriptPlaysSpec.plain.varTypes Tryz.prog).any (Tryz.prog.loopsFrom ·)))=true:=by kernel_rfl
theorem splays_f17:((Rows.scriptPlaysRow.wideKeys == (Tryz.f5.params.toList ++ Rows.scriptPlaysSpec.plain.varTypes Tryz.prog ++ Tryz.f5.resultTypes.toList).any (Tryz.prog.wideKeysFrom ·)))=true:=by kernel_rfl
theorem splays_f18:(Rows.scriptPlaysSpec.vars.all (Tryz.prog.varReadable ·))=true:=by kernel_rfl
theorem splays_f19:(Tryz.f5.resultTypes.all (fun t=>Tryz.prog.readableRec t && decide (t<Tryz.prog.types.size)))=true:=by kernel_rfl
theorem splays_f20:((Rows.scriptPlaysRow.ifacesOut == Tryz.f5.resultTypes.toList.any (Tryz.prog.ifacesRec ·)))=true:=by kernel_rfl
theorem splays_f21:((Rows.scriptPlaysRow.loopsOut == Tryz.f5.resultTypes.toList.any (Tryz.prog.loopsFrom ·)))=true:=by kernel_rfl
theorem splays_f22:((Rows.scriptPlaysRow.plainKeys == Tryz.prog.plainKeys))=true:=by kernel_rfl
theorem splays_f23:(Rows.scriptPlaysRow.shortTexts.isNone)=true:=by kernel_rfl
theorem splays_f24:(Tryz.prog.stopsHeard)=true:=by kernel_rfl
theorem splays_f25:(Tryz.prog.mayEnter)=true:=by kernel_rfl
theorem splays_f26:((Rows.scriptPlaysRow.lifted == Tryz.prog.liftsFinal))=true:=by kernel_rfl
theorem splays_f27:((Tryz.prog.make == some Rows.scriptPlaysRow.make))=true:=by kernel_rfl
theorem splays_f28:((Rows.scriptPlaysRow.kinds == (if Rows.scriptPlaysRow.domain.isEmpty then [] else Tryz.f5.params.toList.map fun t=>match Tryz.prog.underlying t with|some (.int k)=>some k|_=>none)))=true:=by kernel_rfl
theorem splays_f29:((Rows.scriptPlaysRow.pinned == Rows.scriptPlaysRow.pinnedBy))=true:=by kernel_rfl
theorem splays_f30:((Rows.scriptPlaysRow.veiled == (Tryz.f5.params.toList ++ Rows.scriptPlaysSpec.plain.varTypes Tryz.prog ++ Tryz.f5.resultTypes.toList).any (Tryz.prog.veiledRec ·)))=true:=by kernel_rfl
theorem splays_f31:(Rows.scriptPlaysRow.veiledFits Tryz.prog Tryz.f5.params.toList (Tryz.f5.params.toList ++ Rows.scriptPlaysSpec.plain.varTypes Tryz.prog ++ Tryz.f5.resultTypes.toList))=true:=by kernel_rfl
theorem splays_closed:joinedFacts Tryz.prog 5 Tryz.f5 Rows.scriptPlaysSpec Rows.scriptPlaysRow=true:=by
 unfold joinedFacts
 rw [splays_f0,splays_f1,splays_f2,splays_f3,splays_f4,splays_f5,splays_f6,splays_f7,splays_f8,splays_f9,splays_f10,splays_f11,splays_f12,splays_f13,splays_f14,splays_f15,splays_f16,splays_f17,splays_f18,splays_f19,splays_f20,splays_f21,splays_f22,splays_f23,splays_f24,splays_f25,splays_f26,splays_f27]
 simp only [Bool.true_and,Bool.and_eq_true]
 exact ⟨⟨⟨splays_f28,splays_f29⟩,splays_f30⟩,splays_f31⟩
end Go.Proofs.YtaehdgemkafinaaGreatDoor
