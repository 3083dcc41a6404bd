/-
  On the way to WStepsProof, WCommitsProof, WAgreesProof, WEndsProof, WWaitsProof, JTampersProof, PAgreesProof, PAgainProof: PB J0 S0 J1 JD.
-/
import Derived.Lib.AppendStr
import Derived.Laws.Strings2
import Derived.Laws.IdiomStrings
set_option maxHeartbeats 8000000
set_option maxRecDepth 100000
namespace Go.Proofs.YtadhpkopkkjmfaaGreatDoor
def putB (B:ByteArray) (a:Nat) (s:ByteArray) (k:Nat):ByteArray:=B.extract 0 a ++ s.extract 0 k ++ B.extract (a+k) B.size
theorem ext_list (B:ByteArray) (i j:Nat):(B.extract i j).data.toList=(B.data.toList.drop i).take (j - i):=by
 have h:=ByteArray.extract_mk B.data.toList i j
 have e:ByteArray.mk B.data.toList.toArray=B:=by cases B; simp
 rw [e] at h
 rw [h]
theorem size_list (B:ByteArray):B.size=B.data.toList.length:=rfl
theorem putB_list (B:ByteArray) (a:Nat) (s:ByteArray) (k:Nat):(putB B a s k).data.toList=B.data.toList.take a ++ s.data.toList.take k ++ B.data.toList.drop (a+k):=by
 unfold putB
 rw [ByteArray.data_append,ByteArray.data_append,Array.toList_append,Array.toList_append,ext_list,ext_list,ext_list]
 simp only [List.drop_zero,Nat.sub_zero]
 congr 1
 rw [List.take_of_length_le]
 rw [List.length_drop,size_list]
 exact Nat.le_refl _
theorem size_putB {B:ByteArray} {a:Nat} {s:ByteArray} {k:Nat} (h:a+k≤B.size) (hk:k≤s.size):(putB B a s k).size=B.size:=by
 rw [size_list] at h hk
 rw [size_list,size_list,putB_list]
 simp only [List.length_append,List.length_take,List.length_drop]
 omega
theorem ba_ext {X Y:ByteArray} (h:X.data.toList=Y.data.toList):X=Y:=ByteArray.ext (Array.ext' h)
theorem putB_zero {B:ByteArray} {a:Nat} {s:ByteArray}:putB B a s 0=B:=by
 apply ba_ext
 rw [putB_list]
 simp
theorem put_step {α:Type} (L S:List α) (a k:Nat) (d:α) (h:a+k<L.length) (hk:k<S.length) :
  L.take a ++ S.take (k+1) ++ L.drop (a+(k+1))=(L.take a ++ S.take k ++ L.drop (a+k)).set (a+k) (S.getD k d):=by
 apply List.ext_getElem?
 intro j
 simp only [List.getElem?_set,List.getElem?_append,List.length_append,List.length_take,List.getElem?_take,List.getElem?_drop,List.length_drop]
 have e1:min a L.length=a:=by omega
 have e2:min (k+1) S.length=k+1:=by omega
 have e3:min k S.length=k:=by omega
 simp only [e1,e2,e3]
 rcases Nat.lt_trichotomy j (a+k) with h1|h1|h1
 ·by_cases h2:j<a
  ·simp [h2,show j<a+(k+1) by omega,show ¬ a+k=j by omega,show j<a+k by omega]
  ·simp [h2,show j<a+(k+1) by omega,show ¬ a+k=j by omega,show j<a+k by omega,show j - a<k+1 by omega,show j - a<k by omega]
 ·subst h1
  simp [show a+k<a+(k+1) by omega,show a+k - a=k by omega,show k<k+1 by omega,hk,List.getD]
  rw [if_neg (by omega),if_pos (by omega)]
 ·simp [show ¬ j<a+(k+1) by omega,show ¬ a+k=j by omega,show ¬ j<a+k by omega]
  congr 1
  omega
theorem getB {s:ByteArray} {k:Nat} (hk:k<s.size):s[k]'hk=s.data.toList[k]'hk:=by
 have:s[k]'hk=s.data[k]'hk:=rfl
 rw [this,← Array.getElem_toList]
theorem putB_succ {B:ByteArray} {a:Nat} {s:ByteArray} {k:Nat} (h:a+k<B.size) (hk:k<s.size) :
  (Lib.strCells (putB B a s (k+1))).toArray=(Lib.strCells (putB B a s k)).toArray.setIfInBounds (a+k) (.int .u8 ((s[k]'hk).toNat:Int)):=by
 apply Array.ext'
 rw [size_list] at h
 have hk':=hk
 rw [size_list] at hk'
 simp only [Lib.strCells,Array.toList_setIfInBounds]
 rw [putB_list,putB_list,put_step _ _ a k 0 h hk',List.map_set]
 congr 1
 rw [getB hk,List.getD_eq_getElem?_getD,List.getElem?_eq_getElem hk']
 rfl
theorem strCells_at {B:ByteArray} {j:Nat} (h:j<B.size):(Lib.strCells B)[j]? = some (.int .u8 ((B[j]'h).toNat:Int)):=by
 rw [Lib.strCells,List.getElem?_map,List.getElem?_eq_getElem h,getB h]
 rfl
def wideL (n:Nat):Nat→List UInt8
 | 0=>[]
 | k+1=>wideL (n / 256) k ++ [UInt8.ofNat (n % 256)]
theorem wideL_length (k:Nat):∀ n,(wideL n k).length=k:=by
 induction k with
 | zero=>intro n; rfl
 | succ k ih=>intro n; simp [wideL,ih]
def numL (l:List UInt8):Nat:=l.foldl (fun n b=>256 * n+b.toNat) 0
theorem numL_snoc (l:List UInt8) (b:UInt8):numL (l ++ [b])=256 * numL l+b.toNat:=by simp [numL]
theorem numL_wide (k:Nat):∀ n,numL (wideL n k)=n % 256 ^ k:=by
 induction k with
 | zero=>intro n; simp [wideL,numL,Nat.mod_one]
 | succ k ih =>
  intro n
  rw [wideL,numL_snoc,ih]
  have h:(UInt8.ofNat (n % 256)).toNat=n % 256:=by simp
  rw [h,Nat.pow_succ,Nat.mul_comm (256 ^ k) 256,Nat.mod_mul]
  omega
theorem numL_lt (l:List UInt8):numL l<256 ^ l.length:=by
 have gen:∀ r:List UInt8,numL r.reverse<256 ^ r.length:=by
  intro r
  induction r with
  | nil=>simp [numL]
  | cons b r ih =>
   rw [List.reverse_cons,numL_snoc,List.length_cons,Nat.pow_succ]
   have hb:=UInt8.toNat_lt b
   omega
 have:=gen l.reverse
 rwa [List.reverse_reverse,List.length_reverse] at this
def crcBit (c b k:Nat):Nat:=if (c ^^^ (b / 2 ^ k)) % 2=1 then (c / 2) ^^^ 3988292384 else c / 2
def crcBits (c b:Nat):Nat→Nat
 | 0=>c
 | k+1=>crcBit (crcBits c b k) b k
def crcFold (c:Nat):List UInt8→Nat
 | []=>c
 | b :: l=>crcFold (crcBits c b.toNat 8) l
def crcL (l:List UInt8):Nat:=crcFold 4294967295 l ^^^ 4294967295
theorem crcBit_lt {c:Nat} (h:c<4294967296) (b k:Nat):crcBit c b k<4294967296:=by
 unfold crcBit
 split
 ·exact Nat.xor_lt_two_pow (n:=32) (by omega) (by decide)
 ·omega
theorem crcBits_lt {c:Nat} (h:c<4294967296) (b:Nat):∀ k,crcBits c b k<4294967296
 | 0=>h
 | k+1=>crcBit_lt (crcBits_lt h b k) b k
theorem crcFold_lt:∀ (l:List UInt8) {c:Nat},c<4294967296→crcFold c l<4294967296
 | [],_,h=>h
 | b :: l,_,h=>crcFold_lt l (crcBits_lt h b.toNat 8)
theorem crcL_lt (l:List UInt8):crcL l<4294967296:=Nat.xor_lt_two_pow (n:=32) (crcFold_lt l (by decide)) (by decide)
theorem crcFold_snoc (b:UInt8):∀ (l:List UInt8) (c:Nat),crcFold c (l ++ [b])=crcBits (crcFold c l) b.toNat 8
 | [],_=>rfl
 | x :: l,c=>crcFold_snoc b l (crcBits c x.toNat 8)
structure St where
 ph:Nat
 pr:Nat
 at_:Nat
def stSame (a b:St):Bool:=decide (a.ph=b.ph∧a.pr=b.pr∧a.at_=b.at_)
theorem stSame_true {a b:St} (h:stSame a b=true):a=b:=by
 obtain ⟨h1,h2,h3⟩:=of_decide_eq_true h
 cases a; cases b
 cases h1; cases h2; cases h3; rfl
theorem stSame_false {a b:St} (h:stSame a b=false):¬ a=b:=fun e=>of_decide_eq_false h (by subst e; exact ⟨rfl,rfl,rfl⟩)
def stEq (a b:St):Decidable (a=b):=if h:stSame a b=true then .isTrue (stSame_true h) else .isFalse (stSame_false (Bool.eq_false_iff.2 h))
def St.zero:St:=⟨0,0,0⟩
def St.fits (s:St):Prop:=s.ph<256∧s.pr<4294967296∧s.at_<4294967296
def textL (n:Nat) (s:St):List UInt8:=wideL n 4 ++ wideL s.ph 1 ++ wideL s.pr 4 ++ wideL s.at_ 4
def bodyL (n:Nat) (s:St):List UInt8:=textL n s ++ wideL (crcL (textL n s)) 4
theorem textL_length (n:Nat) (s:St):(textL n s).length=13:=by simp [textL,wideL_length]
theorem bodyL_length (n:Nat) (s:St):(bodyL n s).length=17:=by simp [bodyL,textL_length,wideL_length]
def readN (t:List UInt8):Nat:=numL (t.take 4)
def readS (t:List UInt8):St:=⟨numL ((t.drop 4).take 1),numL ((t.drop 5).take 4),numL ((t.drop 9).take 4)⟩
def heldL (k:Nat) (t:List UInt8):Nat×St:=if 1≤readN t∧readN t % 2=k % 2∧bodyL (readN t) (readS t) ++ [165]=t then (readN t,readS t) else (0,St.zero)
theorem take_app {α:Type} {a b:List α} {n:Nat} (h:a.length=n):(a ++ b).take n=a:=by rw [← h]; simp
theorem drop_app {α:Type} {a b:List α} {n:Nat} (h:a.length=n):(a ++ b).drop n=b:=by rw [← h]; simp
theorem readN_body (n:Nat) (s:St) (r:List UInt8) (hn:n<4294967296):readN (bodyL n s ++ r)=n:=by
 unfold readN bodyL textL
 rw [List.append_assoc,List.append_assoc,List.append_assoc,List.append_assoc,take_app (wideL_length 4 n),numL_wide]
 exact Nat.mod_eq_of_lt hn
theorem readS_body (n:Nat) (s:St) (r:List UInt8) (hs:s.fits):readS (bodyL n s ++ r)=s:=by
 obtain ⟨h1,h2,h3⟩:=hs
 have e:bodyL n s ++ r=wideL n 4 ++ (wideL s.ph 1 ++ (wideL s.pr 4 ++ (wideL s.at_ 4 ++ (wideL (crcL (textL n s)) 4 ++ r)))):=by simp [bodyL,textL]
 have d4:(bodyL n s ++ r).drop 4=wideL s.ph 1 ++ (wideL s.pr 4 ++ (wideL s.at_ 4 ++ (wideL (crcL (textL n s)) 4 ++ r))):=by rw [e,drop_app (wideL_length 4 n)]
 have d5:(bodyL n s ++ r).drop 5=wideL s.pr 4 ++ (wideL s.at_ 4 ++ (wideL (crcL (textL n s)) 4 ++ r)):=by
  rw [show (5:Nat)=4+1 from rfl,← List.drop_drop,d4,drop_app (wideL_length 1 _)]
 have d9:(bodyL n s ++ r).drop 9=wideL s.at_ 4 ++ (wideL (crcL (textL n s)) 4 ++ r):=by
  rw [show (9:Nat)=5+4 from rfl,← List.drop_drop,d5,drop_app (wideL_length 4 _)]
 unfold readS
 rw [d4,d5,d9,take_app (wideL_length 1 _),take_app (wideL_length 4 _),take_app (wideL_length 4 _),numL_wide,numL_wide,numL_wide,Nat.mod_eq_of_lt (by simpa using h1),Nat.mod_eq_of_lt (by simpa using h2),Nat.mod_eq_of_lt (by simpa using h3)]
theorem heldL_body (k n:Nat) (s:St) (h1:1≤n) (hn:n<4294967296) (hk:n % 2=k % 2) (hs:s.fits):heldL k (bodyL n s ++ [165])=(n,s):=by
 unfold heldL
 rw [readN_body n s _ hn,readS_body n s _ hs,if_pos ⟨h1,hk,rfl⟩]
theorem heldL_torn (k:Nat) (t:List UInt8) (b:UInt8) (h:t.getLast? = some b) (hb:b≠165):heldL k t=(0,St.zero):=by
 unfold heldL
 rw [if_neg]
 rintro ⟨_,_,h3⟩
 rw [← h3] at h
 simp at h
 exact hb h.symm
theorem heldL_parity (k:Nat) (t:List UInt8) (h:(heldL k t).1≠0):(heldL k t).1 % 2=k % 2:=by
 unfold heldL at h ⊢
 split
 ·rename_i g; exact g.2.1
 ·rename_i g; rw [if_neg g] at h; exact absurd rfl h
theorem heldL_zero (k:Nat) (t:List UInt8) (h:(heldL k t).1=0):heldL k t=(0,St.zero):=by
 unfold heldL at h ⊢
 split
 ·rename_i g; rw [if_pos g] at h; exact absurd h (by have:=g.1; omega)
 ·rfl
theorem readN_lt (t:List UInt8):readN t<4294967296:=by
 have h:=numL_lt (t.take 4)
 have h2:(t.take 4).length≤4:=by simp; omega
 have h3:256 ^ (t.take 4).length≤256 ^ 4:=Nat.pow_le_pow_right (by decide) h2
 unfold readN
 have h4:(256:Nat) ^ 4=4294967296:=by decide
 omega
theorem heldL_lt (k:Nat) (t:List UInt8):(heldL k t).1<4294967296:=by
 unfold heldL
 split
 ·exact readN_lt t
 ·decide
structure HOut where
 st:St
 k:Nat
 yes:Bool
def finB (p:Nat):Bool:=decide (p=2 ∨ p=3)
def askP (s:St) (ref:Bool):Nat:=if s.ph=0 then (if ref=true then 3 else 1) else s.ph
def hearL (s:St) (ref:Bool) (k a ph:Nat):HOut :=
 if k=1 then ⟨⟨askP s ref,s.pr,s.at_⟩,2,decide (askP s ref≠3)⟩
 else if k=3 then (if s.pr<a then ⟨⟨s.ph,a,s.at_⟩,4,true⟩ else ⟨s,4,false⟩)
 else if k=5 then (if ph=4 ∨ ph=5 then (if s.pr≤a∧finB s.ph=false then ⟨⟨ph,a,a⟩,6,true⟩ else ⟨s,6,false⟩) else ⟨s,0,false⟩)
 else if k=7 then (if finB ph=true∧finB s.ph=false then ⟨⟨ph,s.pr,s.at_⟩,0,false⟩ else ⟨s,0,false⟩)
 else ⟨s,0,false⟩
def St.good (s:St):Prop:=s.ph≤5∧s.pr≤1048576∧s.at_≤s.pr
def mayN (a b:Nat):Prop:=a≤5∧b≤5∧(a=b ∨ a=0 ∨ (a=1∧b≠0) ∨ ((a=4 ∨ a=5)∧b≠0∧b≠1))
theorem hear_good (s:St) (ref:Bool) (k a ph:Nat) (h:s.good) (ha:a≤1048576) (hp:ph≤5):(hearL s ref k a ph).st.good∧s.pr≤(hearL s ref k a ph).st.pr∧s.at_≤(hearL s ref k a ph).st.at_∧mayN s.ph (hearL s ref k a ph).st.ph:=by
 obtain ⟨h1,h2,h3⟩:=h
 unfold hearL
 repeat' split
 ·unfold askP St.good mayN
  simp only
  refine ⟨⟨?_,h2,h3⟩,Nat.le_refl _,Nat.le_refl _,h1,?_,?_⟩
  ·repeat' split
   all_goals omega
  ·repeat' split
   all_goals omega
  ·repeat' split
   all_goals omega
 ·rename_i hlt
  exact ⟨⟨h1,ha,by show s.at_≤a; omega⟩,by show s.pr≤a; omega,Nat.le_refl _,h1,h1,.inl rfl⟩
 ·exact ⟨⟨h1,h2,h3⟩,Nat.le_refl _,Nat.le_refl _,h1,h1,.inl rfl⟩
 ·rename_i hph hpr
  obtain ⟨hpr,hf⟩:=hpr
  have hf2:=of_decide_eq_false hf
  refine ⟨⟨hp,ha,Nat.le_refl _⟩,hpr,by show s.at_≤a; omega,h1,hp,?_⟩
  show s.ph=ph ∨ s.ph=0 ∨ (s.ph=1∧ph≠0) ∨ ((s.ph=4 ∨ s.ph=5)∧ph≠0∧ph≠1)
  omega
 ·exact ⟨⟨h1,h2,h3⟩,Nat.le_refl _,Nat.le_refl _,h1,h1,.inl rfl⟩
 ·exact ⟨⟨h1,h2,h3⟩,Nat.le_refl _,Nat.le_refl _,h1,h1,.inl rfl⟩
 ·rename_i hf
  have e1:=of_decide_eq_true hf.1
  have e2:=of_decide_eq_false hf.2
  refine ⟨⟨hp,h2,h3⟩,Nat.le_refl _,Nat.le_refl _,h1,hp,?_⟩
  show s.ph=ph ∨ s.ph=0 ∨ (s.ph=1∧ph≠0) ∨ ((s.ph=4 ∨ s.ph=5)∧ph≠0∧ph≠1)
  omega
 ·exact ⟨⟨h1,h2,h3⟩,Nat.le_refl _,Nat.le_refl _,h1,h1,.inl rfl⟩
 ·exact ⟨⟨h1,h2,h3⟩,Nat.le_refl _,Nat.le_refl _,h1,h1,.inl rfl⟩
def putL (L:List UInt8) (a:Nat) (S:List UInt8):List UInt8:=L.take a ++ S ++ L.drop (a+S.length)
theorem putL_length {L S:List UInt8} {a:Nat} (h:a+S.length≤L.length):(putL L a S).length=L.length:=by
 simp [putL]; omega
theorem putL_nil (L:List UInt8) (a:Nat):putL L a []=L:=by simp [putL]
theorem putL_get {L S:List UInt8} {a:Nat} (h:a+S.length≤L.length) (j:Nat):(putL L a S)[j]? = if a≤j∧j<a+S.length then S[j - a]? else L[j]?:=by
 unfold putL
 have e:min a L.length=a:=by omega
 simp only [List.getElem?_append,List.length_append,List.length_take,List.getElem?_take,List.getElem?_drop,e]
 rcases Nat.lt_or_ge j a with h1|h1
 ·rw [if_pos (by omega),if_pos h1,if_pos h1,if_neg (by omega)]
 ·rcases Nat.lt_or_ge j (a+S.length) with h2|h2
  ·rw [if_pos h2,if_neg (by omega),if_pos ⟨h1,h2⟩]
  ·rw [if_neg (by omega),if_neg (by omega)]
   congr 1
   omega
theorem putB_putL {B s:ByteArray} {a k:Nat} (hk:k≤s.size):(putB B a s k).data.toList=putL B.data.toList a (s.data.toList.take k):=by
 rw [putB_list]
 unfold putL
 rw [size_list] at hk
 rw [List.length_take,Nat.min_eq_left hk]
def slotL (L:List UInt8) (k:Nat):List UInt8:=(L.drop (18 * k)).take 18
theorem slotL_get (L:List UInt8) (k j:Nat):(slotL L k)[j]? = if j<18 then L[18 * k+j]? else none:=by
 unfold slotL
 rw [List.getElem?_take,List.getElem?_drop]
theorem slotL_length {L:List UInt8} {k:Nat} (h:18 * (k+1)≤L.length):(slotL L k).length=18:=by
 simp [slotL]; omega
def dealL (L:List UInt8) (d:Nat):Nat×St :=
 if (heldL (2 * d) (slotL L (2 * d))).1<(heldL (2 * d+1) (slotL L (2 * d+1))).1 then heldL (2 * d+1) (slotL L (2 * d+1)) else heldL (2 * d) (slotL L (2 * d))
structure Only (L:List UInt8) (k:Nat) (L':List UInt8):Prop where
 len:L'.length=L.length
 other:∀ j,j≠k→slotL L' j=slotL L j
theorem Only.refl (L:List UInt8) (k:Nat):Only L k L:=⟨rfl,fun _ _=>rfl⟩
theorem Only.trans {L L' L'':List UInt8} {k:Nat} (h:Only L k L') (g:Only L' k L''):Only L k L'':=⟨g.len.trans h.len,fun j hj=>(g.other j hj).trans (h.other j hj)⟩
theorem only_put {L S:List UInt8} {k i:Nat} (hk:18 * (k+1)≤L.length) (hi:i+S.length≤18):Only L k (putL L (18 * k+i) S):=by
 refine ⟨putL_length (by omega),fun j hj=>?_⟩
 apply List.ext_getElem?
 intro m
 rw [slotL_get,slotL_get]
 split
 ·rw [putL_get (by omega),if_neg (by omega)]
 ·rfl
theorem slot_put {L S:List UInt8} {k i:Nat} (hk:18 * (k+1)≤L.length) (hi:i+S.length≤18):slotL (putL L (18 * k+i) S) k=putL (slotL L k) i S:=by
 apply List.ext_getElem?
 intro m
 rw [slotL_get,putL_get (by omega),putL_get (by rw [slotL_length hk]; omega),slotL_get]
 by_cases h:m<18
 ·rw [if_pos h,if_pos h]
  by_cases g:i≤m∧m<i+S.length
  ·rw [if_pos (by omega),if_pos g]
   congr 1
   omega
  ·rw [if_neg (by omega),if_neg g]
 ·rw [if_neg h,if_neg h,if_neg (by omega)]
def Torn (L:List UInt8) (k:Nat) (L':List UInt8):Prop:=Only L k L'∧(slotL L' k=slotL L k ∨ ∃ b:UInt8,b≠165∧(slotL L' k)[17]? = some b)
def Done (L:List UInt8) (k n:Nat) (s:St) (L':List UInt8):Prop:=Only L k L'∧slotL L' k=bodyL n s ++ [165]
def nextK (d m:Nat):Nat:=2 * d+(m+1) % 2
theorem last_of_17 {t:List UInt8} {b:UInt8} (hl:t.length=18) (h:t[17]? = some b):t.getLast? = some b:=by rw [List.getLast?_eq_getElem?,hl]; exact h
theorem deal_other {L L':List UInt8} {d m e:Nat} (h:Only L (nextK d m) L') (he:e≠d):dealL L' e=dealL L e:=by
 unfold nextK at h
 unfold dealL
 rw [h.other (2 * e) (by omega),h.other (2 * e+1) (by omega)]
theorem deal_torn {L L':List UInt8} {d:Nat} (hL:36 * (d+1)≤L.length) (h:Torn L (nextK d (dealL L d).1) L'):dealL L' d=dealL L d:=by
 obtain ⟨ho,hs⟩:=h
 rcases hs with hs|⟨b,hb,hg⟩
 ·have all:∀ j,slotL L' j=slotL L j:=fun j=>by
   by_cases hj:j=nextK d (dealL L d).1
   ·rw [hj]; exact hs
   ·exact ho.other j hj
  unfold dealL
  rw [all,all]
 ·have hk:18 * (nextK d (dealL L d).1+1)≤L'.length:=by rw [ho.len]; unfold nextK; omega
  have ht:=fun k=>heldL_torn k _ b (last_of_17 (slotL_length hk) hg) hb
  have pa:=heldL_parity (2 * d) (slotL L (2 * d))
  have pb:=heldL_parity (2 * d+1) (slotL L (2 * d+1))
  have za:=heldL_zero (2 * d) (slotL L (2 * d))
  have zb:=heldL_zero (2 * d+1) (slotL L (2 * d+1))
  unfold nextK at ho ht
  unfold dealL at ho ht ⊢
  by_cases c:(heldL (2 * d) (slotL L (2 * d))).1<(heldL (2 * d+1) (slotL L (2 * d+1))).1
  ·rw [if_pos c] at ho ht ⊢
   have p:=pb (by omega)
   have e:((heldL (2 * d+1) (slotL L (2 * d+1))).1+1) % 2=0:=by omega
   rw [e,Nat.add_zero] at ho ht
   rw [ho.other (2 * d+1) (by omega),ht (2 * d),if_pos (by show 0<_; omega)]
  ·rw [if_neg c] at ho ht ⊢
   by_cases z:(heldL (2 * d) (slotL L (2 * d))).1=0
   ·have e:((heldL (2 * d) (slotL L (2 * d))).1+1) % 2=1:=by omega
    rw [e] at ho ht
    rw [ho.other (2 * d) (by omega),ht (2 * d+1),if_neg (by show ¬ _<0; omega)]
   ·have p:=pa z
    have e:((heldL (2 * d) (slotL L (2 * d))).1+1) % 2=1:=by omega
    rw [e] at ho ht
    rw [ho.other (2 * d) (by omega),ht (2 * d+1),if_neg (by show ¬ _<0; omega)]
theorem deal_done {L L':List UInt8} {d:Nat} {s:St} (hn:(dealL L d).1+1<4294967296) (hs:s.fits) (h:Done L (nextK d (dealL L d).1) ((dealL L d).1+1) s L'):dealL L' d=((dealL L d).1+1,s):=by
 obtain ⟨ho,hb⟩:=h
 have le:(heldL (2 * d) (slotL L (2 * d))).1≤(dealL L d).1∧(heldL (2 * d+1) (slotL L (2 * d+1))).1≤(dealL L d).1:=by
  unfold dealL; split <;> omega
 have hh:=fun k (hk:((dealL L d).1+1) % 2=k % 2)=>heldL_body k ((dealL L d).1+1) s (by omega) hn hk hs
 generalize dealL L d=m at *
 unfold nextK at ho hb
 unfold dealL
 rcases Nat.mod_two_eq_zero_or_one (m.1+1) with e|e
 ·rw [e,Nat.add_zero] at ho hb
  rw [ho.other (2 * d+1) (by omega),hb,hh (2 * d) (by omega),if_neg (by show ¬ m.1+1<_; omega)]
 ·rw [e] at ho hb
  rw [ho.other (2 * d) (by omega),hb,hh (2 * d+1) (by omega),if_pos (by show _<m.1+1; omega)]
def Wr (L:List UInt8) (a:Nat) (S:List UInt8) (L':List UInt8) (c:Nat):Prop:=(c=0∧L'=putL L a S) ∨ (c=6∧∃ t,t<S.length∧L'=putL L a (S.take t))
def Zeroed (L:List UInt8) (k:Nat) (L':List UInt8):Prop:=Only L k L'∧(slotL L' k)[17]? = some 0
theorem Zeroed.torn {L L':List UInt8} {k:Nat} (h:Zeroed L k L'):Torn L k L':=⟨h.1,.inr ⟨0,by decide,h.2⟩⟩
theorem zero_skip {L:List UInt8} {k:Nat} (h:L[18 * k+17]? = some 0):Zeroed L k L:=⟨Only.refl _ _,by rw [slotL_get]; exact h⟩
theorem zero_wr {L L':List UInt8} {k c:Nat} (hk:18 * (k+1)≤L.length) (h:Wr L (18 * k+17) [0] L' c):(c=0∧Zeroed L k L') ∨ (c=6∧Torn L k L'):=by
 rcases h with ⟨rfl,rfl⟩|⟨rfl,t,ht,rfl⟩
 ·refine .inl ⟨rfl,only_put hk (by simp),?_⟩
  rw [slot_put hk (by simp),putL_get (by rw [slotL_length hk]; simp)]
  rfl
 ·obtain rfl:t=0:=by simpa using ht
  rw [List.take_zero,putL_nil]
  exact .inr ⟨rfl,Only.refl _ _,.inl rfl⟩
def Bodied (L:List UInt8) (k n:Nat) (s:St) (L':List UInt8):Prop:=Only L k L'∧slotL L' k=bodyL n s ++ [0]
theorem Bodied.torn {L L':List UInt8} {k n:Nat} {s:St} (h:Bodied L k n s L'):Torn L k L':=⟨h.1,.inr ⟨0,by decide,by rw [h.2,List.getElem?_append_right (by rw [bodyL_length]; omega),bodyL_length]; rfl⟩⟩
theorem body_wr {L L0 L':List UInt8} {k n c:Nat} {s:St} (hk:18 * (k+1)≤L.length) (h0:Zeroed L k L0) (h:Wr L0 (18 * k) (bodyL n s) L' c):(c=0∧Bodied L k n s L') ∨ (c=6∧Torn L k L'):=by
 have hk0:18 * (k+1)≤L0.length:=by rw [h0.1.len]; exact hk
 have hb:=bodyL_length n s
 rcases h with ⟨rfl,rfl⟩|⟨rfl,t,ht,rfl⟩
 ·refine .inl ⟨rfl,h0.1.trans (only_put (i:=0) hk0 (by omega)),?_⟩
  have e:=slot_put (S:=bodyL n s) (i:=0) hk0 (by omega)
  rw [Nat.add_zero] at e
  rw [e]
  apply List.ext_getElem?
  intro m
  rw [putL_get (by rw [slotL_length hk0]; omega),List.getElem?_append,hb]
  by_cases g:m<17
  ·rw [if_pos (by omega),if_pos g,Nat.sub_zero]
  ·rw [if_neg (by omega),if_neg g]
   by_cases g2:m=17
   ·subst g2; rw [h0.2]; rfl
   ·rw [slotL_get,if_neg (by omega),List.getElem?_eq_none (by simp; omega)]
 ·refine .inr ⟨rfl,h0.1.trans (only_put (i:=0) hk0 (by simp; omega)),.inr ⟨0,by decide,?_⟩⟩
  have e:=slot_put (S:=(bodyL n s).take t) (i:=0) hk0 (by simp; omega)
  rw [Nat.add_zero] at e
  rw [e,putL_get (by rw [slotL_length hk0]; simp; omega),if_neg (by simp; omega)]
  exact h0.2
theorem last_wr {L L1 L':List UInt8} {k n c:Nat} {s:St} (hk:18 * (k+1)≤L.length) (h1:Bodied L k n s L1) (h:Wr L1 (18 * k+17) [165] L' c):(c=0∧Done L k n s L') ∨ (c=6∧Torn L k L'):=by
 have hk1:18 * (k+1)≤L1.length:=by rw [h1.1.len]; exact hk
 rcases h with ⟨rfl,rfl⟩|⟨rfl,t,ht,rfl⟩
 ·refine .inl ⟨rfl,h1.1.trans (only_put hk1 (by simp)),?_⟩
  rw [slot_put hk1 (by simp),h1.2]
  unfold putL
  rw [take_app (bodyL_length n s)]
  simp [bodyL_length]
 ·obtain rfl:t=0:=by simpa using ht
  rw [List.take_zero,putL_nil]
  exact .inr ⟨rfl,h1.torn⟩
def devBit (c:Nat):Nat:=if c % 2=1 then (c / 2) ^^^ 3988292384 else c / 2
def devBits (c:Nat):Nat→Nat
 | 0=>c
 | k+1=>devBit (devBits c k)
theorem xor_half (x y:Nat):(x ^^^ y) / 2=x / 2 ^^^ y / 2:=by
 apply Nat.eq_of_testBit_eq
 intro i
 simp [Nat.testBit_xor,Nat.testBit_div_two]
theorem dev_step (c b k:Nat):devBit (c ^^^ b / 2 ^ k)=crcBit c b k ^^^ b / 2 ^ (k+1):=by
 have e:b / 2 ^ k / 2=b / 2 ^ (k+1):=by rw [Nat.div_div_eq_div_mul,Nat.pow_succ]
 unfold devBit crcBit
 split
 ·rw [xor_half,e,Nat.xor_assoc,Nat.xor_assoc,Nat.xor_comm 3988292384]
 ·rw [xor_half,e]
theorem dev_bits (c b:Nat):∀ k,devBits (c ^^^ b) k=crcBits c b k ^^^ b / 2 ^ k
 | 0=>by simp [devBits,crcBits]
 | k+1=>by rw [devBits,dev_bits c b k,dev_step]; rfl
theorem dev_eight (c:Nat) (b:UInt8):devBits (c ^^^ b.toNat) 8=crcBits c b.toNat 8:=by
 rw [dev_bits]
 have h:=UInt8.toNat_lt b
 rw [show b.toNat / 2 ^ 8=0 by omega,Nat.xor_zero]
theorem devBit_lt {c:Nat} (h:c<4294967296):devBit c<4294967296:=by
 unfold devBit
 split
 ·exact Nat.xor_lt_two_pow (n:=32) (by omega) (by decide)
 ·omega
theorem devBits_lt {c:Nat} (h:c<4294967296):∀ k,devBits c k<4294967296
 | 0=>h
 | k+1=>devBit_lt (devBits_lt h k)
end Go.Proofs.YtadhpkopkkjmfaaGreatDoor
