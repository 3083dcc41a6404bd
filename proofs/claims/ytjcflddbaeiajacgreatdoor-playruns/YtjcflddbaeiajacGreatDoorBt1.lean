/-
  On the way to PRunsProof: Plain Plain2 Plain4 PB J0 S0 J1 JD Err ErrAs0 ErrAs LV PRunsF PRunsG Laid.
-/
import Derived.Test.YtjcflddbaeiajacGreatDoorProg
import Derived.Test.YtjcflddbaeiajacGreatDoorCards
import Derived.Test.YtjcflddbaeiajacGreatDoorRows
import Derived.WalkKit
import Derived.Lib.AppendStr
import Derived.Laws.Strings2
import Derived.Laws.IdiomStrings
import Derived.LaidEql
import Derived.Stop.Asserts
import Derived.RowKitTokens
import Derived.Below
import Derived.Conc.Holds
import Derived.Leaving
import Derived.SevenTiedAt
import Derived.JoinedOf
import Derived.ProofKit
import Derived.LaidLaws
import Derived.LaidMore
import Derived.LaidSub
import Derived.LaidHandle
import Derived.MakeChecks
set_option maxHeartbeats 8000000
set_option maxRecDepth 100000
namespace Go.Proofs.YtjcflddbaeiajacGreatDoor
open Go.RowKit

/-! ### Bits of an int that is not below 0 -/
theorem ofInt_nat (a:Nat) (ha:a<9223372036854775808):(BitVec.ofInt 64 (a:Int)).toNat=a:=by
 rw [BitVec.ofInt_natCast,BitVec.toNat_ofNat]; exact Nat.mod_eq_of_lt (by omega)
theorem bits_and_nat (a b:Nat) (ha:a<9223372036854775808) (hb:b<9223372036854775808):bits .and .i64 (a:Int) (b:Int)=((a &&& b:Nat):Int):=by
 have hx:a &&& b<2 ^ 63:=Nat.and_lt_two_pow _ (by omega)
 show IntKind.i64.wrap ((BitVec.ofInt 64 (a:Int) &&& BitVec.ofInt 64 (b:Int)).toNat:Int)=_
 rw [BitVec.toNat_and,ofInt_nat a ha,ofInt_nat b hb,IntKind.wrap_i64]
 omega
theorem bits_or_nat (a b:Nat) (ha:a<9223372036854775808) (hb:b<9223372036854775808):bits .or .i64 (a:Int) (b:Int)=((a ||| b:Nat):Int):=by
 have hx:a ||| b<2 ^ 63:=Nat.or_lt_two_pow (by omega) (by omega)
 show IntKind.i64.wrap ((BitVec.ofInt 64 (a:Int) ||| BitVec.ofInt 64 (b:Int)).toNat:Int)=_
 rw [BitVec.toNat_or,ofInt_nat a ha,ofInt_nat b hb,IntKind.wrap_i64]
 omega
def bit (s:Int) (k:Nat):Bool:=s.toNat.testBit k
def sumTo (zs:List Int) (s:Int):Nat→Int
 | 0=>0
 | k+1=>sumTo zs s k+if bit s k then zs.getD k 0 else 0
def psum (zs:List Int):Nat→Int
 | 0=>0
 | k+1=>psum zs k+zs.getD k 0
def tot (zs:List Int):Int:=psum zs zs.length
def okTo (zs:List Int) (k:Nat):Prop:=∀ i,i<k→0≤zs.getD i 0∧zs.getD i 0≤1000
def errW (zs:List Int):Nat :=
 if zs.length<1 ∨ 7<zs.length then 3 else if (zs.all fun n=>decide (0≤n∧n≤1000))=true then (if tot zs=0 then 4 else 0) else 2
def errS (zs:List Int) (s:Int):Nat:=if errW zs=0 then (if s<0 ∨ 2 ^ zs.length≤s then 2 else 0) else errW zs
def enoughB (zs:List Int) (s:Int):Bool:=decide (tot zs<2 * sumTo zs s zs.length)
theorem getD_lt (zs:List Int) (k:Nat) (h:k<zs.length):zs.getD k 0=zs[k]:=by simp [h]
theorem okTo_all (zs:List Int):okTo zs zs.length ↔ (zs.all fun n=>decide (0≤n∧n≤1000))=true:=by
 rw [List.all_eq_true]
 constructor
 ·intro h x hx
  obtain ⟨i,hi,rfl⟩:=List.getElem_of_mem hx
  have:=h i hi
  rw [getD_lt zs i hi] at this
  simpa using this
 ·intro h i hi
  have:=h zs[i] (List.getElem_mem hi)
  rw [getD_lt zs i hi]
  simpa using this
theorem okTo_succ {zs:List Int} {k:Nat} (h:okTo zs k) (h0:0≤zs.getD k 0) (h1:zs.getD k 0≤1000):okTo zs (k+1):=by
 intro i hi
 rcases Nat.lt_succ_iff_lt_or_eq.1 hi with h'|rfl
 ·exact h i h'
 ·exact ⟨h0,h1⟩
theorem psum_bd {zs:List Int}:∀ {k:Nat},okTo zs k→0≤psum zs k∧psum zs k≤1000 * k
 | 0,_=>by simp [psum]
 | k+1,h=>by
  have ih:=psum_bd (k:=k) (fun i hi=>h i (Nat.lt_succ_of_lt hi))
  have:=h k (Nat.lt_succ_self k)
  simp only [psum]; omega
theorem sumTo_bd {zs:List Int} (s:Int):∀ {k:Nat},okTo zs k→0≤sumTo zs s k∧sumTo zs s k≤psum zs k
 | 0,_=>by simp [psum,sumTo]
 | k+1,h=>by
  have ih:=sumTo_bd s (k:=k) (fun i hi=>h i (Nat.lt_succ_of_lt hi))
  have:=h k (Nat.lt_succ_self k)
  simp only [psum,sumTo]; split <;> omega
theorem errW_shape {zs:List Int} (h:zs.length<1 ∨ 7<zs.length):errW zs=3:=by unfold errW; rw [if_pos h]
theorem errW_bound {zs:List Int} (h:¬ (zs.length<1 ∨ 7<zs.length)) {k:Nat} (hk:k<zs.length) (hb:zs.getD k 0<0 ∨ 1000<zs.getD k 0):errW zs=2:=by
 unfold errW; rw [if_neg h,if_neg]
 rw [← okTo_all]; intro g; have:=g k hk; omega
theorem errW_ok {zs:List Int} (h:¬ (zs.length<1 ∨ 7<zs.length)) (g:okTo zs zs.length):errW zs=if tot zs=0 then 4 else 0:=by
 unfold errW; rw [if_neg h,if_pos ((okTo_all zs).1 g)]
theorem errW_zero {zs:List Int} (h:errW zs=0):1≤zs.length∧zs.length≤7∧okTo zs zs.length∧tot zs≠0:=by
 unfold errW at h
 split at h
 ·cases h
 ·split at h
  ·split at h
   ·cases h
   ·refine ⟨by omega,by omega,(okTo_all zs).2 (by assumption),by assumption⟩
  ·cases h
theorem errS_zero {zs:List Int} {s:Int} (h:errS zs s=0):errW zs=0∧0≤s∧s<2 ^ zs.length:=by
 unfold errS at h
 split at h
 ·split at h
  ·cases h
  ·exact ⟨by assumption,by omega,by omega⟩
 ·exact absurd h (by assumption)
theorem errS_mk {zs:List Int} {s:Int} (h:errW zs=0) (h0:0≤s) (h1:s<2 ^ zs.length):errS zs s=0:=by
 unfold errS; rw [if_pos h,if_neg (by omega)]
theorem pow_le7 {n:Nat} (h:n≤7):(2:Int) ^ n≤128∧(1:Int)≤2 ^ n:=by
 have:n=0 ∨ n=1 ∨ n=2 ∨ n=3 ∨ n=4 ∨ n=5 ∨ n=6 ∨ n=7:=by omega
 rcases this with rfl|rfl|rfl|rfl|rfl|rfl|rfl|rfl <;> decide
theorem pow_le30 {n:Nat} (h:n≤30):(2:Int) ^ n≤1073741824∧(1:Int)≤2 ^ n:=by
 have h1:(2:Nat) ^ n≤2 ^ 30:=Nat.pow_le_pow_right (by decide) h
 have h2:1≤(2:Nat) ^ n:=Nat.one_le_two_pow
 have e:((2:Int) ^ n)=(((2:Nat) ^ n:Nat):Int):=by simp
 rw [e]; constructor
 ·have:(2:Nat) ^ 30=1073741824:=by decide
  omega
 ·omega
theorem bit_and {s:Int} (k:Nat) (h0:0≤s) (h1:s<9223372036854775808):(bits BinOp.and IntKind.i64 (s / 2 ^ k) 1 == 1)=bit s k:=by
 obtain ⟨m,rfl⟩:=Int.eq_ofNat_of_zero_le h0
 have e:((m:Int) / 2 ^ k)=((m / 2 ^ k:Nat):Int):=by simp
 have hlt:m / 2 ^ k<9223372036854775808:=Nat.lt_of_le_of_lt (Nat.div_le_self _ _) (by omega)
 rw [e,show (1:Int)=((1:Nat):Int) from rfl,bits_and_nat _ 1 hlt (by decide),Nat.and_one_is_mod]
 unfold bit
 rw [Int.toNat_natCast,Nat.testBit_eq_decide_div_mod_eq,Bool.eq_iff_iff]
 simp; omega
theorem bit_two {n k:Nat} (h:k<n):bit (2 ^ n - 1) k=true:=by
 unfold bit
 have e:((2:Int) ^ n - 1).toNat=2 ^ n - 1:=by
  have h2:1≤(2:Nat) ^ n:=Nat.one_le_two_pow
  have e:((2:Int) ^ n)=(((2:Nat) ^ n:Nat):Int):=by simp
  rw [e]; omega
 rw [e,Nat.testBit_two_pow_sub_one]; simpa using h
theorem sumTo_all (zs:List Int) {n:Nat}:∀ {k:Nat},k≤n→sumTo zs (2 ^ n - 1) k=psum zs k
 | 0,_=>rfl
 | k+1,h=>by simp only [sumTo,psum]; rw [sumTo_all zs (k:=k) (by omega),bit_two (by omega)]; simp
theorem pow_nat (n:Nat):((2:Int) ^ n)=(((2:Nat) ^ n:Nat):Int):=by simp
theorem bit_compl {n:Nat} {a:Int} (h0:0≤a) (h1:a<2 ^ n) {k:Nat} (hk:k<n):bit (2 ^ n - 1 - a) k=!bit a k:=by
 obtain ⟨m,rfl⟩:=Int.eq_ofNat_of_zero_le h0
 rw [pow_nat] at h1
 unfold bit
 have e:((2:Int) ^ n - 1 - (m:Int)).toNat=2 ^ n - (m+1):=by rw [pow_nat]; omega
 rw [e,Nat.testBit_two_pow_sub_succ (by omega)]
 simp [hk]
theorem or_lt {n:Nat} {a b:Int} (hn:n≤7) (h0:0≤a) (h1:a<2 ^ n) (g0:0≤b) (g1:b<2 ^ n):0≤bits .or .i64 a b∧bits .or .i64 a b<2 ^ n:=by
 have hp:=(pow_le7 hn).1
 obtain ⟨m,rfl⟩:=Int.eq_ofNat_of_zero_le h0
 obtain ⟨l,rfl⟩:=Int.eq_ofNat_of_zero_le g0
 rw [pow_nat] at h1 g1 hp ⊢
 have:m ||| l<2 ^ n:=Nat.or_lt_two_pow (by omega) (by omega)
 rw [bits_or_nat m l (by omega) (by omega)]
 omega
def lowB (s p:Nat):Bool :=
 let rest:Int:=((s / 2 ^ p * 2 ^ p:Nat):Int)
 (rest == 0) || (List.range 7).any fun q=>decide (p≤q) && (bits .and .i64 rest (-rest) == 2 ^ q) && (bits .and .i64 rest (rest - 1) == ((s / 2 ^ (q+1) * 2 ^ (q+1):Nat):Int)) && (bits .andNot .i64 (s:Int) (2 ^ q) == (s:Int) - 2 ^ q) && bit s q && decide (s / 2 ^ (q+1) * 2 ^ (q+1)<s / 2 ^ p * 2 ^ p) && (List.range q).all fun i=>decide (i<p) || !bit s i
theorem lowAll:((List.range 128).all fun s=>(List.range 8).all fun p=>lowB s p)=true:=by decide +kernel
theorem low {s p:Nat} (hs:s<128) (hp:p<8) (h0:((s / 2 ^ p * 2 ^ p:Nat):Int)≠0) :
  ∃ q,p≤q∧q<7∧bits .and .i64 ((s / 2 ^ p * 2 ^ p:Nat):Int) (-((s / 2 ^ p * 2 ^ p:Nat):Int))=2 ^ q∧bits .and .i64 ((s / 2 ^ p * 2 ^ p:Nat):Int) (((s / 2 ^ p * 2 ^ p:Nat):Int) - 1)=((s / 2 ^ (q+1) * 2 ^ (q+1):Nat):Int) ∧
   bits .andNot .i64 (s:Int) (2 ^ q)=(s:Int) - 2 ^ q∧bit s q=true∧s / 2 ^ (q+1) * 2 ^ (q+1)<s / 2 ^ p * 2 ^ p∧∀ i,p≤i→i<q→bit s i=false:=by
 have h:=List.all_eq_true.1 (List.all_eq_true.1 lowAll s (List.mem_range.2 hs)) p (List.mem_range.2 hp)
 unfold lowB at h
 rw [Bool.or_eq_true] at h
 rcases h with h|h
 ·exact absurd (by simpa using h) h0
 ·obtain ⟨q,hq,h⟩:=List.any_eq_true.1 h
  simp only [Bool.and_eq_true,decide_eq_true_eq,beq_iff_eq] at h
  obtain ⟨⟨⟨⟨⟨⟨h1,h2⟩,h3⟩,h4⟩,h5⟩,h7⟩,h6⟩:=h
  refine ⟨q,h1,List.mem_range.1 hq,h2,h3,h4,h5,h7,fun i hi1 hi2=>?_⟩
  have:=List.all_eq_true.1 h6 i (List.mem_range.2 hi2)
  simp at this
  rcases this with h|h
  ·omega
  ·exact h
theorem bit_has {s:Int} (k:Nat) (h0:0≤s):(s / 2 ^ k % 2 == 1)=bit s k:=by
 obtain ⟨m,rfl⟩:=Int.eq_ofNat_of_zero_le h0
 unfold bit
 rw [Int.toNat_natCast,Nat.testBit_eq_decide_div_mod_eq,Bool.eq_iff_iff]
 have e:((m:Int) / 2 ^ k)=((m / 2 ^ k:Nat):Int):=by simp
 rw [e]
 simp; omega
theorem enoughB_alt (zs:List Int) (s:Int):decide (tot zs - sumTo zs s zs.length<sumTo zs s zs.length)=enoughB zs s:=by
 unfold enoughB; exact decide_eq_decide.2 (by omega)
end Go.Proofs.YtjcflddbaeiajacGreatDoor
namespace Go.Proofs.YtjcflddbaeiajacGreatDoor
def putB (B:ByteArray) (a:Nat) (s:ByteArray) (k:Nat):ByteArray:=B.extract 0 a ++ s.extract 0 k ++ B.extract (a+k) B.size
theorem ext_list (B:ByteArray) (i j:Nat):(B.extract i j).data.toList=(B.data.toList.drop i).take (j - i):=by
 have h:=ByteArray.extract_mk B.data.toList i j
 have e:ByteArray.mk B.data.toList.toArray=B:=by cases B; simp
 rw [e] at h
 rw [h]
theorem size_list (B:ByteArray):B.size=B.data.toList.length:=rfl
theorem putB_list (B:ByteArray) (a:Nat) (s:ByteArray) (k:Nat):(putB B a s k).data.toList=B.data.toList.take a ++ s.data.toList.take k ++ B.data.toList.drop (a+k):=by
 unfold putB
 rw [ByteArray.data_append,ByteArray.data_append,Array.toList_append,Array.toList_append,ext_list,ext_list,ext_list]
 simp only [List.drop_zero,Nat.sub_zero]
 congr 1
 rw [List.take_of_length_le]
 rw [List.length_drop,size_list]
 exact Nat.le_refl _
theorem size_putB {B:ByteArray} {a:Nat} {s:ByteArray} {k:Nat} (h:a+k≤B.size) (hk:k≤s.size):(putB B a s k).size=B.size:=by
 rw [size_list] at h hk
 rw [size_list,size_list,putB_list]
 simp only [List.length_append,List.length_take,List.length_drop]
 omega
theorem ba_ext {X Y:ByteArray} (h:X.data.toList=Y.data.toList):X=Y:=ByteArray.ext (Array.ext' h)
theorem putB_zero {B:ByteArray} {a:Nat} {s:ByteArray}:putB B a s 0=B:=by
 apply ba_ext
 rw [putB_list]
 simp
theorem put_step {α:Type} (L S:List α) (a k:Nat) (d:α) (h:a+k<L.length) (hk:k<S.length) :
  L.take a ++ S.take (k+1) ++ L.drop (a+(k+1))=(L.take a ++ S.take k ++ L.drop (a+k)).set (a+k) (S.getD k d):=by
 apply List.ext_getElem?
 intro j
 simp only [List.getElem?_set,List.getElem?_append,List.length_append,List.length_take,List.getElem?_take,List.getElem?_drop,List.length_drop]
 have e1:min a L.length=a:=by omega
 have e2:min (k+1) S.length=k+1:=by omega
 have e3:min k S.length=k:=by omega
 simp only [e1,e2,e3]
 rcases Nat.lt_trichotomy j (a+k) with h1|h1|h1
 ·by_cases h2:j<a
  ·simp [h2,show j<a+(k+1) by omega,show ¬ a+k=j by omega,show j<a+k by omega]
  ·simp [h2,show j<a+(k+1) by omega,show ¬ a+k=j by omega,show j<a+k by omega,show j - a<k+1 by omega,show j - a<k by omega]
 ·subst h1
  simp [show a+k<a+(k+1) by omega,show a+k - a=k by omega,show k<k+1 by omega,hk,List.getD]
  rw [if_neg (by omega),if_pos (by omega)]
 ·simp [show ¬ j<a+(k+1) by omega,show ¬ a+k=j by omega,show ¬ j<a+k by omega]
  congr 1
  omega
theorem getB {s:ByteArray} {k:Nat} (hk:k<s.size):s[k]'hk=s.data.toList[k]'hk:=by
 have:s[k]'hk=s.data[k]'hk:=rfl
 rw [this,← Array.getElem_toList]
theorem putB_succ {B:ByteArray} {a:Nat} {s:ByteArray} {k:Nat} (h:a+k<B.size) (hk:k<s.size) :
  (Lib.strCells (putB B a s (k+1))).toArray=(Lib.strCells (putB B a s k)).toArray.setIfInBounds (a+k) (.int .u8 ((s[k]'hk).toNat:Int)):=by
 apply Array.ext'
 rw [size_list] at h
 have hk':=hk
 rw [size_list] at hk'
 simp only [Lib.strCells,Array.toList_setIfInBounds]
 rw [putB_list,putB_list,put_step _ _ a k 0 h hk',List.map_set]
 congr 1
 rw [getB hk,List.getD_eq_getElem?_getD,List.getElem?_eq_getElem hk']
 rfl
theorem strCells_at {B:ByteArray} {j:Nat} (h:j<B.size):(Lib.strCells B)[j]? = some (.int .u8 ((B[j]'h).toNat:Int)):=by
 rw [Lib.strCells,List.getElem?_map,List.getElem?_eq_getElem h,getB h]
 rfl
def wideL (n:Nat):Nat→List UInt8
 | 0=>[]
 | k+1=>wideL (n / 256) k ++ [UInt8.ofNat (n % 256)]
theorem wideL_length (k:Nat):∀ n,(wideL n k).length=k:=by
 induction k with
 | zero=>intro n; rfl
 | succ k ih=>intro n; simp [wideL,ih]
def numL (l:List UInt8):Nat:=l.foldl (fun n b=>256 * n+b.toNat) 0
theorem numL_snoc (l:List UInt8) (b:UInt8):numL (l ++ [b])=256 * numL l+b.toNat:=by simp [numL]
theorem numL_wide (k:Nat):∀ n,numL (wideL n k)=n % 256 ^ k:=by
 induction k with
 | zero=>intro n; simp [wideL,numL,Nat.mod_one]
 | succ k ih =>
  intro n
  rw [wideL,numL_snoc,ih]
  have h:(UInt8.ofNat (n % 256)).toNat=n % 256:=by simp
  rw [h,Nat.pow_succ,Nat.mul_comm (256 ^ k) 256,Nat.mod_mul]
  omega
theorem numL_lt (l:List UInt8):numL l<256 ^ l.length:=by
 have gen:∀ r:List UInt8,numL r.reverse<256 ^ r.length:=by
  intro r
  induction r with
  | nil=>simp [numL]
  | cons b r ih =>
   rw [List.reverse_cons,numL_snoc,List.length_cons,Nat.pow_succ]
   have hb:=UInt8.toNat_lt b
   omega
 have:=gen l.reverse
 rwa [List.reverse_reverse,List.length_reverse] at this
def crcBit (c b k:Nat):Nat:=if (c ^^^ (b / 2 ^ k)) % 2=1 then (c / 2) ^^^ 3988292384 else c / 2
def crcBits (c b:Nat):Nat→Nat
 | 0=>c
 | k+1=>crcBit (crcBits c b k) b k
def crcFold (c:Nat):List UInt8→Nat
 | []=>c
 | b :: l=>crcFold (crcBits c b.toNat 8) l
def crcL (l:List UInt8):Nat:=crcFold 4294967295 l ^^^ 4294967295
theorem crcBit_lt {c:Nat} (h:c<4294967296) (b k:Nat):crcBit c b k<4294967296:=by
 unfold crcBit
 split
 ·exact Nat.xor_lt_two_pow (n:=32) (by omega) (by decide)
 ·omega
theorem crcBits_lt {c:Nat} (h:c<4294967296) (b:Nat):∀ k,crcBits c b k<4294967296
 | 0=>h
 | k+1=>crcBit_lt (crcBits_lt h b k) b k
theorem crcFold_lt:∀ (l:List UInt8) {c:Nat},c<4294967296→crcFold c l<4294967296
 | [],_,h=>h
 | b :: l,_,h=>crcFold_lt l (crcBits_lt h b.toNat 8)
theorem crcL_lt (l:List UInt8):crcL l<4294967296:=Nat.xor_lt_two_pow (n:=32) (crcFold_lt l (by decide)) (by decide)
theorem crcFold_snoc (b:UInt8):∀ (l:List UInt8) (c:Nat),crcFold c (l ++ [b])=crcBits (crcFold c l) b.toNat 8
 | [],_=>rfl
 | x :: l,c=>crcFold_snoc b l (crcBits c x.toNat 8)
structure St where
 ph:Nat
 pr:Nat
 at_:Nat
def stSame (a b:St):Bool:=decide (a.ph=b.ph∧a.pr=b.pr∧a.at_=b.at_)
theorem stSame_true {a b:St} (h:stSame a b=true):a=b:=by
 obtain ⟨h1,h2,h3⟩:=of_decide_eq_true h
 cases a; cases b
 cases h1; cases h2; cases h3; rfl
theorem stSame_false {a b:St} (h:stSame a b=false):¬ a=b:=fun e=>of_decide_eq_false h (by subst e; exact ⟨rfl,rfl,rfl⟩)
def stEq (a b:St):Decidable (a=b):=if h:stSame a b=true then .isTrue (stSame_true h) else .isFalse (stSame_false (Bool.eq_false_iff.2 h))
def St.zero:St:=⟨0,0,0⟩
def St.fits (s:St):Prop:=s.ph<256∧s.pr<4294967296∧s.at_<4294967296
def textL (n:Nat) (s:St):List UInt8:=wideL n 4 ++ wideL s.ph 1 ++ wideL s.pr 4 ++ wideL s.at_ 4
def bodyL (n:Nat) (s:St):List UInt8:=textL n s ++ wideL (crcL (textL n s)) 4
theorem textL_length (n:Nat) (s:St):(textL n s).length=13:=by simp [textL,wideL_length]
theorem bodyL_length (n:Nat) (s:St):(bodyL n s).length=17:=by simp [bodyL,textL_length,wideL_length]
def readN (t:List UInt8):Nat:=numL (t.take 4)
def readS (t:List UInt8):St:=⟨numL ((t.drop 4).take 1),numL ((t.drop 5).take 4),numL ((t.drop 9).take 4)⟩
def heldL (k:Nat) (t:List UInt8):Nat×St:=if 1≤readN t∧readN t % 2=k % 2∧bodyL (readN t) (readS t) ++ [165]=t then (readN t,readS t) else (0,St.zero)
theorem take_app {α:Type} {a b:List α} {n:Nat} (h:a.length=n):(a ++ b).take n=a:=by rw [← h]; simp
theorem drop_app {α:Type} {a b:List α} {n:Nat} (h:a.length=n):(a ++ b).drop n=b:=by rw [← h]; simp
theorem readN_body (n:Nat) (s:St) (r:List UInt8) (hn:n<4294967296):readN (bodyL n s ++ r)=n:=by
 unfold readN bodyL textL
 rw [List.append_assoc,List.append_assoc,List.append_assoc,List.append_assoc,take_app (wideL_length 4 n),numL_wide]
 exact Nat.mod_eq_of_lt hn
theorem readS_body (n:Nat) (s:St) (r:List UInt8) (hs:s.fits):readS (bodyL n s ++ r)=s:=by
 obtain ⟨h1,h2,h3⟩:=hs
 have e:bodyL n s ++ r=wideL n 4 ++ (wideL s.ph 1 ++ (wideL s.pr 4 ++ (wideL s.at_ 4 ++ (wideL (crcL (textL n s)) 4 ++ r)))):=by simp [bodyL,textL]
 have d4:(bodyL n s ++ r).drop 4=wideL s.ph 1 ++ (wideL s.pr 4 ++ (wideL s.at_ 4 ++ (wideL (crcL (textL n s)) 4 ++ r))):=by rw [e,drop_app (wideL_length 4 n)]
 have d5:(bodyL n s ++ r).drop 5=wideL s.pr 4 ++ (wideL s.at_ 4 ++ (wideL (crcL (textL n s)) 4 ++ r)):=by
  rw [show (5:Nat)=4+1 from rfl,← List.drop_drop,d4,drop_app (wideL_length 1 _)]
 have d9:(bodyL n s ++ r).drop 9=wideL s.at_ 4 ++ (wideL (crcL (textL n s)) 4 ++ r):=by
  rw [show (9:Nat)=5+4 from rfl,← List.drop_drop,d5,drop_app (wideL_length 4 _)]
 unfold readS
 rw [d4,d5,d9,take_app (wideL_length 1 _),take_app (wideL_length 4 _),take_app (wideL_length 4 _),numL_wide,numL_wide,numL_wide,Nat.mod_eq_of_lt (by simpa using h1),Nat.mod_eq_of_lt (by simpa using h2),Nat.mod_eq_of_lt (by simpa using h3)]
theorem heldL_body (k n:Nat) (s:St) (h1:1≤n) (hn:n<4294967296) (hk:n % 2=k % 2) (hs:s.fits):heldL k (bodyL n s ++ [165])=(n,s):=by
 unfold heldL
 rw [readN_body n s _ hn,readS_body n s _ hs,if_pos ⟨h1,hk,rfl⟩]
theorem heldL_torn (k:Nat) (t:List UInt8) (b:UInt8) (h:t.getLast? = some b) (hb:b≠165):heldL k t=(0,St.zero):=by
 unfold heldL
 rw [if_neg]
 rintro ⟨_,_,h3⟩
 rw [← h3] at h
 simp at h
 exact hb h.symm
theorem heldL_parity (k:Nat) (t:List UInt8) (h:(heldL k t).1≠0):(heldL k t).1 % 2=k % 2:=by
 unfold heldL at h ⊢
 split
 ·rename_i g; exact g.2.1
 ·rename_i g; rw [if_neg g] at h; exact absurd rfl h
theorem heldL_zero (k:Nat) (t:List UInt8) (h:(heldL k t).1=0):heldL k t=(0,St.zero):=by
 unfold heldL at h ⊢
 split
 ·rename_i g; rw [if_pos g] at h; exact absurd h (by have:=g.1; omega)
 ·rfl
theorem readN_lt (t:List UInt8):readN t<4294967296:=by
 have h:=numL_lt (t.take 4)
 have h2:(t.take 4).length≤4:=by simp; omega
 have h3:256 ^ (t.take 4).length≤256 ^ 4:=Nat.pow_le_pow_right (by decide) h2
 unfold readN
 have h4:(256:Nat) ^ 4=4294967296:=by decide
 omega
theorem heldL_lt (k:Nat) (t:List UInt8):(heldL k t).1<4294967296:=by
 unfold heldL
 split
 ·exact readN_lt t
 ·decide
structure HOut where
 st:St
 k:Nat
 yes:Bool
def finB (p:Nat):Bool:=decide (p=2 ∨ p=3)
def askP (s:St) (ref:Bool):Nat:=if s.ph=0 then (if ref=true then 3 else 1) else s.ph
def hearL (s:St) (ref:Bool) (k a ph:Nat):HOut :=
 if k=1 then ⟨⟨askP s ref,s.pr,s.at_⟩,2,decide (askP s ref≠3)⟩
 else if k=3 then (if s.pr<a then ⟨⟨s.ph,a,s.at_⟩,4,true⟩ else ⟨s,4,false⟩)
 else if k=5 then (if ph=4 ∨ ph=5 then (if s.pr≤a∧finB s.ph=false then ⟨⟨ph,a,a⟩,6,true⟩ else ⟨s,6,false⟩) else ⟨s,0,false⟩)
 else if k=7 then (if finB ph=true∧finB s.ph=false then ⟨⟨ph,s.pr,s.at_⟩,0,false⟩ else ⟨s,0,false⟩)
 else ⟨s,0,false⟩
def St.good (s:St):Prop:=s.ph≤5∧s.pr≤1048576∧s.at_≤s.pr
def mayN (a b:Nat):Prop:=a≤5∧b≤5∧(a=b ∨ a=0 ∨ (a=1∧b≠0) ∨ ((a=4 ∨ a=5)∧b≠0∧b≠1))
theorem hear_good (s:St) (ref:Bool) (k a ph:Nat) (h:s.good) (ha:a≤1048576) (hp:ph≤5):(hearL s ref k a ph).st.good∧s.pr≤(hearL s ref k a ph).st.pr∧s.at_≤(hearL s ref k a ph).st.at_∧mayN s.ph (hearL s ref k a ph).st.ph:=by
 obtain ⟨h1,h2,h3⟩:=h
 unfold hearL
 repeat' split
 ·unfold askP St.good mayN
  simp only
  refine ⟨⟨?_,h2,h3⟩,Nat.le_refl _,Nat.le_refl _,h1,?_,?_⟩
  ·repeat' split
   all_goals omega
  ·repeat' split
   all_goals omega
  ·repeat' split
   all_goals omega
 ·rename_i hlt
  exact ⟨⟨h1,ha,by show s.at_≤a; omega⟩,by show s.pr≤a; omega,Nat.le_refl _,h1,h1,.inl rfl⟩
 ·exact ⟨⟨h1,h2,h3⟩,Nat.le_refl _,Nat.le_refl _,h1,h1,.inl rfl⟩
 ·rename_i hph hpr
  obtain ⟨hpr,hf⟩:=hpr
  have hf2:=of_decide_eq_false hf
  refine ⟨⟨hp,ha,Nat.le_refl _⟩,hpr,by show s.at_≤a; omega,h1,hp,?_⟩
  show s.ph=ph ∨ s.ph=0 ∨ (s.ph=1∧ph≠0) ∨ ((s.ph=4 ∨ s.ph=5)∧ph≠0∧ph≠1)
  omega
 ·exact ⟨⟨h1,h2,h3⟩,Nat.le_refl _,Nat.le_refl _,h1,h1,.inl rfl⟩
 ·exact ⟨⟨h1,h2,h3⟩,Nat.le_refl _,Nat.le_refl _,h1,h1,.inl rfl⟩
 ·rename_i hf
  have e1:=of_decide_eq_true hf.1
  have e2:=of_decide_eq_false hf.2
  refine ⟨⟨hp,h2,h3⟩,Nat.le_refl _,Nat.le_refl _,h1,hp,?_⟩
  show s.ph=ph ∨ s.ph=0 ∨ (s.ph=1∧ph≠0) ∨ ((s.ph=4 ∨ s.ph=5)∧ph≠0∧ph≠1)
  omega
 ·exact ⟨⟨h1,h2,h3⟩,Nat.le_refl _,Nat.le_refl _,h1,h1,.inl rfl⟩
 ·exact ⟨⟨h1,h2,h3⟩,Nat.le_refl _,Nat.le_refl _,h1,h1,.inl rfl⟩
def putL (L:List UInt8) (a:Nat) (S:List UInt8):List UInt8:=L.take a ++ S ++ L.drop (a+S.length)
theorem putL_length {L S:List UInt8} {a:Nat} (h:a+S.length≤L.length):(putL L a S).length=L.length:=by
 simp [putL]; omega
theorem putL_nil (L:List UInt8) (a:Nat):putL L a []=L:=by simp [putL]
theorem putL_get {L S:List UInt8} {a:Nat} (h:a+S.length≤L.length) (j:Nat):(putL L a S)[j]? = if a≤j∧j<a+S.length then S[j - a]? else L[j]?:=by
 unfold putL
 have e:min a L.length=a:=by omega
 simp only [List.getElem?_append,List.length_append,List.length_take,List.getElem?_take,List.getElem?_drop,e]
 rcases Nat.lt_or_ge j a with h1|h1
 ·rw [if_pos (by omega),if_pos h1,if_pos h1,if_neg (by omega)]
 ·rcases Nat.lt_or_ge j (a+S.length) with h2|h2
  ·rw [if_pos h2,if_neg (by omega),if_pos ⟨h1,h2⟩]
  ·rw [if_neg (by omega),if_neg (by omega)]
   congr 1
   omega
theorem putB_putL {B s:ByteArray} {a k:Nat} (hk:k≤s.size):(putB B a s k).data.toList=putL B.data.toList a (s.data.toList.take k):=by
 rw [putB_list]
 unfold putL
 rw [size_list] at hk
 rw [List.length_take,Nat.min_eq_left hk]
def slotL (L:List UInt8) (k:Nat):List UInt8:=(L.drop (18 * k)).take 18
theorem slotL_get (L:List UInt8) (k j:Nat):(slotL L k)[j]? = if j<18 then L[18 * k+j]? else none:=by
 unfold slotL
 rw [List.getElem?_take,List.getElem?_drop]
theorem slotL_length {L:List UInt8} {k:Nat} (h:18 * (k+1)≤L.length):(slotL L k).length=18:=by
 simp [slotL]; omega
def dealL (L:List UInt8) (d:Nat):Nat×St :=
 if (heldL (2 * d) (slotL L (2 * d))).1<(heldL (2 * d+1) (slotL L (2 * d+1))).1 then heldL (2 * d+1) (slotL L (2 * d+1)) else heldL (2 * d) (slotL L (2 * d))
structure Only (L:List UInt8) (k:Nat) (L':List UInt8):Prop where
 len:L'.length=L.length
 other:∀ j,j≠k→slotL L' j=slotL L j
theorem Only.refl (L:List UInt8) (k:Nat):Only L k L:=⟨rfl,fun _ _=>rfl⟩
theorem Only.trans {L L' L'':List UInt8} {k:Nat} (h:Only L k L') (g:Only L' k L''):Only L k L'':=⟨g.len.trans h.len,fun j hj=>(g.other j hj).trans (h.other j hj)⟩
theorem only_put {L S:List UInt8} {k i:Nat} (hk:18 * (k+1)≤L.length) (hi:i+S.length≤18):Only L k (putL L (18 * k+i) S):=by
 refine ⟨putL_length (by omega),fun j hj=>?_⟩
 apply List.ext_getElem?
 intro m
 rw [slotL_get,slotL_get]
 split
 ·rw [putL_get (by omega),if_neg (by omega)]
 ·rfl
theorem slot_put {L S:List UInt8} {k i:Nat} (hk:18 * (k+1)≤L.length) (hi:i+S.length≤18):slotL (putL L (18 * k+i) S) k=putL (slotL L k) i S:=by
 apply List.ext_getElem?
 intro m
 rw [slotL_get,putL_get (by omega),putL_get (by rw [slotL_length hk]; omega),slotL_get]
 by_cases h:m<18
 ·rw [if_pos h,if_pos h]
  by_cases g:i≤m∧m<i+S.length
  ·rw [if_pos (by omega),if_pos g]
   congr 1
   omega
  ·rw [if_neg (by omega),if_neg g]
 ·rw [if_neg h,if_neg h,if_neg (by omega)]
def Torn (L:List UInt8) (k:Nat) (L':List UInt8):Prop:=Only L k L'∧(slotL L' k=slotL L k ∨ ∃ b:UInt8,b≠165∧(slotL L' k)[17]? = some b)
def Done (L:List UInt8) (k n:Nat) (s:St) (L':List UInt8):Prop:=Only L k L'∧slotL L' k=bodyL n s ++ [165]
def nextK (d m:Nat):Nat:=2 * d+(m+1) % 2
theorem last_of_17 {t:List UInt8} {b:UInt8} (hl:t.length=18) (h:t[17]? = some b):t.getLast? = some b:=by rw [List.getLast?_eq_getElem?,hl]; exact h
theorem deal_other {L L':List UInt8} {d m e:Nat} (h:Only L (nextK d m) L') (he:e≠d):dealL L' e=dealL L e:=by
 unfold nextK at h
 unfold dealL
 rw [h.other (2 * e) (by omega),h.other (2 * e+1) (by omega)]
theorem deal_torn {L L':List UInt8} {d:Nat} (hL:36 * (d+1)≤L.length) (h:Torn L (nextK d (dealL L d).1) L'):dealL L' d=dealL L d:=by
 obtain ⟨ho,hs⟩:=h
 rcases hs with hs|⟨b,hb,hg⟩
 ·have all:∀ j,slotL L' j=slotL L j:=fun j=>by
   by_cases hj:j=nextK d (dealL L d).1
   ·rw [hj]; exact hs
   ·exact ho.other j hj
  unfold dealL
  rw [all,all]
 ·have hk:18 * (nextK d (dealL L d).1+1)≤L'.length:=by rw [ho.len]; unfold nextK; omega
  have ht:=fun k=>heldL_torn k _ b (last_of_17 (slotL_length hk) hg) hb
  have pa:=heldL_parity (2 * d) (slotL L (2 * d))
  have pb:=heldL_parity (2 * d+1) (slotL L (2 * d+1))
  have za:=heldL_zero (2 * d) (slotL L (2 * d))
  have zb:=heldL_zero (2 * d+1) (slotL L (2 * d+1))
  unfold nextK at ho ht
  unfold dealL at ho ht ⊢
  by_cases c:(heldL (2 * d) (slotL L (2 * d))).1<(heldL (2 * d+1) (slotL L (2 * d+1))).1
  ·rw [if_pos c] at ho ht ⊢
   have p:=pb (by omega)
   have e:((heldL (2 * d+1) (slotL L (2 * d+1))).1+1) % 2=0:=by omega
   rw [e,Nat.add_zero] at ho ht
   rw [ho.other (2 * d+1) (by omega),ht (2 * d),if_pos (by show 0<_; omega)]
  ·rw [if_neg c] at ho ht ⊢
   by_cases z:(heldL (2 * d) (slotL L (2 * d))).1=0
   ·have e:((heldL (2 * d) (slotL L (2 * d))).1+1) % 2=1:=by omega
    rw [e] at ho ht
    rw [ho.other (2 * d) (by omega),ht (2 * d+1),if_neg (by show ¬ _<0; omega)]
   ·have p:=pa z
    have e:((heldL (2 * d) (slotL L (2 * d))).1+1) % 2=1:=by omega
    rw [e] at ho ht
    rw [ho.other (2 * d) (by omega),ht (2 * d+1),if_neg (by show ¬ _<0; omega)]
theorem deal_done {L L':List UInt8} {d:Nat} {s:St} (hn:(dealL L d).1+1<4294967296) (hs:s.fits) (h:Done L (nextK d (dealL L d).1) ((dealL L d).1+1) s L'):dealL L' d=((dealL L d).1+1,s):=by
 obtain ⟨ho,hb⟩:=h
 have le:(heldL (2 * d) (slotL L (2 * d))).1≤(dealL L d).1∧(heldL (2 * d+1) (slotL L (2 * d+1))).1≤(dealL L d).1:=by
  unfold dealL; split <;> omega
 have hh:=fun k (hk:((dealL L d).1+1) % 2=k % 2)=>heldL_body k ((dealL L d).1+1) s (by omega) hn hk hs
 generalize dealL L d=m at *
 unfold nextK at ho hb
 unfold dealL
 rcases Nat.mod_two_eq_zero_or_one (m.1+1) with e|e
 ·rw [e,Nat.add_zero] at ho hb
  rw [ho.other (2 * d+1) (by omega),hb,hh (2 * d) (by omega),if_neg (by show ¬ m.1+1<_; omega)]
 ·rw [e] at ho hb
  rw [ho.other (2 * d) (by omega),hb,hh (2 * d+1) (by omega),if_pos (by show _<m.1+1; omega)]
def Wr (L:List UInt8) (a:Nat) (S:List UInt8) (L':List UInt8) (c:Nat):Prop:=(c=0∧L'=putL L a S) ∨ (c=6∧∃ t,t<S.length∧L'=putL L a (S.take t))
def Zeroed (L:List UInt8) (k:Nat) (L':List UInt8):Prop:=Only L k L'∧(slotL L' k)[17]? = some 0
theorem zero_skip {L:List UInt8} {k:Nat} (h:L[18 * k+17]? = some 0):Zeroed L k L:=⟨Only.refl _ _,by rw [slotL_get]; exact h⟩
theorem zero_wr {L L':List UInt8} {k c:Nat} (hk:18 * (k+1)≤L.length) (h:Wr L (18 * k+17) [0] L' c):(c=0∧Zeroed L k L') ∨ (c=6∧Torn L k L'):=by
 rcases h with ⟨rfl,rfl⟩|⟨rfl,t,ht,rfl⟩
 ·refine .inl ⟨rfl,only_put hk (by simp),?_⟩
  rw [slot_put hk (by simp),putL_get (by rw [slotL_length hk]; simp)]
  rfl
 ·obtain rfl:t=0:=by simpa using ht
  rw [List.take_zero,putL_nil]
  exact .inr ⟨rfl,Only.refl _ _,.inl rfl⟩
def Bodied (L:List UInt8) (k n:Nat) (s:St) (L':List UInt8):Prop:=Only L k L'∧slotL L' k=bodyL n s ++ [0]
theorem Bodied.torn {L L':List UInt8} {k n:Nat} {s:St} (h:Bodied L k n s L'):Torn L k L':=⟨h.1,.inr ⟨0,by decide,by rw [h.2,List.getElem?_append_right (by rw [bodyL_length]; omega),bodyL_length]; rfl⟩⟩
theorem body_wr {L L0 L':List UInt8} {k n c:Nat} {s:St} (hk:18 * (k+1)≤L.length) (h0:Zeroed L k L0) (h:Wr L0 (18 * k) (bodyL n s) L' c):(c=0∧Bodied L k n s L') ∨ (c=6∧Torn L k L'):=by
 have hk0:18 * (k+1)≤L0.length:=by rw [h0.1.len]; exact hk
 have hb:=bodyL_length n s
 rcases h with ⟨rfl,rfl⟩|⟨rfl,t,ht,rfl⟩
 ·refine .inl ⟨rfl,h0.1.trans (only_put (i:=0) hk0 (by omega)),?_⟩
  have e:=slot_put (S:=bodyL n s) (i:=0) hk0 (by omega)
  rw [Nat.add_zero] at e
  rw [e]
  apply List.ext_getElem?
  intro m
  rw [putL_get (by rw [slotL_length hk0]; omega),List.getElem?_append,hb]
  by_cases g:m<17
  ·rw [if_pos (by omega),if_pos g,Nat.sub_zero]
  ·rw [if_neg (by omega),if_neg g]
   by_cases g2:m=17
   ·subst g2; rw [h0.2]; rfl
   ·rw [slotL_get,if_neg (by omega),List.getElem?_eq_none (by simp; omega)]
 ·refine .inr ⟨rfl,h0.1.trans (only_put (i:=0) hk0 (by simp; omega)),.inr ⟨0,by decide,?_⟩⟩
  have e:=slot_put (S:=(bodyL n s).take t) (i:=0) hk0 (by simp; omega)
  rw [Nat.add_zero] at e
  rw [e,putL_get (by rw [slotL_length hk0]; simp; omega),if_neg (by simp; omega)]
  exact h0.2
theorem last_wr {L L1 L':List UInt8} {k n c:Nat} {s:St} (hk:18 * (k+1)≤L.length) (h1:Bodied L k n s L1) (h:Wr L1 (18 * k+17) [165] L' c):(c=0∧Done L k n s L') ∨ (c=6∧Torn L k L'):=by
 have hk1:18 * (k+1)≤L1.length:=by rw [h1.1.len]; exact hk
 rcases h with ⟨rfl,rfl⟩|⟨rfl,t,ht,rfl⟩
 ·refine .inl ⟨rfl,h1.1.trans (only_put hk1 (by simp)),?_⟩
  rw [slot_put hk1 (by simp),h1.2]
  unfold putL
  rw [take_app (bodyL_length n s)]
  simp [bodyL_length]
 ·obtain rfl:t=0:=by simpa using ht
  rw [List.take_zero,putL_nil]
  exact .inr ⟨rfl,h1.torn⟩
def devBit (c:Nat):Nat:=if c % 2=1 then (c / 2) ^^^ 3988292384 else c / 2
def devBits (c:Nat):Nat→Nat
 | 0=>c
 | k+1=>devBit (devBits c k)
theorem xor_half (x y:Nat):(x ^^^ y) / 2=x / 2 ^^^ y / 2:=by
 apply Nat.eq_of_testBit_eq
 intro i
 simp [Nat.testBit_xor,Nat.testBit_div_two]
theorem dev_step (c b k:Nat):devBit (c ^^^ b / 2 ^ k)=crcBit c b k ^^^ b / 2 ^ (k+1):=by
 have e:b / 2 ^ k / 2=b / 2 ^ (k+1):=by rw [Nat.div_div_eq_div_mul,Nat.pow_succ]
 unfold devBit crcBit
 split
 ·rw [xor_half,e,Nat.xor_assoc,Nat.xor_assoc,Nat.xor_comm 3988292384]
 ·rw [xor_half,e]
theorem dev_bits (c b:Nat):∀ k,devBits (c ^^^ b) k=crcBits c b k ^^^ b / 2 ^ k
 | 0=>by simp [devBits,crcBits]
 | k+1=>by rw [devBits,dev_bits c b k,dev_step]; rfl
theorem dev_eight (c:Nat) (b:UInt8):devBits (c ^^^ b.toNat) 8=crcBits c b.toNat 8:=by
 rw [dev_bits]
 have h:=UInt8.toNat_lt b
 rw [show b.toNat / 2 ^ 8=0 by omega,Nat.xor_zero]
theorem devBit_lt {c:Nat} (h:c<4294967296):devBit c<4294967296:=by
 unfold devBit
 split
 ·exact Nat.xor_lt_two_pow (n:=32) (by omega) (by decide)
 ·omega
theorem devBits_lt {c:Nat} (h:c<4294967296):∀ k,devBits c k<4294967296
 | 0=>h
 | k+1=>devBit_lt (devBits_lt h k)
end Go.Proofs.YtjcflddbaeiajacGreatDoor
namespace Go.Proofs.YtjcflddbaeiajacGreatDoor
open Go.RowKit Go.Extern.Stop Go.Stop Go.Extern

/-! ### Closed facts on the types that errors.Is meets -/
theorem callTypeOfE (v:Value) (w:World):(callFunc 194 #[.iface 407 v]).run Tryz.prog w=.ok (.value (.iface 303 (.agg #[.pointer (some ⟨16,407,none⟩)]))) w:=by kernel_rfl
theorem callComparable (w:World):(callFunc 374 #[.agg #[.pointer (some ⟨16,407,none⟩)]]).run Tryz.prog w=.ok (.value (.bool true)) w:=by kernel_rfl
theorem methodComparable (v:Value) (w:World):(Go.method 537 303 v "Comparable").run Tryz.prog w=.ok (374,v) w:=by kernel_rfl
theorem compErrS:(Tryz.prog.info? 407).map (·.comparable)=some true:=by kernel_rfl
theorem sizeErrS:(Tryz.prog.info? 425).map (·.size)=some 1:=by kernel_rfl
theorem noIsE (v:Value) (xT:TypeId) (w:World):(Instr.typeAssert (.iface 407 v) xT 314 true).run Tryz.prog w=.ok (.tuple #[.nilIface,.bool false]) w:=run_typeAssert_lacksB Tryz.underlying314 (by kernel_rfl) (by kernel_rfl) v xT w
theorem noUnwrapE (v:Value) (xT:TypeId) (w:World):(Instr.typeAssert (.iface 407 v) xT 310 true).run Tryz.prog w=.ok (.tuple #[.nilIface,.bool false]) w:=run_typeAssert_lacksB Tryz.underlying310 (by kernel_rfl) (by kernel_rfl) v xT w
theorem noUnwrapsE (v:Value) (xT:TypeId) (w:World):(Instr.typeAssert (.iface 407 v) xT 312 true).run Tryz.prog w=.ok (.tuple #[.nilIface,.bool false]) w:=run_typeAssert_lacksB Tryz.underlying312 (by kernel_rfl) (by kernel_rfl) v xT w
theorem noAsE (v:Value) (xT:TypeId) (w:World):(Instr.typeAssert (.iface 407 v) xT 307 true).run Tryz.prog w=.ok (.tuple #[.nilIface,.bool false]) w:=run_typeAssert_lacksB Tryz.underlying307 (by kernel_rfl) (by kernel_rfl) v xT w
theorem is_same (a:Addr) (w:World) :
  Calls Tryz.prog 106 #[.iface 407 (.pointer (some a)),.iface 407 (.pointer (some a))] w fun e w'=>e=.returned (.bool true)∧w'=w:=by
 obtain ⟨i,hi,hcmp⟩:=Option.map_eq_some_iff.1 compErrS
 obtain ⟨j,hj,hjs⟩:=Option.map_eq_some_iff.1 sizeErrS
 have tT:=callTypeOfE
 have cT:=callComparable
 have mR:=methodComparable
 have heq:=run_eql_iface_ptr_same (P:=Tryz.prog) w a Tryz.underlying27 Tryz.underlying407 hi hcmp hj
 go_enter Tryz.func106,Tryz.ntmps106
 go_wp2
 refine wp_loop_rounds 1 ?_
 rw [rounds_succ]
 go_wp2
 go_ret
 exact ⟨rfl,rfl⟩
theorem is_other (a b:Addr) (ca cb:Array Value) (ta tb:TypeId) (w:World) (hne:a≠b) (ha:w.heap[a.block]? = some (.cells ca ta (0,0))) (hb:w.heap[b.block]? = some (.cells cb tb (0,0))) :
  Calls Tryz.prog 106 #[.iface 407 (.pointer (some a)),.iface 407 (.pointer (some b))] w fun e w'=>e=.returned (.bool false)∧w'=w:=by
 obtain ⟨i,hi,hcmp⟩:=Option.map_eq_some_iff.1 compErrS
 obtain ⟨j,hj,hjs⟩:=Option.map_eq_some_iff.1 sizeErrS
 have tT:=callTypeOfE
 have cT:=callComparable
 have mR:=methodComparable
 have nE:=noIsE
 have uE:=noUnwrapE
 have vE:=noUnwrapsE
 have heq:=run_eql_iface_ptr_other (P:=Tryz.prog) w Tryz.underlying27 Tryz.underlying407 hi hcmp hj (by rw [hjs]; decide) hne ha hb
 go_enter Tryz.func106,Tryz.ntmps106
 go_wp2
 refine wp_loop_rounds 1 ?_
 rw [rounds_succ]
 go_wp2
 go_ret
 exact ⟨rfl,rfl⟩

/-! ### Closed facts on the types that errors.As meets -/
theorem callValueOfT (t:Addr) (w:World):(callFunc 190 #[.iface 182 (.pointer (some t))]).run Tryz.prog w
  = .ok (.value (.agg #[.pointer (some ⟨16,182,none⟩),.pointer (some ⟨w.heap.size,0,none⟩),.int .u64 150])) (w.alloc (.cells #[.pointer (some t)] 182)):=by kernel_rfl
theorem callTypeT (a:Addr) (w:World):(callFunc 191 #[.agg #[.pointer (some ⟨16,182,none⟩),.pointer (some a),.int .u64 150]]).run Tryz.prog w
  = .ok (.value (.iface 303 (.agg #[.pointer (some ⟨16,182,none⟩)]))) w:=by kernel_rfl
theorem methodKind (h:Value) (w:World):(Go.method 537 303 (.agg #[h]) "Kind").run Tryz.prog w=.ok (364,h) w:=by kernel_rfl
theorem callKindT (w:World):(callFunc 364 #[.pointer (some ⟨16,182,none⟩)]).run Tryz.prog w=.ok (.value (.int .u8 22)) w:=by kernel_rfl
theorem callKindF (w:World):(callFunc 364 #[.pointer (some ⟨16,139,none⟩)]).run Tryz.prog w=.ok (.value (.int .u8 22)) w:=by kernel_rfl
theorem methodElem (h:Value) (w:World):(Go.method 537 303 (.agg #[h]) "Elem").run Tryz.prog w=.ok (375,.agg #[h]) w:=by kernel_rfl
theorem callElemT (w:World):(callFunc 375 #[.agg #[.pointer (some ⟨16,182,none⟩)]]).run Tryz.prog w=.ok (.value (.iface 303 (.agg #[.pointer (some ⟨16,139,none⟩)]))) w:=by kernel_rfl
theorem methodImplements (h:Value) (w:World):(Go.method 537 303 (.agg #[h]) "Implements").run Tryz.prog w=.ok (376,.agg #[h]) w:=by kernel_rfl
theorem callImplementsF (w:World):(callFunc 376 #[.agg #[.pointer (some ⟨16,139,none⟩)],.iface 303 (.agg #[.pointer (some ⟨16,27,none⟩)])]).run Tryz.prog w=.ok (.value (.bool true)) w:=by kernel_rfl
theorem methodAssignableTo (h:Value) (w:World):(Go.method 537 303 (.agg #[h]) "AssignableTo").run Tryz.prog w=.ok (373,.agg #[h]) w:=by kernel_rfl
theorem callAssignableE (w:World):(callFunc 373 #[.agg #[.pointer (some ⟨16,407,none⟩)],.iface 303 (.agg #[.pointer (some ⟨16,139,none⟩)])]).run Tryz.prog w=.ok (.value (.bool false)) w:=by kernel_rfl

/-! ### The entries that read or write memory -/
theorem partsT (a:Addr) (w:World):(ReflectliteValue.parts (.agg #[.pointer (some ⟨16,182,none⟩),.pointer (some a),.int .u64 150])).run Tryz.prog w=.ok (some (182,a,150)) w:=by kernel_rfl
theorem callIsNilT (a p:Addr) (W:World) (ha:W.cell? a=some (.pointer (some p))) :
  (callFunc 192 #[.agg #[.pointer (some ⟨16,182,none⟩),.pointer (some a),.int .u64 150]]).run Tryz.prog W=.ok (.value (.bool false)) W:=by
 rw [@run_callFunc_extern Tryz.prog 192 _ (ReflectliteValue.method (ReflectliteValue.valueError "reflectlite.Value.IsNil" 0) ReflectliteValue.isNil) Tryz.func192 (by kernel_rfl) (by kernel_rfl) (by kernel_rfl) (by kernel_rfl)]
 change Result.andThen (Sem.run Tryz.prog (Bind.bind (ReflectliteValue.parts (.agg #[.pointer (some ⟨16,182,none⟩),.pointer (some a),.int .u64 150])) _) W) _=_
 simp only [Sem.run_bind,partsT,Result.andThen]
 simp [ReflectliteValue.isNil,loadVar,isAgg,underlying,Tryz.underlying182,ha,Result.andThen]
theorem as_miss (a t:Addr) (w:World) (hg:w.cell? ⟨9,0,none⟩=some (.iface 303 (.agg #[.pointer (some ⟨16,27,none⟩)]))) :
  Calls Tryz.prog 105 #[.iface 407 (.pointer (some a)),.iface 182 (.pointer (some t))] w fun ev w'=>ev=.returned (.bool false)∧Below w.heap.size w w':=by
 have c1:=callValueOfT
 have c2:=callTypeT
 have c3:=methodKind
 have c4:=callKindT
 have c5:=callKindF
 have c6:=methodElem
 have c7:=callElemT
 have c8:=methodImplements
 have c9:=callImplementsF
 have d1:=methodAssignableTo
 have d2:=callAssignableE
 have d3:=callTypeOfE
 have d4:=noAsE
 have d5:=noUnwrapE
 have d6:=noUnwrapsE
 have n8:=callIsNilT ⟨w.heap.size,0,none⟩ t ((w.alloc (.cells #[.pointer (some t)] 182)).alloc (.cells #[.pointer (some ⟨16,182,none⟩),.pointer (some ⟨w.heap.size,0,none⟩),.int .u64 150] 253)) (by simp)
 have hlt:9<w.heap.size:=by
  rcases Nat.lt_or_ge 9 w.heap.size with h|h
  ·exact h
  ·simp [World.cell?,Array.getElem?_eq_none h] at hg
 have hg2:((w.alloc (.cells #[.pointer (some t)] 182)).alloc (.cells #[.pointer (some ⟨16,182,none⟩),.pointer (some ⟨w.heap.size,0,none⟩),.int .u64 150] 253)).cell? ⟨9,0,none⟩=some (.iface 303 (.agg #[.pointer (some ⟨16,27,none⟩)])):=by
  rw [World.cell?_alloc_lt _ _ ⟨9,0,none⟩ (by simp; omega),World.cell?_alloc_lt _ _ ⟨9,0,none⟩ hlt]; exact hg
 go_enter Tryz.func105,Tryz.ntmps105
 go_wp2
 refine wp_loop_rounds 1 ?_
 rw [rounds_succ]
 go_wp2
 go_ret
 exact ⟨rfl,by repeat (first|exact Below.refl _ _|refine Below.drew ?_|refine Below.alloc ?_ (by simp; try omega) _)⟩
end Go.Proofs.YtjcflddbaeiajacGreatDoor
namespace Go.Proofs.YtjcflddbaeiajacGreatDoor
open Go
theorem leaving_of_handed {a:Assume} {C:Checked} {os:Os} {f:FuncId} {r:Reach} {Pre:World→Array Value→Prop} {Post:World→Array Value→Value→World→Prop} (h:ReturnsInHanded a C os f r Pre Post):ReturnsInLeavingWide a C os f r Pre Post:=fun enter=>by
 obtain ⟨h1,h2,h3,h4,h5⟩:=h enter
 refine ⟨h1,h2,h3,h4,fun w tape i hf=>?_⟩
 obtain ⟨n,v,w',a1,a2,a3,a4,⟨j,last,b1,b2,q,ho,eh⟩,a6⟩:=h5 w tape i hf
 exact ⟨n,v,w',a1,a2,a3,a4,⟨j,last,b1,b2,ho,onlyLeaving_of_quiet q,eh⟩,a6⟩
theorem tied_goes (Lk:Looks) {p:Pinned} {s:OpenSpec} {c:OpenClaim} (al:List (List PathCond)) (kinds:List LaidKind) (tests:Bool) (har:Bool×String) (lk g:Bool)
  (hc:c.holds p s) (hal:∀ D∈al,(c.withDomain D).holds p s) (hw:c.wfByText s=true) (hwal:∀ D∈al,(c.withDomain D).wfByText s=true)
  (htie:c.laidByTextAt Lk p kinds tests)
  (hst:c.start=.entering) (hnb:c.noBlocks=false∧c.again=false) (hm:p.checked.prog.mainIs=some (har.1,har.2.toList)) (hn:(!har.1 && har.2.isEmpty && !lk)=false)
  (hl:∀ f fn,p.checked.prog.funcNamed c.func=some f→p.checked.prog.funcs[f]? = some fn→lk=p.checked.prog.looks []∧∀ (j:Nat) t,fn.params[j]? = some t→p.checked.prog.wantsStandIn t=false)
  (hg:g=c.goesBy p.checked.prog) :
  Claim7.holds p (.plain s) { stood:={ row:=c,standIns:=[],harness:=har,looks:=lk },kinds:=[],alts:=al,goes:=g,laidByText:=true,laidKinds:=kinds,laidTests:=tests,laidLooks:=Lk }:=by
 have h6:∀ r:OpenClaim,Claim7.isSixth { stood:={ row:=r,standIns:=[],harness:=har,looks:=lk },kinds:=[] }=false:=fun r=>by simpa [Claim7.isSixth] using hn
 refine ⟨Claim7.tied_new_at Lk kinds tests (Claim7.new_of_sixth hc har lk hst hnb hm (h6 c) hl) hw,fun D hD=>?_,htie,(fun h=>by cases h),hg⟩
 exact Claim7.tied_new_at Lk kinds tests (Claim7.new_of_sixth (hal D hD) har lk hst hnb hm (h6 _) hl) (hwal D hD)
theorem pruns_f0:(Rows.playRunsRow.wf (OpenSpec.ofChange Rows.playRunsSpec))=true:=by kernel_rfl
theorem pruns_f1:(laidOutB Tryz.prog)=true:=by kernel_rfl
theorem pruns_f2:(mapsRowed Tryz.prog)=true:=by kernel_rfl
theorem pruns_f3:(Tryz.f7.params.all (Tryz.prog.readableRec ·))=true:=by kernel_rfl
theorem pruns_f4:(namedTie Tryz.prog Rows.playRunsRow.named Rows.playRunsSpec.vars)=true:=by kernel_rfl
theorem pruns_f5:((Rows.playRunsRow.stops == []))=true:=by kernel_rfl
theorem pruns_f6:((Tryz.prog.stops == []))=true:=by kernel_rfl
theorem pruns_f7:((Rows.playRunsRow.knobs == []))=true:=by kernel_rfl
theorem pruns_f8:((Tryz.prog.stopKnobs == []))=true:=by kernel_rfl
theorem pruns_f9:((Rows.playRunsRow.inPlace == Tryz.prog.inPlace 7))=true:=by kernel_rfl
theorem pruns_f10:((Rows.playRunsRow.unfollowed == Tryz.prog.unfollowed 7))=true:=by kernel_rfl
theorem pruns_f11:((Rows.playRunsRow.recurses == Tryz.prog.recurses 7))=true:=by kernel_rfl
theorem pruns_f12:((Rows.playRunsRow.named == Tryz.prog.varsNamed 7))=true:=by kernel_rfl
theorem pruns_f13:((Rows.playRunsRow.maps == (Tryz.f7.params.toList ++ Rows.playRunsSpec.plain.varTypes Tryz.prog).any (Tryz.prog.mapsRec ·)))=true:=by kernel_rfl
theorem pruns_f14:((Rows.playRunsRow.ifaces == (Tryz.f7.params.toList ++ Rows.playRunsSpec.plain.varTypes Tryz.prog).any (Tryz.prog.ifacesRec ·)))=true:=by kernel_rfl
theorem pruns_f15:((Rows.playRunsRow.mapsOut == Tryz.prog.mapsAmong Tryz.f7.resultTypes.toList))=true:=by kernel_rfl
theorem pruns_f16:((Rows.playRunsRow.loops == (Tryz.f7.params.toList ++ Rows.playRunsSpec.plain.varTypes Tryz.prog).any (Tryz.prog.loopsFrom ·)))=true:=by kernel_rfl
theorem pruns_f17:((Rows.playRunsRow.wideKeys == (Tryz.f7.params.toList ++ Rows.playRunsSpec.plain.varTypes Tryz.prog ++ Tryz.f7.resultTypes.toList).any (Tryz.prog.wideKeysFrom ·)))=true:=by kernel_rfl
theorem pruns_f18:(Rows.playRunsSpec.vars.all (Tryz.prog.varReadable ·))=true:=by kernel_rfl
theorem pruns_f19:(Tryz.f7.resultTypes.all (fun t=>Tryz.prog.readableRec t && decide (t<Tryz.prog.types.size)))=true:=by kernel_rfl
theorem pruns_f20:((Rows.playRunsRow.ifacesOut == Tryz.f7.resultTypes.toList.any (Tryz.prog.ifacesRec ·)))=true:=by kernel_rfl
theorem pruns_f21:((Rows.playRunsRow.loopsOut == Tryz.f7.resultTypes.toList.any (Tryz.prog.loopsFrom ·)))=true:=by kernel_rfl
theorem pruns_f22:((Rows.playRunsRow.plainKeys == Tryz.prog.plainKeys))=true:=by kernel_rfl
theorem pruns_f23:(Rows.playRunsRow.shortTexts.isNone)=true:=by kernel_rfl
theorem pruns_f24:(Tryz.prog.stopsHeard)=true:=by kernel_rfl
theorem pruns_f25:(Tryz.prog.mayEnter)=true:=by kernel_rfl
theorem pruns_f26:((Rows.playRunsRow.lifted == Tryz.prog.liftsFinal))=true:=by kernel_rfl
theorem pruns_f27:((Tryz.prog.make == some Rows.playRunsRow.make))=true:=by kernel_rfl
theorem pruns_f28:((Rows.playRunsRow.kinds == (if Rows.playRunsRow.domain.isEmpty then [] else Tryz.f7.params.toList.map fun t=>match Tryz.prog.underlying t with|some (.int k)=>some k|_=>none)))=true:=by kernel_rfl
theorem pruns_f29:((Rows.playRunsRow.pinned == Rows.playRunsRow.pinnedBy))=true:=by kernel_rfl
theorem pruns_f30:((Rows.playRunsRow.veiled == (Tryz.f7.params.toList ++ Rows.playRunsSpec.plain.varTypes Tryz.prog ++ Tryz.f7.resultTypes.toList).any (Tryz.prog.veiledRec ·)))=true:=by kernel_rfl
theorem pruns_f31:(Rows.playRunsRow.veiledFits Tryz.prog Tryz.f7.params.toList (Tryz.f7.params.toList ++ Rows.playRunsSpec.plain.varTypes Tryz.prog ++ Tryz.f7.resultTypes.toList))=true:=by kernel_rfl
theorem pruns_closed:joinedFacts Tryz.prog 7 Tryz.f7 Rows.playRunsSpec Rows.playRunsRow=true:=by
 unfold joinedFacts
 rw [pruns_f0,pruns_f1,pruns_f2,pruns_f3,pruns_f4,pruns_f5,pruns_f6,pruns_f7,pruns_f8,pruns_f9,pruns_f10,pruns_f11,pruns_f12,pruns_f13,pruns_f14,pruns_f15,pruns_f16,pruns_f17,pruns_f18,pruns_f19,pruns_f20,pruns_f21,pruns_f22,pruns_f23,pruns_f24,pruns_f25,pruns_f26,pruns_f27]
 simp only [Bool.true_and,Bool.and_eq_true]
 exact ⟨⟨⟨pruns_f28,pruns_f29⟩,pruns_f30⟩,pruns_f31⟩
end Go.Proofs.YtjcflddbaeiajacGreatDoor
namespace Go.Proofs.YtjcflddbaeiajacGreatDoor
open Go.ChangeShapes Go.WideShapes Go.RowKit
theorem own:ownKnob Tryz.prog.godebug=none:=by kernel_rfl
theorem laidOut:laidOutB Tryz.prog=true:=by kernel_rfl
theorem star: "*" ++ "errors.errorString"= "*errors.errorString":=by decide
theorem rowErrS (u:TypeId) (h:Tryz.prog.typeName? 3 u=some "*errors.errorString"):u=407 :=
 typeName_ptr_named (nm:= "errors.errorString") (by rw [star]; kernel_rfl) (by kernel_rfl) (by decide) u (by rw [star]; exact h)
theorem cellsErrS:Tryz.prog.cellsOf 425=1:=by kernel_rfl
theorem cellsString:Tryz.prog.cellsOf 9=1:=by kernel_rfl
def errD (text:List UInt8):DataW Unit:=.iface "*errors.errorString" (.ptr (.agg [.lit (.string text)]))
structure Sent (W:World) (g:Nat) (a:Addr):Prop where
 var:W.cell? ⟨g,0,none⟩=some (.iface 407 (.pointer (some a)))
 str:∃ s,W.cell? a=some (.string s)
 row:∃ c t,W.heap[a.block]? = some (.cells c t (0,0))
theorem sents {W:World}:∀ (l:List (String×DataW Unit)) (gs:List Nat) (texts:List (List UInt8)),
  l.map (fun x=>Tryz.prog.globalNamed x.1)=gs.map some→(∀ g∈gs,(Tryz.prog.globals[g]?).map (·.type)=some 27)→l.map (·.2)=texts.map errD →
  ∀ ps,DataW.LaidVars Tryz.prog W l ps→ps.Nodup →
  (∀ b off,MemPlace.cell b off∈ps→(∃ c t,W.heap[b]? = some (.cells c t (0,0)))∧∀ u v,W.cell? ⟨b,off,none⟩=some (.iface u v)→Value.okWide Tryz.prog W .any 0 u v) →
  ∃ ads:List Addr,ads.length=gs.length∧ads.Nodup∧(∀ a∈ads,MemPlace.cell a.block a.off∈ps∧a.spot=none)∧∀ (i g:Nat) (a:Addr),gs[i]? = some g→ads[i]? = some a→Sent W g a
 | [],[],_,_,_,_,_,_,_,_=>⟨[],rfl,List.nodup_nil,(fun a h=>by cases h),fun i g a h=>by simp at h⟩
 | [],_ :: _,_,h,_,_,_,_,_,_=>by simp at h
 | _ :: _,[],_,h,_,_,_,_,_,_=>by simp at h
 | _ :: _,_ :: _,[],_,_,h,_,_,_,_=>by simp at h
 | (n,d) :: l,g :: gs,text :: texts,hg,ht,hd,ps,hl,hnd,hrows=>by
  simp only [List.map_cons,List.cons.injEq] at hg hd
  obtain ⟨hg0,hg⟩:=hg
  obtain ⟨hd0,hd⟩:=hd
  obtain ⟨g',t,cs,fuel,p,q,e1,e2,e3,e4,e5,rfl⟩:=hl
  obtain rfl:=Option.some.inj (hg0.symm.trans e1)
  obtain rfl:=Option.some.inj ((ht g (List.mem_cons_self)).symm.trans e2)
  subst hd0
  obtain ⟨l0⟩:=cs
  have hvc:∀ v,l0=[v]→W.cell? ⟨g,0,none⟩=some v:=fun v e=>by subst e; simpa using World.var?_cell hg0 e3 0
  have ok0:∀ u v,l0=[.iface u v]→Value.okWide Tryz.prog W .any 0 u v:=fun u v e=>(hrows g 0 (by subst e; simp [MemPlace.row])).2 u v (hvc _ e)
  obtain ⟨a0,s0,rfl,hc0,hs0,hz0,rfl⟩:=errorString_of_trod Tryz.underlying27 rowErrS Tryz.underlying407 Tryz.underlying425 rfl rfl Tryz.underlying9 cellsErrS cellsString e4 ok0
  have hr0:=(hrows a0.block a0.off (by simp [MemPlace.row])).1
  obtain ⟨ads,h1,h2,h3,h4⟩:=sents l gs texts hg (fun g' hm=>ht g' (List.mem_cons_of_mem _ hm)) hd q e5 (hnd.sublist (List.sublist_append_right _ _)) (fun b off hm=>hrows b off (List.mem_append_right _ hm))
  have hsp:a0.spot=none:=by
   cases hq:a0.spot with
   | none=>rfl
   | some k=>unfold World.cell? at hc0; rw [hq] at hc0; revert hc0; split <;> simp
  refine ⟨a0 :: ads,by simp [h1],?_,?_,?_⟩
  ·refine List.nodup_cons.2 ⟨fun hm=>?_,h2⟩
   have hq:=(h3 a0 hm).1
   rw [List.append_assoc] at hnd
   have h5:=(List.nodup_append.1 (List.nodup_append.1 hnd).2.1).2.2 (MemPlace.cell a0.block a0.off) (by simp [MemPlace.row]) _ hq
   exact h5 rfl
  ·intro a hm
   rcases List.mem_cons.1 hm with rfl|hm
   ·exact ⟨by simp [MemPlace.row],hsp⟩
   ·exact ⟨List.mem_append_right _ (h3 a hm).1,(h3 a hm).2⟩
  ·intro i g' a hgi hai
   cases i with
   | zero =>
    simp at hgi hai
    subst hgi; subst hai
    exact ⟨hvc _ rfl,⟨s0,hc0⟩,hr0⟩
   | succ i=>exact h4 i g' a (by simpa using hgi) (by simpa using hai)
def textOf:DataW Unit→List UInt8
 | .iface _ (.ptr (.agg [.lit (.string t)]))=>t
 | _=>[]
end Go.Proofs.YtjcflddbaeiajacGreatDoor
