/-
  On the way to SAnewProof: Plain Plain2 Plain4 Laid DoorA LV SAnewF SAnewG.
-/
import Derived.Test.YtaehdgemkafinaaGreatDoorRows
import Derived.Test.YtaehdgemkafinaaGreatDoorCards
import Derived.WalkKit
import Derived.ProofKit
import Derived.LaidLaws
import Derived.LaidMore
import Derived.LaidSub
import Derived.LaidHandle
import Derived.MakeChecks
import Derived.Lay
import Derived.Conc.Holds
import Derived.Leaving
import Derived.SevenTiedAt
import Derived.JoinedOf
set_option maxHeartbeats 8000000
set_option maxRecDepth 100000
namespace Go.Proofs.YtaehdgemkafinaaGreatDoor
open Go.RowKit

/-! ### Bits of an int that is not below 0 -/
theorem ofInt_nat (a:Nat) (ha:a<9223372036854775808):(BitVec.ofInt 64 (a:Int)).toNat=a:=by
 rw [BitVec.ofInt_natCast,BitVec.toNat_ofNat]; exact Nat.mod_eq_of_lt (by omega)
theorem bits_and_nat (a b:Nat) (ha:a<9223372036854775808) (hb:b<9223372036854775808):bits .and .i64 (a:Int) (b:Int)=((a &&& b:Nat):Int):=by
 have hx:a &&& b<2 ^ 63:=Nat.and_lt_two_pow _ (by omega)
 show IntKind.i64.wrap ((BitVec.ofInt 64 (a:Int) &&& BitVec.ofInt 64 (b:Int)).toNat:Int)=_
 rw [BitVec.toNat_and,ofInt_nat a ha,ofInt_nat b hb,IntKind.wrap_i64]
 omega
theorem bits_or_nat (a b:Nat) (ha:a<9223372036854775808) (hb:b<9223372036854775808):bits .or .i64 (a:Int) (b:Int)=((a ||| b:Nat):Int):=by
 have hx:a ||| b<2 ^ 63:=Nat.or_lt_two_pow (by omega) (by omega)
 show IntKind.i64.wrap ((BitVec.ofInt 64 (a:Int) ||| BitVec.ofInt 64 (b:Int)).toNat:Int)=_
 rw [BitVec.toNat_or,ofInt_nat a ha,ofInt_nat b hb,IntKind.wrap_i64]
 omega
def bit (s:Int) (k:Nat):Bool:=s.toNat.testBit k
def sumTo (zs:List Int) (s:Int):Nat→Int
 | 0=>0
 | k+1=>sumTo zs s k+if bit s k then zs.getD k 0 else 0
def psum (zs:List Int):Nat→Int
 | 0=>0
 | k+1=>psum zs k+zs.getD k 0
def tot (zs:List Int):Int:=psum zs zs.length
def okTo (zs:List Int) (k:Nat):Prop:=∀ i,i<k→0≤zs.getD i 0∧zs.getD i 0≤1000
def errW (zs:List Int):Nat :=
 if zs.length<1 ∨ 7<zs.length then 3 else if (zs.all fun n=>decide (0≤n∧n≤1000))=true then (if tot zs=0 then 4 else 0) else 2
def errS (zs:List Int) (s:Int):Nat:=if errW zs=0 then (if s<0 ∨ 2 ^ zs.length≤s then 2 else 0) else errW zs
def enoughB (zs:List Int) (s:Int):Bool:=decide (tot zs<2 * sumTo zs s zs.length)
theorem getD_lt (zs:List Int) (k:Nat) (h:k<zs.length):zs.getD k 0=zs[k]:=by simp [h]
theorem okTo_all (zs:List Int):okTo zs zs.length ↔ (zs.all fun n=>decide (0≤n∧n≤1000))=true:=by
 rw [List.all_eq_true]
 constructor
 ·intro h x hx
  obtain ⟨i,hi,rfl⟩:=List.getElem_of_mem hx
  have:=h i hi
  rw [getD_lt zs i hi] at this
  simpa using this
 ·intro h i hi
  have:=h zs[i] (List.getElem_mem hi)
  rw [getD_lt zs i hi]
  simpa using this
theorem okTo_succ {zs:List Int} {k:Nat} (h:okTo zs k) (h0:0≤zs.getD k 0) (h1:zs.getD k 0≤1000):okTo zs (k+1):=by
 intro i hi
 rcases Nat.lt_succ_iff_lt_or_eq.1 hi with h'|rfl
 ·exact h i h'
 ·exact ⟨h0,h1⟩
theorem psum_bd {zs:List Int}:∀ {k:Nat},okTo zs k→0≤psum zs k∧psum zs k≤1000 * k
 | 0,_=>by simp [psum]
 | k+1,h=>by
  have ih:=psum_bd (k:=k) (fun i hi=>h i (Nat.lt_succ_of_lt hi))
  have:=h k (Nat.lt_succ_self k)
  simp only [psum]; omega
theorem sumTo_bd {zs:List Int} (s:Int):∀ {k:Nat},okTo zs k→0≤sumTo zs s k∧sumTo zs s k≤psum zs k
 | 0,_=>by simp [psum,sumTo]
 | k+1,h=>by
  have ih:=sumTo_bd s (k:=k) (fun i hi=>h i (Nat.lt_succ_of_lt hi))
  have:=h k (Nat.lt_succ_self k)
  simp only [psum,sumTo]; split <;> omega
theorem errW_shape {zs:List Int} (h:zs.length<1 ∨ 7<zs.length):errW zs=3:=by unfold errW; rw [if_pos h]
theorem errW_bound {zs:List Int} (h:¬ (zs.length<1 ∨ 7<zs.length)) {k:Nat} (hk:k<zs.length) (hb:zs.getD k 0<0 ∨ 1000<zs.getD k 0):errW zs=2:=by
 unfold errW; rw [if_neg h,if_neg]
 rw [← okTo_all]; intro g; have:=g k hk; omega
theorem errW_ok {zs:List Int} (h:¬ (zs.length<1 ∨ 7<zs.length)) (g:okTo zs zs.length):errW zs=if tot zs=0 then 4 else 0:=by
 unfold errW; rw [if_neg h,if_pos ((okTo_all zs).1 g)]
theorem errW_zero {zs:List Int} (h:errW zs=0):1≤zs.length∧zs.length≤7∧okTo zs zs.length∧tot zs≠0:=by
 unfold errW at h
 split at h
 ·cases h
 ·split at h
  ·split at h
   ·cases h
   ·refine ⟨by omega,by omega,(okTo_all zs).2 (by assumption),by assumption⟩
  ·cases h
theorem errS_zero {zs:List Int} {s:Int} (h:errS zs s=0):errW zs=0∧0≤s∧s<2 ^ zs.length:=by
 unfold errS at h
 split at h
 ·split at h
  ·cases h
  ·exact ⟨by assumption,by omega,by omega⟩
 ·exact absurd h (by assumption)
theorem errS_mk {zs:List Int} {s:Int} (h:errW zs=0) (h0:0≤s) (h1:s<2 ^ zs.length):errS zs s=0:=by
 unfold errS; rw [if_pos h,if_neg (by omega)]
theorem pow_le7 {n:Nat} (h:n≤7):(2:Int) ^ n≤128∧(1:Int)≤2 ^ n:=by
 have:n=0 ∨ n=1 ∨ n=2 ∨ n=3 ∨ n=4 ∨ n=5 ∨ n=6 ∨ n=7:=by omega
 rcases this with rfl|rfl|rfl|rfl|rfl|rfl|rfl|rfl <;> decide
theorem pow_le30 {n:Nat} (h:n≤30):(2:Int) ^ n≤1073741824∧(1:Int)≤2 ^ n:=by
 have h1:(2:Nat) ^ n≤2 ^ 30:=Nat.pow_le_pow_right (by decide) h
 have h2:1≤(2:Nat) ^ n:=Nat.one_le_two_pow
 have e:((2:Int) ^ n)=(((2:Nat) ^ n:Nat):Int):=by simp
 rw [e]; constructor
 ·have:(2:Nat) ^ 30=1073741824:=by decide
  omega
 ·omega
theorem bit_and {s:Int} (k:Nat) (h0:0≤s) (h1:s<9223372036854775808):(bits BinOp.and IntKind.i64 (s / 2 ^ k) 1 == 1)=bit s k:=by
 obtain ⟨m,rfl⟩:=Int.eq_ofNat_of_zero_le h0
 have e:((m:Int) / 2 ^ k)=((m / 2 ^ k:Nat):Int):=by simp
 have hlt:m / 2 ^ k<9223372036854775808:=Nat.lt_of_le_of_lt (Nat.div_le_self _ _) (by omega)
 rw [e,show (1:Int)=((1:Nat):Int) from rfl,bits_and_nat _ 1 hlt (by decide),Nat.and_one_is_mod]
 unfold bit
 rw [Int.toNat_natCast,Nat.testBit_eq_decide_div_mod_eq,Bool.eq_iff_iff]
 simp; omega
theorem bit_two {n k:Nat} (h:k<n):bit (2 ^ n - 1) k=true:=by
 unfold bit
 have e:((2:Int) ^ n - 1).toNat=2 ^ n - 1:=by
  have h2:1≤(2:Nat) ^ n:=Nat.one_le_two_pow
  have e:((2:Int) ^ n)=(((2:Nat) ^ n:Nat):Int):=by simp
  rw [e]; omega
 rw [e,Nat.testBit_two_pow_sub_one]; simpa using h
theorem sumTo_all (zs:List Int) {n:Nat}:∀ {k:Nat},k≤n→sumTo zs (2 ^ n - 1) k=psum zs k
 | 0,_=>rfl
 | k+1,h=>by simp only [sumTo,psum]; rw [sumTo_all zs (k:=k) (by omega),bit_two (by omega)]; simp
theorem pow_nat (n:Nat):((2:Int) ^ n)=(((2:Nat) ^ n:Nat):Int):=by simp
theorem bit_compl {n:Nat} {a:Int} (h0:0≤a) (h1:a<2 ^ n) {k:Nat} (hk:k<n):bit (2 ^ n - 1 - a) k=!bit a k:=by
 obtain ⟨m,rfl⟩:=Int.eq_ofNat_of_zero_le h0
 rw [pow_nat] at h1
 unfold bit
 have e:((2:Int) ^ n - 1 - (m:Int)).toNat=2 ^ n - (m+1):=by rw [pow_nat]; omega
 rw [e,Nat.testBit_two_pow_sub_succ (by omega)]
 simp [hk]
theorem bit_or {a b:Int} (h0:0≤a) (h1:a<128) (g0:0≤b) (g1:b<128) (k:Nat):bit (bits .or .i64 a b) k=(bit a k || bit b k):=by
 obtain ⟨m,rfl⟩:=Int.eq_ofNat_of_zero_le h0
 obtain ⟨n,rfl⟩:=Int.eq_ofNat_of_zero_le g0
 rw [bits_or_nat m n (by omega) (by omega)]
 unfold bit
 simp [Nat.testBit_or]
theorem bit_none {a b:Int} (h0:0≤a) (h1:a<128) (g0:0≤b) (g1:b<128) (h:bits .and .i64 a b=0) (k:Nat):(bit a k && bit b k)=false:=by
 obtain ⟨m,rfl⟩:=Int.eq_ofNat_of_zero_le h0
 obtain ⟨n,rfl⟩:=Int.eq_ofNat_of_zero_le g0
 rw [bits_and_nat m n (by omega) (by omega)] at h
 have e:m &&& n=0:=by omega
 unfold bit
 rw [Int.toNat_natCast,Int.toNat_natCast,← Nat.testBit_and,e,Nat.zero_testBit]
theorem sumTo_or {zs:List Int} {a b:Int} (h0:0≤a) (h1:a<128) (g0:0≤b) (g1:b<128):∀ {k:Nat},okTo zs k→sumTo zs a k≤sumTo zs (bits .or .i64 a b) k
 | 0,_=>by simp [sumTo]
 | k+1,h=>by
  have ih:=sumTo_or h0 h1 g0 g1 (k:=k) (fun i hi=>h i (by omega))
  have:=h k (by omega)
  simp only [sumTo]
  rw [bit_or h0 h1 g0 g1]
  generalize zs.getD k 0=z at *
  cases bit a k <;> cases bit b k <;> simp <;> omega
theorem sumTo_apart {zs:List Int} {a b:Int} (h0:0≤a) (h1:a<128) (g0:0≤b) (g1:b<128) (hab:bits .and .i64 a b=0):∀ {k:Nat},okTo zs k→sumTo zs a k+sumTo zs b k≤psum zs k
 | 0,_=>by simp [sumTo,psum]
 | k+1,h=>by
  have ih:=sumTo_apart h0 h1 g0 g1 hab (k:=k) (fun i hi=>h i (by omega))
  have:=h k (by omega)
  have hn:=bit_none h0 h1 g0 g1 hab k
  simp only [sumTo,psum]
  revert hn
  generalize zs.getD k 0=z at *
  cases bit a k <;> cases bit b k <;> simp <;> omega
theorem or_lt {n:Nat} {a b:Int} (hn:n≤7) (h0:0≤a) (h1:a<2 ^ n) (g0:0≤b) (g1:b<2 ^ n):0≤bits .or .i64 a b∧bits .or .i64 a b<2 ^ n:=by
 have hp:=(pow_le7 hn).1
 obtain ⟨m,rfl⟩:=Int.eq_ofNat_of_zero_le h0
 obtain ⟨l,rfl⟩:=Int.eq_ofNat_of_zero_le g0
 rw [pow_nat] at h1 g1 hp ⊢
 have:m ||| l<2 ^ n:=Nat.or_lt_two_pow (by omega) (by omega)
 rw [bits_or_nat m l (by omega) (by omega)]
 omega
theorem lt128 {zs:List Int} {a:Int} (h:errS zs a=0):0≤a∧a<128:=by
 obtain ⟨h1,h2,h3⟩:=errS_zero h
 have:=(pow_le7 (errW_zero h1).2.1).1
 omega
theorem meet {zs:List Int} {a b:Int} (h:errS zs a=0) (g:errS zs b=0) (x:enoughB zs a=true) (y:enoughB zs b=true):(bits .and .i64 a b == 0)=false:=by
 rw [beq_eq_false_iff_ne]
 intro e
 have ha:=lt128 h
 have hb:=lt128 g
 have:=sumTo_apart ha.1 ha.2 hb.1 hb.2 e (errW_zero (errS_zero h).1).2.2.1
 unfold enoughB tot at x y
 have x':=of_decide_eq_true x
 have y':=of_decide_eq_true y
 omega
theorem more {zs:List Int} {a b:Int} (h:errS zs a=0) (g:errS zs b=0) (x:enoughB zs a=true):enoughB zs (bits .or .i64 a b)=true:=by
 have ha:=lt128 h
 have hb:=lt128 g
 have:=sumTo_or ha.1 ha.2 hb.1 hb.2 (errW_zero (errS_zero h).1).2.2.1
 unfold enoughB at x ⊢
 have x':=of_decide_eq_true x
 exact decide_eq_true (by omega)
def lowB (s p:Nat):Bool :=
 let rest:Int:=((s / 2 ^ p * 2 ^ p:Nat):Int)
 (rest == 0) || (List.range 7).any fun q=>decide (p≤q) && (bits .and .i64 rest (-rest) == 2 ^ q) && (bits .and .i64 rest (rest - 1) == ((s / 2 ^ (q+1) * 2 ^ (q+1):Nat):Int)) && (bits .andNot .i64 (s:Int) (2 ^ q) == (s:Int) - 2 ^ q) && bit s q && decide (s / 2 ^ (q+1) * 2 ^ (q+1)<s / 2 ^ p * 2 ^ p) && (List.range q).all fun i=>decide (i<p) || !bit s i
theorem lowAll:((List.range 128).all fun s=>(List.range 8).all fun p=>lowB s p)=true:=by decide +kernel
theorem low {s p:Nat} (hs:s<128) (hp:p<8) (h0:((s / 2 ^ p * 2 ^ p:Nat):Int)≠0) :
  ∃ q,p≤q∧q<7∧bits .and .i64 ((s / 2 ^ p * 2 ^ p:Nat):Int) (-((s / 2 ^ p * 2 ^ p:Nat):Int))=2 ^ q∧bits .and .i64 ((s / 2 ^ p * 2 ^ p:Nat):Int) (((s / 2 ^ p * 2 ^ p:Nat):Int) - 1)=((s / 2 ^ (q+1) * 2 ^ (q+1):Nat):Int) ∧
   bits .andNot .i64 (s:Int) (2 ^ q)=(s:Int) - 2 ^ q∧bit s q=true∧s / 2 ^ (q+1) * 2 ^ (q+1)<s / 2 ^ p * 2 ^ p∧∀ i,p≤i→i<q→bit s i=false:=by
 have h:=List.all_eq_true.1 (List.all_eq_true.1 lowAll s (List.mem_range.2 hs)) p (List.mem_range.2 hp)
 unfold lowB at h
 rw [Bool.or_eq_true] at h
 rcases h with h|h
 ·exact absurd (by simpa using h) h0
 ·obtain ⟨q,hq,h⟩:=List.any_eq_true.1 h
  simp only [Bool.and_eq_true,decide_eq_true_eq,beq_iff_eq] at h
  obtain ⟨⟨⟨⟨⟨⟨h1,h2⟩,h3⟩,h4⟩,h5⟩,h7⟩,h6⟩:=h
  refine ⟨q,h1,List.mem_range.1 hq,h2,h3,h4,h5,h7,fun i hi1 hi2=>?_⟩
  have:=List.all_eq_true.1 h6 i (List.mem_range.2 hi2)
  simp at this
  rcases this with h|h
  ·omega
  ·exact h
end Go.Proofs.YtaehdgemkafinaaGreatDoor
namespace Go.Proofs.YtaehdgemkafinaaGreatDoor
open Go.ChangeShapes Go.WideShapes Go.RowKit
theorem own:ownKnob Tryz.prog.godebug=none:=by kernel_rfl
theorem laidOut:laidOutB Tryz.prog=true:=by kernel_rfl
theorem star: "*" ++ "errors.errorString"= "*errors.errorString":=by decide
theorem rowErrS (u:TypeId) (h:Tryz.prog.typeName? 3 u=some "*errors.errorString"):u=318 :=
 typeName_ptr_named (nm:= "errors.errorString") (by rw [star]; kernel_rfl) (by kernel_rfl) (by decide) u (by rw [star]; exact h)
theorem cellsErrS:Tryz.prog.cellsOf 336=1:=by kernel_rfl
theorem cellsString:Tryz.prog.cellsOf 9=1:=by kernel_rfl
def errD (text:List UInt8):DataW Unit:=.iface "*errors.errorString" (.ptr (.agg [.lit (.string text)]))
structure Sent (W:World) (g:Nat) (a:Addr):Prop where
 var:W.cell? ⟨g,0,none⟩=some (.iface 318 (.pointer (some a)))
 str:∃ s,W.cell? a=some (.string s)
 row:∃ c t,W.heap[a.block]? = some (.cells c t (0,0))
abbrev saGreat:List (String×DataW Unit):=[("unicode/utf8.first",Rows.laid_unicode_utf8_first)]
theorem sa_great:((Rows.scriptAnewRow.laid.filter fun x=>x.2.handleName?.isNone).filter fun x=>["unicode/utf8.first"].contains x.1)=saGreat:=by kernel_rfl
theorem sad_fits (os:Os):(World.doorLaid Tryz.prog 212 os).layFits Tryz.prog saGreat ((List.range (World.doorLaid Tryz.prog 212 os).heap.size).filter (· != 14))=true:=by kernel_rfl
theorem sad_ifaces (os:Os) (args:Array Value):(World.doorLaid Tryz.prog 212 os).layIfaces Tryz.prog saGreat (((World.doorLaid Tryz.prog 212 os).layVars Tryz.prog saGreat).forCall (fun _ _=>0) ⟨#[],args,[]⟩).memory=true:=by kernel_rfl
theorem sad_in (os:Os) (args:Array Value):LaidIn Tryz.prog (((World.doorLaid Tryz.prog 212 os).layVars Tryz.prog saGreat).forCall (fun _ _=>0) ⟨#[],args,[]⟩).memory ((Rows.scriptAnewRow.laid.filter fun x=>x.2.handleName?.isNone).filter fun x=>!["unicode/utf8.first"].contains x.1) ((List.range (World.doorLaid Tryz.prog 212 os).heap.size).filter (· != 14)) :=
 LaidIn.of_run _ 8 (by kernel_rfl) (by kernel_rfl) (by kernel_rfl) (by kernel_rfl)
theorem sanew_door (os:Os) (args:Array Value):laidMetH Tryz.prog Rows.scriptAnewRow.laid (((World.doorLaid Tryz.prog 212 os).layVars Tryz.prog saGreat).forCall (fun _ _=>0) ⟨#[],args,[]⟩).memory :=
 laidMetH_of_parts3 (fuel:=8) (laidMet_layVars (w0:=World.doorLaid Tryz.prog 212 os) ["unicode/utf8.first"] _ (by rw [sa_great]; simp [World.memory,World.forCall,Input.heap]) (by rw [sa_great]; exact sad_fits os) (by rw [sa_great]; exact sad_ifaces os args) (sad_in os args)) (by kernel_rfl) (by kernel_rfl)
end Go.Proofs.YtaehdgemkafinaaGreatDoor
namespace Go.Proofs.YtaehdgemkafinaaGreatDoor
open Go
theorem leaving_of_handed {a:Assume} {C:Checked} {os:Os} {f:FuncId} {r:Reach} {Pre:World→Array Value→Prop} {Post:World→Array Value→Value→World→Prop} (h:ReturnsInHanded a C os f r Pre Post):ReturnsInLeavingWide a C os f r Pre Post:=fun enter=>by
 obtain ⟨h1,h2,h3,h4,h5⟩:=h enter
 refine ⟨h1,h2,h3,h4,fun w tape i hf=>?_⟩
 obtain ⟨n,v,w',a1,a2,a3,a4,⟨j,last,b1,b2,q,ho,eh⟩,a6⟩:=h5 w tape i hf
 exact ⟨n,v,w',a1,a2,a3,a4,⟨j,last,b1,b2,ho,onlyLeaving_of_quiet q,eh⟩,a6⟩
theorem tied_goes (Lk:Looks) {p:Pinned} {s:OpenSpec} {c:OpenClaim} (al:List (List PathCond)) (kinds:List LaidKind) (tests:Bool) (har:Bool×String) (lk g:Bool)
  (hc:c.holds p s) (hal:∀ D∈al,(c.withDomain D).holds p s) (hw:c.wfByText s=true) (hwal:∀ D∈al,(c.withDomain D).wfByText s=true)
  (htie:c.laidByTextAt Lk p kinds tests)
  (hst:c.start=.entering) (hnb:c.noBlocks=false∧c.again=false) (hm:p.checked.prog.mainIs=some (har.1,har.2.toList)) (hn:(!har.1 && har.2.isEmpty && !lk)=false)
  (hl:∀ f fn,p.checked.prog.funcNamed c.func=some f→p.checked.prog.funcs[f]? = some fn→lk=p.checked.prog.looks []∧∀ (j:Nat) t,fn.params[j]? = some t→p.checked.prog.wantsStandIn t=false)
  (hg:g=c.goesBy p.checked.prog) :
  Claim7.holds p (.plain s) { stood:={ row:=c,standIns:=[],harness:=har,looks:=lk },kinds:=[],alts:=al,goes:=g,laidByText:=true,laidKinds:=kinds,laidTests:=tests,laidLooks:=Lk }:=by
 have h6:∀ r:OpenClaim,Claim7.isSixth { stood:={ row:=r,standIns:=[],harness:=har,looks:=lk },kinds:=[] }=false:=fun r=>by simpa [Claim7.isSixth] using hn
 refine ⟨Claim7.tied_new_at Lk kinds tests (Claim7.new_of_sixth hc har lk hst hnb hm (h6 c) hl) hw,fun D hD=>?_,htie,(fun h=>by cases h),hg⟩
 exact Claim7.tied_new_at Lk kinds tests (Claim7.new_of_sixth (hal D hD) har lk hst hnb hm (h6 _) hl) (hwal D hD)
theorem sanew_f0:(Rows.scriptAnewRow.wf (OpenSpec.ofChange Rows.scriptAnewSpec))=true:=by kernel_rfl
theorem sanew_f1:(laidOutB Tryz.prog)=true:=by kernel_rfl
theorem sanew_f2:(mapsRowed Tryz.prog)=true:=by kernel_rfl
theorem sanew_f3:(Tryz.f4.params.all (Tryz.prog.readableRec ·))=true:=by kernel_rfl
theorem sanew_f4:(namedTie Tryz.prog Rows.scriptAnewRow.named Rows.scriptAnewSpec.vars)=true:=by kernel_rfl
theorem sanew_f5:((Rows.scriptAnewRow.stops == []))=true:=by kernel_rfl
theorem sanew_f6:((Tryz.prog.stops == []))=true:=by kernel_rfl
theorem sanew_f7:((Rows.scriptAnewRow.knobs == []))=true:=by kernel_rfl
theorem sanew_f8:((Tryz.prog.stopKnobs == []))=true:=by kernel_rfl
theorem sanew_f9:((Rows.scriptAnewRow.inPlace == Tryz.prog.inPlace 4))=true:=by kernel_rfl
theorem sanew_f10:((Rows.scriptAnewRow.unfollowed == Tryz.prog.unfollowed 4))=true:=by kernel_rfl
theorem sanew_f11:((Rows.scriptAnewRow.recurses == Tryz.prog.recurses 4))=true:=by kernel_rfl
theorem sanew_f12:((Rows.scriptAnewRow.named == Tryz.prog.varsNamed 4))=true:=by kernel_rfl
theorem sanew_f13:((Rows.scriptAnewRow.maps == (Tryz.f4.params.toList ++ Rows.scriptAnewSpec.plain.varTypes Tryz.prog).any (Tryz.prog.mapsRec ·)))=true:=by kernel_rfl
theorem sanew_f14:((Rows.scriptAnewRow.ifaces == (Tryz.f4.params.toList ++ Rows.scriptAnewSpec.plain.varTypes Tryz.prog).any (Tryz.prog.ifacesRec ·)))=true:=by kernel_rfl
theorem sanew_f15:((Rows.scriptAnewRow.mapsOut == Tryz.prog.mapsAmong Tryz.f4.resultTypes.toList))=true:=by kernel_rfl
theorem sanew_f16:((Rows.scriptAnewRow.loops == (Tryz.f4.params.toList ++ Rows.scriptAnewSpec.plain.varTypes Tryz.prog).any (Tryz.prog.loopsFrom ·)))=true:=by kernel_rfl
theorem sanew_f17:((Rows.scriptAnewRow.wideKeys == (Tryz.f4.params.toList ++ Rows.scriptAnewSpec.plain.varTypes Tryz.prog ++ Tryz.f4.resultTypes.toList).any (Tryz.prog.wideKeysFrom ·)))=true:=by kernel_rfl
theorem sanew_f18:(Rows.scriptAnewSpec.vars.all (Tryz.prog.varReadable ·))=true:=by kernel_rfl
theorem sanew_f19:(Tryz.f4.resultTypes.all (fun t=>Tryz.prog.readableRec t && decide (t<Tryz.prog.types.size)))=true:=by kernel_rfl
theorem sanew_f20:((Rows.scriptAnewRow.ifacesOut == Tryz.f4.resultTypes.toList.any (Tryz.prog.ifacesRec ·)))=true:=by kernel_rfl
theorem sanew_f21:((Rows.scriptAnewRow.loopsOut == Tryz.f4.resultTypes.toList.any (Tryz.prog.loopsFrom ·)))=true:=by kernel_rfl
theorem sanew_f22:((Rows.scriptAnewRow.plainKeys == Tryz.prog.plainKeys))=true:=by kernel_rfl
theorem sanew_f23:(Rows.scriptAnewRow.shortTexts.isNone)=true:=by kernel_rfl
theorem sanew_f24:(Tryz.prog.stopsHeard)=true:=by kernel_rfl
theorem sanew_f25:(Tryz.prog.mayEnter)=true:=by kernel_rfl
theorem sanew_f26:((Rows.scriptAnewRow.lifted == Tryz.prog.liftsFinal))=true:=by kernel_rfl
theorem sanew_f27:((Tryz.prog.make == some Rows.scriptAnewRow.make))=true:=by kernel_rfl
theorem sanew_f28:((Rows.scriptAnewRow.kinds == (if Rows.scriptAnewRow.domain.isEmpty then [] else Tryz.f4.params.toList.map fun t=>match Tryz.prog.underlying t with|some (.int k)=>some k|_=>none)))=true:=by kernel_rfl
theorem sanew_f29:((Rows.scriptAnewRow.pinned == Rows.scriptAnewRow.pinnedBy))=true:=by kernel_rfl
theorem sanew_f30:((Rows.scriptAnewRow.veiled == (Tryz.f4.params.toList ++ Rows.scriptAnewSpec.plain.varTypes Tryz.prog ++ Tryz.f4.resultTypes.toList).any (Tryz.prog.veiledRec ·)))=true:=by kernel_rfl
theorem sanew_f31:(Rows.scriptAnewRow.veiledFits Tryz.prog Tryz.f4.params.toList (Tryz.f4.params.toList ++ Rows.scriptAnewSpec.plain.varTypes Tryz.prog ++ Tryz.f4.resultTypes.toList))=true:=by kernel_rfl
theorem sanew_closed:joinedFacts Tryz.prog 4 Tryz.f4 Rows.scriptAnewSpec Rows.scriptAnewRow=true:=by
 unfold joinedFacts
 rw [sanew_f0,sanew_f1,sanew_f2,sanew_f3,sanew_f4,sanew_f5,sanew_f6,sanew_f7,sanew_f8,sanew_f9,sanew_f10,sanew_f11,sanew_f12,sanew_f13,sanew_f14,sanew_f15,sanew_f16,sanew_f17,sanew_f18,sanew_f19,sanew_f20,sanew_f21,sanew_f22,sanew_f23,sanew_f24,sanew_f25,sanew_f26,sanew_f27]
 simp only [Bool.true_and,Bool.and_eq_true]
 exact ⟨⟨⟨sanew_f28,sanew_f29⟩,sanew_f30⟩,sanew_f31⟩
end Go.Proofs.YtaehdgemkafinaaGreatDoor
