/-
  On the way to WStepsProof, WCommitsProof, WAgreesProof, WEndsProof, WWaitsProof, JTampersProof, PAgreesProof, PAgainProof: Plain Plain2 Plain4 Err ErrAs0 ErrAs.
-/
import Derived.Test.YtadhpkopkkjmfaaGreatDoorProg
import Derived.WalkKit
import Derived.LaidEql
import Derived.Stop.Asserts
import Derived.RowKitTokens
import Derived.Below
set_option maxHeartbeats 8000000
set_option maxRecDepth 100000
namespace Go.Proofs.YtadhpkopkkjmfaaGreatDoor
open Go.RowKit

/-! ### Bits of an int that is not below 0 -/
theorem ofInt_nat (a:Nat) (ha:a<9223372036854775808):(BitVec.ofInt 64 (a:Int)).toNat=a:=by
 rw [BitVec.ofInt_natCast,BitVec.toNat_ofNat]; exact Nat.mod_eq_of_lt (by omega)
theorem bits_and_nat (a b:Nat) (ha:a<9223372036854775808) (hb:b<9223372036854775808):bits .and .i64 (a:Int) (b:Int)=((a &&& b:Nat):Int):=by
 have hx:a &&& b<2 ^ 63:=Nat.and_lt_two_pow _ (by omega)
 show IntKind.i64.wrap ((BitVec.ofInt 64 (a:Int) &&& BitVec.ofInt 64 (b:Int)).toNat:Int)=_
 rw [BitVec.toNat_and,ofInt_nat a ha,ofInt_nat b hb,IntKind.wrap_i64]
 omega
theorem bits_or_nat (a b:Nat) (ha:a<9223372036854775808) (hb:b<9223372036854775808):bits .or .i64 (a:Int) (b:Int)=((a ||| b:Nat):Int):=by
 have hx:a ||| b<2 ^ 63:=Nat.or_lt_two_pow (by omega) (by omega)
 show IntKind.i64.wrap ((BitVec.ofInt 64 (a:Int) ||| BitVec.ofInt 64 (b:Int)).toNat:Int)=_
 rw [BitVec.toNat_or,ofInt_nat a ha,ofInt_nat b hb,IntKind.wrap_i64]
 omega
def bit (s:Int) (k:Nat):Bool:=s.toNat.testBit k
def sumTo (zs:List Int) (s:Int):Nat→Int
 | 0=>0
 | k+1=>sumTo zs s k+if bit s k then zs.getD k 0 else 0
def psum (zs:List Int):Nat→Int
 | 0=>0
 | k+1=>psum zs k+zs.getD k 0
def tot (zs:List Int):Int:=psum zs zs.length
def okTo (zs:List Int) (k:Nat):Prop:=∀ i,i<k→0≤zs.getD i 0∧zs.getD i 0≤1000
def errW (zs:List Int):Nat :=
 if zs.length<1 ∨ 7<zs.length then 3 else if (zs.all fun n=>decide (0≤n∧n≤1000))=true then (if tot zs=0 then 4 else 0) else 2
def errS (zs:List Int) (s:Int):Nat:=if errW zs=0 then (if s<0 ∨ 2 ^ zs.length≤s then 2 else 0) else errW zs
def enoughB (zs:List Int) (s:Int):Bool:=decide (tot zs<2 * sumTo zs s zs.length)
theorem getD_lt (zs:List Int) (k:Nat) (h:k<zs.length):zs.getD k 0=zs[k]:=by simp [h]
theorem okTo_all (zs:List Int):okTo zs zs.length ↔ (zs.all fun n=>decide (0≤n∧n≤1000))=true:=by
 rw [List.all_eq_true]
 constructor
 ·intro h x hx
  obtain ⟨i,hi,rfl⟩:=List.getElem_of_mem hx
  have:=h i hi
  rw [getD_lt zs i hi] at this
  simpa using this
 ·intro h i hi
  have:=h zs[i] (List.getElem_mem hi)
  rw [getD_lt zs i hi]
  simpa using this
theorem okTo_succ {zs:List Int} {k:Nat} (h:okTo zs k) (h0:0≤zs.getD k 0) (h1:zs.getD k 0≤1000):okTo zs (k+1):=by
 intro i hi
 rcases Nat.lt_succ_iff_lt_or_eq.1 hi with h'|rfl
 ·exact h i h'
 ·exact ⟨h0,h1⟩
theorem psum_bd {zs:List Int}:∀ {k:Nat},okTo zs k→0≤psum zs k∧psum zs k≤1000 * k
 | 0,_=>by simp [psum]
 | k+1,h=>by
  have ih:=psum_bd (k:=k) (fun i hi=>h i (Nat.lt_succ_of_lt hi))
  have:=h k (Nat.lt_succ_self k)
  simp only [psum]; omega
theorem sumTo_bd {zs:List Int} (s:Int):∀ {k:Nat},okTo zs k→0≤sumTo zs s k∧sumTo zs s k≤psum zs k
 | 0,_=>by simp [psum,sumTo]
 | k+1,h=>by
  have ih:=sumTo_bd s (k:=k) (fun i hi=>h i (Nat.lt_succ_of_lt hi))
  have:=h k (Nat.lt_succ_self k)
  simp only [psum,sumTo]; split <;> omega
theorem errW_shape {zs:List Int} (h:zs.length<1 ∨ 7<zs.length):errW zs=3:=by unfold errW; rw [if_pos h]
theorem errW_bound {zs:List Int} (h:¬ (zs.length<1 ∨ 7<zs.length)) {k:Nat} (hk:k<zs.length) (hb:zs.getD k 0<0 ∨ 1000<zs.getD k 0):errW zs=2:=by
 unfold errW; rw [if_neg h,if_neg]
 rw [← okTo_all]; intro g; have:=g k hk; omega
theorem errW_ok {zs:List Int} (h:¬ (zs.length<1 ∨ 7<zs.length)) (g:okTo zs zs.length):errW zs=if tot zs=0 then 4 else 0:=by
 unfold errW; rw [if_neg h,if_pos ((okTo_all zs).1 g)]
theorem errW_zero {zs:List Int} (h:errW zs=0):1≤zs.length∧zs.length≤7∧okTo zs zs.length∧tot zs≠0:=by
 unfold errW at h
 split at h
 ·cases h
 ·split at h
  ·split at h
   ·cases h
   ·refine ⟨by omega,by omega,(okTo_all zs).2 (by assumption),by assumption⟩
  ·cases h
theorem errS_zero {zs:List Int} {s:Int} (h:errS zs s=0):errW zs=0∧0≤s∧s<2 ^ zs.length:=by
 unfold errS at h
 split at h
 ·split at h
  ·cases h
  ·exact ⟨by assumption,by omega,by omega⟩
 ·exact absurd h (by assumption)
theorem errS_mk {zs:List Int} {s:Int} (h:errW zs=0) (h0:0≤s) (h1:s<2 ^ zs.length):errS zs s=0:=by
 unfold errS; rw [if_pos h,if_neg (by omega)]
theorem pow_le7 {n:Nat} (h:n≤7):(2:Int) ^ n≤128∧(1:Int)≤2 ^ n:=by
 have:n=0 ∨ n=1 ∨ n=2 ∨ n=3 ∨ n=4 ∨ n=5 ∨ n=6 ∨ n=7:=by omega
 rcases this with rfl|rfl|rfl|rfl|rfl|rfl|rfl|rfl <;> decide
theorem pow_le30 {n:Nat} (h:n≤30):(2:Int) ^ n≤1073741824∧(1:Int)≤2 ^ n:=by
 have h1:(2:Nat) ^ n≤2 ^ 30:=Nat.pow_le_pow_right (by decide) h
 have h2:1≤(2:Nat) ^ n:=Nat.one_le_two_pow
 have e:((2:Int) ^ n)=(((2:Nat) ^ n:Nat):Int):=by simp
 rw [e]; constructor
 ·have:(2:Nat) ^ 30=1073741824:=by decide
  omega
 ·omega
theorem bit_and {s:Int} (k:Nat) (h0:0≤s) (h1:s<9223372036854775808):(bits BinOp.and IntKind.i64 (s / 2 ^ k) 1 == 1)=bit s k:=by
 obtain ⟨m,rfl⟩:=Int.eq_ofNat_of_zero_le h0
 have e:((m:Int) / 2 ^ k)=((m / 2 ^ k:Nat):Int):=by simp
 have hlt:m / 2 ^ k<9223372036854775808:=Nat.lt_of_le_of_lt (Nat.div_le_self _ _) (by omega)
 rw [e,show (1:Int)=((1:Nat):Int) from rfl,bits_and_nat _ 1 hlt (by decide),Nat.and_one_is_mod]
 unfold bit
 rw [Int.toNat_natCast,Nat.testBit_eq_decide_div_mod_eq,Bool.eq_iff_iff]
 simp; omega
theorem bit_two {n k:Nat} (h:k<n):bit (2 ^ n - 1) k=true:=by
 unfold bit
 have e:((2:Int) ^ n - 1).toNat=2 ^ n - 1:=by
  have h2:1≤(2:Nat) ^ n:=Nat.one_le_two_pow
  have e:((2:Int) ^ n)=(((2:Nat) ^ n:Nat):Int):=by simp
  rw [e]; omega
 rw [e,Nat.testBit_two_pow_sub_one]; simpa using h
theorem sumTo_all (zs:List Int) {n:Nat}:∀ {k:Nat},k≤n→sumTo zs (2 ^ n - 1) k=psum zs k
 | 0,_=>rfl
 | k+1,h=>by simp only [sumTo,psum]; rw [sumTo_all zs (k:=k) (by omega),bit_two (by omega)]; simp
theorem pow_nat (n:Nat):((2:Int) ^ n)=(((2:Nat) ^ n:Nat):Int):=by simp
theorem bit_none {a b:Int} (h0:0≤a) (h1:a<128) (g0:0≤b) (g1:b<128) (h:bits .and .i64 a b=0) (k:Nat):(bit a k && bit b k)=false:=by
 obtain ⟨m,rfl⟩:=Int.eq_ofNat_of_zero_le h0
 obtain ⟨n,rfl⟩:=Int.eq_ofNat_of_zero_le g0
 rw [bits_and_nat m n (by omega) (by omega)] at h
 have e:m &&& n=0:=by omega
 unfold bit
 rw [Int.toNat_natCast,Int.toNat_natCast,← Nat.testBit_and,e,Nat.zero_testBit]
theorem sumTo_apart {zs:List Int} {a b:Int} (h0:0≤a) (h1:a<128) (g0:0≤b) (g1:b<128) (hab:bits .and .i64 a b=0):∀ {k:Nat},okTo zs k→sumTo zs a k+sumTo zs b k≤psum zs k
 | 0,_=>by simp [sumTo,psum]
 | k+1,h=>by
  have ih:=sumTo_apart h0 h1 g0 g1 hab (k:=k) (fun i hi=>h i (by omega))
  have:=h k (by omega)
  have hn:=bit_none h0 h1 g0 g1 hab k
  simp only [sumTo,psum]
  revert hn
  generalize zs.getD k 0=z at *
  cases bit a k <;> cases bit b k <;> simp <;> omega
theorem or_lt {n:Nat} {a b:Int} (hn:n≤7) (h0:0≤a) (h1:a<2 ^ n) (g0:0≤b) (g1:b<2 ^ n):0≤bits .or .i64 a b∧bits .or .i64 a b<2 ^ n:=by
 have hp:=(pow_le7 hn).1
 obtain ⟨m,rfl⟩:=Int.eq_ofNat_of_zero_le h0
 obtain ⟨l,rfl⟩:=Int.eq_ofNat_of_zero_le g0
 rw [pow_nat] at h1 g1 hp ⊢
 have:m ||| l<2 ^ n:=Nat.or_lt_two_pow (by omega) (by omega)
 rw [bits_or_nat m l (by omega) (by omega)]
 omega
theorem lt128 {zs:List Int} {a:Int} (h:errS zs a=0):0≤a∧a<128:=by
 obtain ⟨h1,h2,h3⟩:=errS_zero h
 have:=(pow_le7 (errW_zero h1).2.1).1
 omega
theorem meet {zs:List Int} {a b:Int} (h:errS zs a=0) (g:errS zs b=0) (x:enoughB zs a=true) (y:enoughB zs b=true):(bits .and .i64 a b == 0)=false:=by
 rw [beq_eq_false_iff_ne]
 intro e
 have ha:=lt128 h
 have hb:=lt128 g
 have:=sumTo_apart ha.1 ha.2 hb.1 hb.2 e (errW_zero (errS_zero h).1).2.2.1
 unfold enoughB tot at x y
 have x':=of_decide_eq_true x
 have y':=of_decide_eq_true y
 omega
theorem allEnough {zs:List Int} (h:errW zs=0):enoughB zs (2 ^ zs.length - 1)=true:=by
 obtain ⟨h1,h2,h3,h4⟩:=errW_zero h
 have:=psum_bd h3
 unfold tot at h4
 unfold enoughB tot
 rw [sumTo_all zs (Nat.le_refl _)]
 exact decide_eq_true (by omega)
def lowB (s p:Nat):Bool :=
 let rest:Int:=((s / 2 ^ p * 2 ^ p:Nat):Int)
 (rest == 0) || (List.range 7).any fun q=>decide (p≤q) && (bits .and .i64 rest (-rest) == 2 ^ q) && (bits .and .i64 rest (rest - 1) == ((s / 2 ^ (q+1) * 2 ^ (q+1):Nat):Int)) && (bits .andNot .i64 (s:Int) (2 ^ q) == (s:Int) - 2 ^ q) && bit s q && decide (s / 2 ^ (q+1) * 2 ^ (q+1)<s / 2 ^ p * 2 ^ p) && (List.range q).all fun i=>decide (i<p) || !bit s i
theorem lowAll:((List.range 128).all fun s=>(List.range 8).all fun p=>lowB s p)=true:=by decide +kernel
theorem low {s p:Nat} (hs:s<128) (hp:p<8) (h0:((s / 2 ^ p * 2 ^ p:Nat):Int)≠0) :
  ∃ q,p≤q∧q<7∧bits .and .i64 ((s / 2 ^ p * 2 ^ p:Nat):Int) (-((s / 2 ^ p * 2 ^ p:Nat):Int))=2 ^ q∧bits .and .i64 ((s / 2 ^ p * 2 ^ p:Nat):Int) (((s / 2 ^ p * 2 ^ p:Nat):Int) - 1)=((s / 2 ^ (q+1) * 2 ^ (q+1):Nat):Int) ∧
   bits .andNot .i64 (s:Int) (2 ^ q)=(s:Int) - 2 ^ q∧bit s q=true∧s / 2 ^ (q+1) * 2 ^ (q+1)<s / 2 ^ p * 2 ^ p∧∀ i,p≤i→i<q→bit s i=false:=by
 have h:=List.all_eq_true.1 (List.all_eq_true.1 lowAll s (List.mem_range.2 hs)) p (List.mem_range.2 hp)
 unfold lowB at h
 rw [Bool.or_eq_true] at h
 rcases h with h|h
 ·exact absurd (by simpa using h) h0
 ·obtain ⟨q,hq,h⟩:=List.any_eq_true.1 h
  simp only [Bool.and_eq_true,decide_eq_true_eq,beq_iff_eq] at h
  obtain ⟨⟨⟨⟨⟨⟨h1,h2⟩,h3⟩,h4⟩,h5⟩,h7⟩,h6⟩:=h
  refine ⟨q,h1,List.mem_range.1 hq,h2,h3,h4,h5,h7,fun i hi1 hi2=>?_⟩
  have:=List.all_eq_true.1 h6 i (List.mem_range.2 hi2)
  simp at this
  rcases this with h|h
  ·omega
  ·exact h
theorem bit_has {s:Int} (k:Nat) (h0:0≤s):(s / 2 ^ k % 2 == 1)=bit s k:=by
 obtain ⟨m,rfl⟩:=Int.eq_ofNat_of_zero_le h0
 unfold bit
 rw [Int.toNat_natCast,Nat.testBit_eq_decide_div_mod_eq,Bool.eq_iff_iff]
 have e:((m:Int) / 2 ^ k)=((m / 2 ^ k:Nat):Int):=by simp
 rw [e]
 simp; omega
theorem enoughB_alt (zs:List Int) (s:Int):decide (tot zs - sumTo zs s zs.length<sumTo zs s zs.length)=enoughB zs s:=by
 unfold enoughB; exact decide_eq_decide.2 (by omega)
end Go.Proofs.YtadhpkopkkjmfaaGreatDoor
namespace Go.Proofs.YtadhpkopkkjmfaaGreatDoor
open Go.RowKit Go.Extern.Stop Go.Stop Go.Extern

/-! ### Closed facts on the types that errors.Is meets -/
theorem callTypeOfE (v:Value) (w:World):(callFunc 156 #[.iface 276 v]).run Tryz.prog w=.ok (.value (.iface 239 (.agg #[.pointer (some ⟨10,276,none⟩)]))) w:=by kernel_rfl
theorem callComparable (w:World):(callFunc 240 #[.agg #[.pointer (some ⟨10,276,none⟩)]]).run Tryz.prog w=.ok (.value (.bool true)) w:=by kernel_rfl
theorem methodComparable (v:Value) (w:World):(Go.method 407 239 v "Comparable").run Tryz.prog w=.ok (240,v) w:=by kernel_rfl
theorem compErrS:(Tryz.prog.info? 276).map (·.comparable)=some true:=by kernel_rfl
theorem sizeErrS:(Tryz.prog.info? 295).map (·.size)=some 1:=by kernel_rfl
theorem noIsE (v:Value) (xT:TypeId) (w:World):(Instr.typeAssert (.iface 276 v) xT 250 true).run Tryz.prog w=.ok (.tuple #[.nilIface,.bool false]) w:=run_typeAssert_lacksB Tryz.underlying250 (by kernel_rfl) (by kernel_rfl) v xT w
theorem noUnwrapE (v:Value) (xT:TypeId) (w:World):(Instr.typeAssert (.iface 276 v) xT 246 true).run Tryz.prog w=.ok (.tuple #[.nilIface,.bool false]) w:=run_typeAssert_lacksB Tryz.underlying246 (by kernel_rfl) (by kernel_rfl) v xT w
theorem noUnwrapsE (v:Value) (xT:TypeId) (w:World):(Instr.typeAssert (.iface 276 v) xT 248 true).run Tryz.prog w=.ok (.tuple #[.nilIface,.bool false]) w:=run_typeAssert_lacksB Tryz.underlying248 (by kernel_rfl) (by kernel_rfl) v xT w
theorem noAsE (v:Value) (xT:TypeId) (w:World):(Instr.typeAssert (.iface 276 v) xT 243 true).run Tryz.prog w=.ok (.tuple #[.nilIface,.bool false]) w:=run_typeAssert_lacksB Tryz.underlying243 (by kernel_rfl) (by kernel_rfl) v xT w
theorem noIsF (v:Value) (xT:TypeId) (w:World):(Instr.typeAssert (.iface 112 v) xT 250 true).run Tryz.prog w=.ok (.tuple #[.nilIface,.bool false]) w:=run_typeAssert_lacksB Tryz.underlying250 (by kernel_rfl) (by kernel_rfl) v xT w
theorem hasUnwrapF (v:Value) (xT:TypeId) (w:World):(Instr.typeAssert (.iface 112 v) xT 246 true).run Tryz.prog w=.ok (.tuple #[.iface 112 v,.bool true]) w:=run_typeAssert_hasB Tryz.underlying246 (by kernel_rfl) v xT w
theorem methodUnwrap (v:Value) (w:World):(Go.method 407 112 v "Unwrap").run Tryz.prog w=.ok (234,v) w:=by kernel_rfl
theorem is_same (a:Addr) (w:World) :
  Calls Tryz.prog 118 #[.iface 276 (.pointer (some a)),.iface 276 (.pointer (some a))] w fun e w'=>e=.returned (.bool true)∧w'=w:=by
 obtain ⟨i,hi,hcmp⟩:=Option.map_eq_some_iff.1 compErrS
 obtain ⟨j,hj,hjs⟩:=Option.map_eq_some_iff.1 sizeErrS
 have tT:=callTypeOfE
 have cT:=callComparable
 have mR:=methodComparable
 have heq:=run_eql_iface_ptr_same (P:=Tryz.prog) w a Tryz.underlying28 Tryz.underlying276 hi hcmp hj
 go_enter Tryz.func118,Tryz.ntmps118
 go_wp2
 refine wp_loop_rounds 1 ?_
 rw [rounds_succ]
 go_wp2
 go_ret
 exact ⟨rfl,rfl⟩
theorem is_other (a b:Addr) (ca cb:Array Value) (ta tb:TypeId) (w:World) (hne:a≠b) (ha:w.heap[a.block]? = some (.cells ca ta (0,0))) (hb:w.heap[b.block]? = some (.cells cb tb (0,0))) :
  Calls Tryz.prog 118 #[.iface 276 (.pointer (some a)),.iface 276 (.pointer (some b))] w fun e w'=>e=.returned (.bool false)∧w'=w:=by
 obtain ⟨i,hi,hcmp⟩:=Option.map_eq_some_iff.1 compErrS
 obtain ⟨j,hj,hjs⟩:=Option.map_eq_some_iff.1 sizeErrS
 have tT:=callTypeOfE
 have cT:=callComparable
 have mR:=methodComparable
 have nE:=noIsE
 have uE:=noUnwrapE
 have vE:=noUnwrapsE
 have heq:=run_eql_iface_ptr_other (P:=Tryz.prog) w Tryz.underlying28 Tryz.underlying276 hi hcmp hj (by rw [hjs]; decide) hne ha hb
 go_enter Tryz.func118,Tryz.ntmps118
 go_wp2
 refine wp_loop_rounds 1 ?_
 rw [rounds_succ]
 go_wp2
 go_ret
 exact ⟨rfl,rfl⟩
theorem is_f_same (pb po:Nat) (b:Addr) (w:World) (h1:w.cell? ⟨pb,po+1,none⟩=some (.iface 276 (.pointer (some b)))) :
  Calls Tryz.prog 118 #[.iface 112 (.pointer (some ⟨pb,po,none⟩)),.iface 276 (.pointer (some b))] w fun e w'=>e=.returned (.bool true)∧w'=w:=by
 obtain ⟨i,hi,hcmp⟩:=Option.map_eq_some_iff.1 compErrS
 obtain ⟨j,hj,hjs⟩:=Option.map_eq_some_iff.1 sizeErrS
 have tT:=callTypeOfE
 have cT:=callComparable
 have mR:=methodComparable
 have nW:=noIsF
 have uW:=hasUnwrapF
 have mU:=methodUnwrap
 have heq:=run_eql_iface_ptr_same (P:=Tryz.prog) w b Tryz.underlying28 Tryz.underlying276 hi hcmp hj
 have hty:=run_eql_iface_types (P:=Tryz.prog) 112 276 (.pointer (some ⟨pb,po,none⟩)) (.pointer (some b)) Tryz.underlying28 (by decide) w
 go_enter Tryz.func118,Tryz.ntmps118
 go_wp2
 refine wp_loop_rounds 2 ?_
 rw [rounds_succ]
 go_wp2
 rw [rounds_succ]
 go_wp2
 go_ret
 exact ⟨rfl,rfl⟩
theorem is_f_other (pb po:Nat) (a b:Addr) (ca cb:Array Value) (ta tb:TypeId) (w:World) (h1:w.cell? ⟨pb,po+1,none⟩=some (.iface 276 (.pointer (some a)))) (hne:a≠b) (ha:w.heap[a.block]? = some (.cells ca ta (0,0))) (hb:w.heap[b.block]? = some (.cells cb tb (0,0))) :
  Calls Tryz.prog 118 #[.iface 112 (.pointer (some ⟨pb,po,none⟩)),.iface 276 (.pointer (some b))] w fun e w'=>e=.returned (.bool false)∧w'=w:=by
 obtain ⟨i,hi,hcmp⟩:=Option.map_eq_some_iff.1 compErrS
 obtain ⟨j,hj,hjs⟩:=Option.map_eq_some_iff.1 sizeErrS
 have tT:=callTypeOfE
 have cT:=callComparable
 have mR:=methodComparable
 have nE:=noIsE
 have uE:=noUnwrapE
 have vE:=noUnwrapsE
 have nW:=noIsF
 have uW:=hasUnwrapF
 have mU:=methodUnwrap
 have heq:=run_eql_iface_ptr_other (P:=Tryz.prog) w Tryz.underlying28 Tryz.underlying276 hi hcmp hj (by rw [hjs]; decide) hne ha hb
 have hty:=run_eql_iface_types (P:=Tryz.prog) 112 276 (.pointer (some ⟨pb,po,none⟩)) (.pointer (some b)) Tryz.underlying28 (by decide) w
 go_enter Tryz.func118,Tryz.ntmps118
 go_wp2
 refine wp_loop_rounds 2 ?_
 rw [rounds_succ]
 go_wp2
 rw [rounds_succ]
 go_wp2
 go_ret
 exact ⟨rfl,rfl⟩

/-! ### Closed facts on the types that errors.As meets -/
theorem callValueOfT (t:Addr) (w:World):(callFunc 152 #[.iface 181 (.pointer (some t))]).run Tryz.prog w
  = .ok (.value (.agg #[.pointer (some ⟨10,181,none⟩),.pointer (some ⟨w.heap.size,0,none⟩),.int .u64 150])) (w.alloc (.cells #[.pointer (some t)] 181)):=by kernel_rfl
theorem callTypeT (a:Addr) (w:World):(callFunc 153 #[.agg #[.pointer (some ⟨10,181,none⟩),.pointer (some a),.int .u64 150]]).run Tryz.prog w
  = .ok (.value (.iface 239 (.agg #[.pointer (some ⟨10,181,none⟩)]))) w:=by kernel_rfl
theorem methodKind (h:Value) (w:World):(Go.method 407 239 (.agg #[h]) "Kind").run Tryz.prog w=.ok (230,h) w:=by kernel_rfl
theorem callKindT (w:World):(callFunc 230 #[.pointer (some ⟨10,181,none⟩)]).run Tryz.prog w=.ok (.value (.int .u8 22)) w:=by kernel_rfl
theorem callKindF (w:World):(callFunc 230 #[.pointer (some ⟨10,112,none⟩)]).run Tryz.prog w=.ok (.value (.int .u8 22)) w:=by kernel_rfl
theorem methodElem (h:Value) (w:World):(Go.method 407 239 (.agg #[h]) "Elem").run Tryz.prog w=.ok (241,.agg #[h]) w:=by kernel_rfl
theorem callElemT (w:World):(callFunc 241 #[.agg #[.pointer (some ⟨10,181,none⟩)]]).run Tryz.prog w=.ok (.value (.iface 239 (.agg #[.pointer (some ⟨10,112,none⟩)]))) w:=by kernel_rfl
theorem methodImplements (h:Value) (w:World):(Go.method 407 239 (.agg #[h]) "Implements").run Tryz.prog w=.ok (242,.agg #[h]) w:=by kernel_rfl
theorem callImplementsF (w:World):(callFunc 242 #[.agg #[.pointer (some ⟨10,112,none⟩)],.iface 239 (.agg #[.pointer (some ⟨10,28,none⟩)])]).run Tryz.prog w=.ok (.value (.bool true)) w:=by kernel_rfl
theorem methodAssignableTo (h:Value) (w:World):(Go.method 407 239 (.agg #[h]) "AssignableTo").run Tryz.prog w=.ok (239,.agg #[h]) w:=by kernel_rfl
theorem callAssignableE (w:World):(callFunc 239 #[.agg #[.pointer (some ⟨10,276,none⟩)],.iface 239 (.agg #[.pointer (some ⟨10,112,none⟩)])]).run Tryz.prog w=.ok (.value (.bool false)) w:=by kernel_rfl
theorem callAssignableF (w:World):(callFunc 239 #[.agg #[.pointer (some ⟨10,112,none⟩)],.iface 239 (.agg #[.pointer (some ⟨10,112,none⟩)])]).run Tryz.prog w=.ok (.value (.bool true)) w:=by kernel_rfl
theorem callTypeOfF (v:Value) (w:World):(callFunc 156 #[.iface 112 v]).run Tryz.prog w=.ok (.value (.iface 239 (.agg #[.pointer (some ⟨10,112,none⟩)]))) w:=by kernel_rfl
theorem callValueOfF (t:Addr) (w:World):(callFunc 152 #[.iface 112 (.pointer (some t))]).run Tryz.prog w
  = .ok (.value (.agg #[.pointer (some ⟨10,112,none⟩),.pointer (some ⟨w.heap.size,0,none⟩),.int .u64 150])) (w.alloc (.cells #[.pointer (some t)] 112)):=by kernel_rfl

/-! ### The entries that read or write memory -/
theorem partsT (a:Addr) (w:World):(ReflectliteValue.parts (.agg #[.pointer (some ⟨10,181,none⟩),.pointer (some a),.int .u64 150])).run Tryz.prog w=.ok (some (181,a,150)) w:=by kernel_rfl
theorem callIsNilT (a p:Addr) (W:World) (ha:W.cell? a=some (.pointer (some p))) :
  (callFunc 154 #[.agg #[.pointer (some ⟨10,181,none⟩),.pointer (some a),.int .u64 150]]).run Tryz.prog W=.ok (.value (.bool false)) W:=by
 rw [@run_callFunc_extern Tryz.prog 154 _ (ReflectliteValue.method (ReflectliteValue.valueError "reflectlite.Value.IsNil" 0) ReflectliteValue.isNil) Tryz.func154 (by kernel_rfl) (by kernel_rfl) (by kernel_rfl) (by kernel_rfl)]
 change Result.andThen (Sem.run Tryz.prog (Bind.bind (ReflectliteValue.parts (.agg #[.pointer (some ⟨10,181,none⟩),.pointer (some a),.int .u64 150])) _) W) _=_
 simp only [Sem.run_bind,partsT,Result.andThen]
 simp [ReflectliteValue.isNil,loadVar,isAgg,underlying,Tryz.underlying181,ha,Result.andThen]
theorem elemOfT (w:World):(Rtype.elem? 181).run Tryz.prog w=.ok (some 112) w:=by kernel_rfl
theorem mkF (p:Addr) (w:World):(ReflectliteValue.mk 112 p ReflectliteValue.flagAddr).run Tryz.prog w=.ok (.agg #[.pointer (some ⟨10,112,none⟩),.pointer (some p),.int .u64 406]) w:=by kernel_rfl
theorem callElemV (a p:Addr) (W:World) (ha:W.cell? a=some (.pointer (some p))) :
  (callFunc 179 #[.agg #[.pointer (some ⟨10,181,none⟩),.pointer (some a),.int .u64 150]]).run Tryz.prog W=.ok (.value (.agg #[.pointer (some ⟨10,112,none⟩),.pointer (some p),.int .u64 406])) W:=by
 rw [@run_callFunc_extern Tryz.prog 179 _ (ReflectliteValue.method (ReflectliteValue.valueError "reflectlite.Value.Elem" 0) ReflectliteValue.elem) Tryz.func179 (by kernel_rfl) (by kernel_rfl) (by kernel_rfl) (by kernel_rfl)]
 change Result.andThen (Sem.run Tryz.prog (Bind.bind (ReflectliteValue.parts (.agg #[.pointer (some ⟨10,181,none⟩),.pointer (some a),.int .u64 150])) _) W) _=_
 simp only [Sem.run_bind,partsT,Result.andThen]
 simp [ReflectliteValue.elem,loadVar,isAgg,underlying,Tryz.underlying181,ha,Result.andThen,elemOfT,mkF]
theorem as_miss (a t:Addr) (w:World) (hg:w.cell? ⟨9,0,none⟩=some (.iface 239 (.agg #[.pointer (some ⟨10,28,none⟩)]))) :
  Calls Tryz.prog 117 #[.iface 276 (.pointer (some a)),.iface 181 (.pointer (some t))] w fun ev w'=>ev=.returned (.bool false)∧Below w.heap.size w w':=by
 have c1:=callValueOfT
 have c2:=callTypeT
 have c3:=methodKind
 have c4:=callKindT
 have c5:=callKindF
 have c6:=methodElem
 have c7:=callElemT
 have c8:=methodImplements
 have c9:=callImplementsF
 have d1:=methodAssignableTo
 have d2:=callAssignableE
 have d3:=callTypeOfE
 have d4:=noAsE
 have d5:=noUnwrapE
 have d6:=noUnwrapsE
 have n8:=callIsNilT ⟨w.heap.size,0,none⟩ t ((w.alloc (.cells #[.pointer (some t)] 181)).alloc (.cells #[.pointer (some ⟨10,181,none⟩),.pointer (some ⟨w.heap.size,0,none⟩),.int .u64 150] 215)) (by simp)
 have hlt:9<w.heap.size:=by
  rcases Nat.lt_or_ge 9 w.heap.size with h|h
  ·exact h
  ·simp [World.cell?,Array.getElem?_eq_none h] at hg
 have hg2:((w.alloc (.cells #[.pointer (some t)] 181)).alloc (.cells #[.pointer (some ⟨10,181,none⟩),.pointer (some ⟨w.heap.size,0,none⟩),.int .u64 150] 215)).cell? ⟨9,0,none⟩=some (.iface 239 (.agg #[.pointer (some ⟨10,28,none⟩)])):=by
  rw [World.cell?_alloc_lt _ _ ⟨9,0,none⟩ (by simp; omega),World.cell?_alloc_lt _ _ ⟨9,0,none⟩ hlt]; exact hg
 go_enter Tryz.func117,Tryz.ntmps117
 go_wp2
 refine wp_loop_rounds 1 ?_
 rw [rounds_succ]
 go_wp2
 go_ret
 exact ⟨rfl,by repeat (first|exact Below.refl _ _|refine Below.drew ?_|refine Below.alloc ?_ (by simp; try omega) _)⟩
end Go.Proofs.YtadhpkopkkjmfaaGreatDoor
