/-
  On the way to ActsProof: RC.
-/
import Derived.Test.YtkbbjkiinpimiaaDoorBj10
import Derived.Test.YtkbbjkiinpimiaaDoorBj12
set_option maxHeartbeats 8000000
set_option maxRecDepth 100000
namespace Go.Proofs.YtkbbjkiinpimiaaDoor
open Go.RowKit
def endAt:Nat→Nat
 | 0=>0
 | 1=>4
 | 2=>5
 | 3=>9
 | _=>13
theorem endAt_le (i:Nat):endAt i≤endAt (i+1)∧endAt (i+1)≤13:=by
 match i with
 | 0=>decide
 | 1=>decide
 | 2=>decide
 | 3=>decide
 | _+4=>exact ⟨Nat.le_refl _,Nat.le_refl _⟩
def valAt (t:List UInt8) (i:Nat):Nat:=numL ((t.drop (endAt i)).take (endAt (i+1) - endAt i))
theorem four_i {i:Nat} (h:i<4):i=0 ∨ i=1 ∨ i=2 ∨ i=3:=by omega
theorem endsCell {w:World} {b:Nat} (h:w.heap[b]? = some (.cells #[.int .i64 4,.int .i64 5,.int .i64 9,.int .i64 13] 3 (0,0))) {i:Nat} (hi:i<4):w.cell? ⟨b,i,none⟩=some (.int .i64 (endAt (i+1):Nat)):=by
 rw [cell_of_row _ _ _ _ _ _ h]
 rcases four_i hi with rfl|rfl|rfl|rfl <;> rfl
theorem num_step (t:List UInt8) (o a:Nat) (h:o+a<t.length):numL ((t.drop o).take (a+1))=256 * numL ((t.drop o).take a)+(t[o+a]'h).toNat:=by
 rw [List.take_add_one,List.getElem?_drop,List.getElem?_eq_getElem h]
 exact numL_snoc _ _
theorem num_lt (t:List UInt8) (o a:Nat) (h:a≤4):numL ((t.drop o).take a)<4294967296:=by
 have h1:=numL_lt ((t.drop o).take a)
 have h2:256 ^ ((t.drop o).take a).length≤256 ^ 4:=Nat.pow_le_pow_right (by decide) (by simp; omega)
 have h3:(256:Nat) ^ 4=4294967296:=by decide
 omega
theorem endAt_4 (i:Nat) (h:i<4):endAt (i+1) - endAt i≤4:=by
 rcases four_i h with rfl|rfl|rfl|rfl <;> decide
theorem valAt_eq (t:List UInt8):valAt t 0=readN t∧valAt t 1=(readS t).ph∧valAt t 2=(readS t).pr∧valAt t 3=(readS t).at_:=⟨rfl,rfl,rfl,rfl⟩
def valsTo (t:List UInt8) (i:Nat):List Value:=(List.range i).map fun k=>.int .i64 (valAt t k:Nat)
theorem valsTo_succ (t:List UInt8) (i:Nat):valsTo t (i+1)=valsTo t i ++ [.int .i64 (valAt t i:Nat)]:=by simp [valsTo,List.range_succ]
theorem Tryd.infoI:(Tryd.prog.info? 3).map (fun i=>(i.zero,i.size,i.bytes))=some (some (.int .i64 0),1,8):=by kernel_rfl
end Go.Proofs.YtkbbjkiinpimiaaDoor
