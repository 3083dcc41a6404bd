/-
  On the way to PRunsProof: RV S2.
-/
import Derived.Test.YtjcflddbaeiajacGreatDoorBt23
import Derived.Test.YtjcflddbaeiajacGreatDoorBt19
set_option maxHeartbeats 8000000
set_option maxRecDepth 100000
namespace Go.Proofs.YtjcflddbaeiajacGreatDoor
open Go.RowKit
end Go.Proofs.YtjcflddbaeiajacGreatDoor
namespace Go.Proofs.YtjcflddbaeiajacGreatDoor
open Go.RowKit
section
variable {w0 w w':World} {j p q m gn gs r:Nat} {E:Nat→Nat×St} {over dead:Bool} {B:ByteArray} {l:Int} {A:Nat→Addr}
theorem rput_any (dl ph pr a:Int) (o:POut) (ho:pOut E over B l dl ph pr a=o) (h:RK w m gn gs r E over B l) (hn:∀ d,d<6→(E d).1<4294967296) :
  Calls Tryz.prog 247 #[.pointer (some ⟨m,0,none⟩),.int .i64 dl,.agg #[.int .i64 ph,.int .i64 pr,.int .i64 a]] w fun e w'=>e=.returned (.int .i64 (o.c:Int))∧RK w' m gn gs r o.e o.over o.b o.l∧Kept (In4 m gn gs r) w w':=by
 subst ho
 unfold pOut
 cases over with
 | true =>
  rw [if_pos rfl]
  refine (rput_over dl ph pr a h).mono ?_
  rintro e w' ⟨rfl,hb⟩
  exact ⟨rfl,h.later hb,Kept.of_below hb⟩
 | false =>
  rw [if_neg (by decide)]
  by_cases hb:(0≤dl∧dl<6)∧fitsB ph pr a=true
  ·rw [if_pos hb]
   obtain ⟨d,h1,h2,h3,rfl,rfl,rfl,rfl⟩:=in_nat hb
   simp only [Int.toNat_natCast]
   exact rput_in d h1 h2 h3 h (by omega) hb.2 (hn d (by omega))
  ·rw [if_neg hb]
   refine (rput_bound dl ph pr a h hb).mono ?_
   rintro e w' ⟨rfl,hb'⟩
   exact ⟨rfl,h.later hb',Kept.of_below hb'⟩
end
structure RSt (w:World) (t m gb:Nat) (id:Int) (R:Nat→Bool):Prop where
 row:w.heap[t]? = some (.cells #[.int .i64 id,.pointer (some ⟨m,0,none⟩),.slice (some ⟨gb,0,none⟩) 6 6] 188 (0,0))
 refs:w.heap[gb]? = some (.cells #[.bool (R 0),.bool (R 1),.bool (R 2),.bool (R 3),.bool (R 4),.bool (R 5)] 4 (0,0))
section
variable {w w':World} {t m gb:Nat} {id:Int} {R:Nat→Bool}
theorem RSt.kept {S:Nat→Prop} (h:RSt w t m gb id R) (k:Kept S w w') (h1:¬ S t) (h2:¬ S gb):RSt w' t m gb id R:=⟨k.row h.row h1,k.row h.refs h2⟩
theorem RSt.later (h:RSt w t m gb id R) (hb:Below w.heap.size w w'):RSt w' t m gb id R:=h.kept (S:=fun _=>False) (Kept.of_below hb) (fun x=>x) (fun x=>x)
theorem RSt.cells (h:RSt w t m gb id R):w.cell? ⟨t,0,none⟩=some (.int .i64 id)∧w.cell? ⟨t,1,none⟩=some (.pointer (some ⟨m,0,none⟩))∧w.cell? ⟨t,2,none⟩=some (.slice (some ⟨gb,0,none⟩) 6 6):=by
 refine ⟨?_,?_,?_⟩ <;> rw [cell_of_row _ _ _ _ _ _ h.row] <;> rfl
theorem RSt.ref (h:RSt w t m gb id R) {d:Nat} (hd:d<6):w.cell? ⟨gb,d,none⟩=some (.bool (R d)):=by
 rw [cell_of_row _ _ _ _ _ _ h.refs]
 rcases six hd with rfl|rfl|rfl|rfl|rfl|rfl <;> rfl
end
end Go.Proofs.YtjcflddbaeiajacGreatDoor
