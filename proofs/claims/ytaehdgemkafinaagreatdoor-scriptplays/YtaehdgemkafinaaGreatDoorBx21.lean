/-
  On the way to SPlaysProof: RV S2.
-/
import Derived.Test.YtaehdgemkafinaaGreatDoorBx19
import Derived.Test.YtaehdgemkafinaaGreatDoorBx12
set_option maxHeartbeats 8000000
set_option maxRecDepth 100000
namespace Go.Proofs.YtaehdgemkafinaaGreatDoor
open Go.RowKit
open Go.Proofs.Tryz
section
variable {w0 w w':World} {j p q m gn gs r:Nat} {E:Nat→Nat×St} {over dead:Bool} {B:ByteArray} {l:Int} {A:Nat→Addr}
theorem aeV(c ph pr a:Int)(o:POut)(g:ig E over B l c ph pr a=o)(h:RK w m gn gs r E over B l)(i:∀d,d<6->(E d).1<4294967296):Calls prog 182 #[.pointer (some ⟨m,0,none⟩),.int .i64 c,.agg #[.int .i64 ph,.int .i64 pr,.int .i64 a]] w fun e w'=>e=.returned (.int .i64 (o.c:Int))∧RK w' m gn gs r o.e o.over o.b o.l∧Kept (In4 m gn gs r) w w':=by
 subst g;unfold ig
 cases over with
 | true =>
  rw[af rfl];refine(acs c ph pr a h).mono ?_;rintro e w' ⟨rfl,b⟩;exact⟨rfl,h.later b,Kept.of_below b⟩
 | false =>
  rw[aa (by decide)]
  by_cases b:(0<=c∧c<6)∧fQ ph pr a=true
  ·rw[af b]
   obtain⟨d,k,n,s,rfl,rfl,rfl,rfl⟩:=ab4 b;simp only[aU];exact ahl d k n s h (by omega) b.2 (i d (by omega))
  ·rw[aa b]
   refine(aaD c ph pr a h b).mono ?_;rintro e w' ⟨rfl,f⟩;exact⟨rfl,h.later f,Kept.of_below f⟩
end
structure RSt (w:World) (t m gb:Nat) (id:Int) (R:Nat->Bool):Prop where
 row:w.heap[t]?=some (.cells #[.int .i64 id,.pointer (some ⟨m,0,none⟩),.slice (some ⟨gb,0,none⟩) 6 6] 110 (0,0))
 refs:w.heap[gb]?=some (.cells #[.bool (R 0),.bool (R 1),.bool (R 2),.bool (R 3),.bool (R 4),.bool (R 5)] 4 (0,0))
section
variable {w w':World} {t m gb:Nat} {id:Int} {R:Nat→Bool}
theorem RSt.kept{S:Nat->Prop}(h:RSt w t m gb id R)(k:Kept S w w')(h1:¬S t)(a:¬S gb):RSt w' t m gb id R:=⟨k.row h.row h1,k.row h.refs a⟩
theorem RSt.later(h:RSt w t m gb id R)(b:Below w.heap.size w w'):RSt w' t m gb id R:=h.kept (S:=fun _=>False) (Kept.of_below b) (fun a=>a) (fun a=>a)
theorem RSt.cells(h:RSt w t m gb id R):w.cell? ⟨t,0,none⟩=some (.int .i64 id)∧w.cell? ⟨t,1,none⟩=some (.pointer (some ⟨m,0,none⟩))∧w.cell? ⟨t,2,none⟩=some (.slice (some ⟨gb,0,none⟩) 6 6):=by
 refine⟨?_,?_,?_⟩<;>rw[ai h.row]<;>rfl
theorem RSt.ref(h:RSt w t m gb id R){d:Nat}(a:d<6):w.cell? ⟨gb,d,none⟩=some (.bool (R d)):=by
 rw[ai h.refs];rcases six a with rfl|rfl|rfl|rfl|rfl|rfl<;>rfl
end
end Go.Proofs.YtaehdgemkafinaaGreatDoor
