/-
  CONTRACTS of Open, Get and Put over a journal and its plate, as the laws meet them.
-/
import Derived.Test.YtkbbjkiinpimiaaDoorJO
namespace Go.Proofs.YtkbbjkiinpimiaaDoor
open Go.RowKit

section
variable {w0 w w1 w2 : World} {j p q : Nat} {E : Nat → Nat × St} {over : Bool} {B : ByteArray} {l : Int} {A : Nat → Addr}
theorem jp_new (hb : Below w0.heap.size w0 w1) (h : Pl w1 p q B l) (hp : w0.heap.size ≤ p) (hq : w0.heap.size ≤ q) (hj : JR w2 j p E over) (hb2 : Below w1.heap.size w1 w2) (hj0 : w1.heap.size ≤ j) (h0 : -2 ≤ l) (h1 : l ≤ 9223372036854775807) (hs : B.size ≤ 1000) (h6 : 216 ≤ B.size) : JP w0 w2 j p q E over B l := by
  have e1 := row_lt h.head
  have e2 := row_lt h.row
  exact ⟨hb.trans (hb2.mono hb.size), hj, h.kept (S := fun _ => False) (Kept.of_below hb2) (fun x => x) (fun x => x), by omega, by omega, Nat.le_trans hb.size hj0, hp, hq, h0, h1, hs, h6⟩
theorem get_jp (d : Nat) (s : St) (h : JP w0 w j p q E over B l) (hd : d < 6) (hs : (E d).2 = s) :
    Calls Tryd.prog 49 #[.pointer (some ⟨j, 0, none⟩), .int .i64 (d : Int)] w fun e w' => e = .returned (.tuple #[.agg #[.int .i64 (s.ph : Int), .int .i64 (s.pr : Int), .int .i64 (s.at_ : Int)], .nilIface]) ∧ Below w.heap.size w w' := by
  have := get_ok j p d E over w h.jr hd
  rw [hs] at this
  exact this
theorem put_ok (d : Nat) (s : St) (h : JP w0 w j p q E false B l) (hE : HeldE w0 A) (hd : d < 6) (hf : fitsB s.ph s.pr s.at_ = true) (hn : (E d).1 < 4294967296) (hc : (putIn E B l d s).c = 0) :
    Calls Tryd.prog 48 #[.pointer (some ⟨j, 0, none⟩), .int .i64 (d : Int), .agg #[.int .i64 (s.ph : Int), .int .i64 (s.pr : Int), .int .i64 (s.at_ : Int)]] w fun e w' => e = .returned .nilIface ∧ JP w0 w' j p q (putIn E B l d s).e (putIn E B l d s).over (putIn E B l d s).b (putIn E B l d s).l ∧ Kept (In3 j p q) w w' := by
  have := put_in A w0 w j p q E B l d s h hE hd hf hn
  rw [hc] at this
  exact this
theorem put_no (d : Nat) (s : St) (c : Nat) (h : JP w0 w j p q E false B l) (hE : HeldE w0 A) (hd : d < 6) (hf : fitsB s.ph s.pr s.at_ = true) (hn : (E d).1 < 4294967296) (hc : (putIn E B l d s).c = c + 1) :
    Calls Tryd.prog 48 #[.pointer (some ⟨j, 0, none⟩), .int .i64 (d : Int), .agg #[.int .i64 (s.ph : Int), .int .i64 (s.pr : Int), .int .i64 (s.at_ : Int)]] w fun e w' => e = .returned (.iface 107 (.pointer (some (A c)))) ∧ JP w0 w' j p q (putIn E B l d s).e (putIn E B l d s).over (putIn E B l d s).b (putIn E B l d s).l ∧ Kept (In3 j p q) w w' := by
  have := put_in A w0 w j p q E B l d s h hE hd hf hn
  rw [hc] at this
  exact this
end
end Go.Proofs.YtkbbjkiinpimiaaDoor
