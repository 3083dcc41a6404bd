/-
  On the way to SActsProof: JE.
-/
import Derived.Test.YtkopfpaldmapdaaDoorBs6
import Derived.Deep.CutRange
set_option maxHeartbeats 8000000
set_option maxRecDepth 100000
namespace Go.Proofs.YtkopfpaldmapdaaDoor
open Go.RowKit
theorem place_any (d n:Nat) (w:World) (hd:d≤100) (hn:n<4294967296) :
  Calls Tryd.prog 58 #[.int .i64 d,.int .u32 n] w fun e w'=>e=.returned (.int .i64 ((18 * (2 * d+n % 2):Nat):Int))∧w'=w:=by
 go_enter Tryd.func58,Tryd.ntmps58
 go_wp2
 go_ret
 exact ⟨ret_int (by omega),rfl⟩
theorem known_any (d:Int) (w:World) :
  Calls Tryd.prog 60 #[.int .i64 d] w fun e w'=>e=.returned (.bool (decide (0≤d∧d<6)))∧w'=w:=by
 by_cases h:0≤d
 ·go_enter Tryd.func60,Tryd.ntmps60
  go_wp2
  go_ret
  exact ⟨by simp [h],rfl⟩
 ·go_enter Tryd.func60,Tryd.ntmps60
  go_wp2
  go_ret
  exact ⟨by simp; omega,rfl⟩
theorem attempt_any (d:Int) (w:World) :
  Calls Tryd.prog 90 #[.int .i64 d] w fun e w'=>e=.returned (.bool (decide (0≤d∧d≤1048576)))∧w'=w:=by
 by_cases h:0≤d
 ·go_enter Tryd.func90,Tryd.ntmps90
  go_wp2
  go_ret
  exact ⟨by simp [h],rfl⟩
 ·go_enter Tryd.func90,Tryd.ntmps90
  go_wp2
  go_ret
  exact ⟨by simp; omega,rfl⟩
def fitsB (ph pr at_:Int):Bool:=decide (0≤ph∧ph≤255∧0≤pr∧pr≤1048576∧0≤at_∧at_≤1048576)
theorem fits_and (ph pr at_:Int):(decide (0≤ph) && decide (ph≤255) && decide (0≤pr∧pr≤1048576) && decide (0≤at_∧at_≤1048576))=fitsB ph pr at_:=by
 unfold fitsB
 rw [← Bool.decide_and,← Bool.decide_and,← Bool.decide_and]
 exact decide_eq_decide.2 ⟨fun ⟨⟨⟨a,b⟩,c,d⟩,e,f⟩=>⟨a,b,c,d,e,f⟩,fun ⟨a,b,c,d,e,f⟩=>⟨⟨⟨a,b⟩,c,d⟩,e,f⟩⟩
theorem fits_any (ph pr at_:Int) (w:World) :
  Calls Tryd.prog 67 #[.agg #[.int .i64 ph,.int .i64 pr,.int .i64 at_]] w fun e w'=>e=.returned (.bool (fitsB ph pr at_))∧Below w.heap.size w w':=by
 have HB:=hid ((Below.refl w.heap.size w).alloc (Nat.le_refl _) (.cells #[.int .i64 ph,.int .i64 pr,.int .i64 at_] 34))
 obtain ⟨r,HR⟩:∃ r,Hid (fitsB ph pr at_=r):=⟨_,rfl⟩
 rw [HR.out]
 obtain ⟨x1,X1⟩:∃ x,Hid (decide (0≤pr∧pr≤1048576)=x):=⟨_,rfl⟩
 obtain ⟨x2,X2⟩:∃ x,Hid (decide (0≤at_∧at_≤1048576)=x):=⟨_,rfl⟩
 have R0:=fits_and ph pr at_
 rw [X1.out,X2.out,HR.out] at R0
 have R:=hid R0
 clear R0
 clear HR
 by_cases h1:0≤ph
 ·by_cases h2:ph≤255
  ·cases x1 with
   | true =>
    go_enter Tryd.func67,Tryd.ntmps67
    go_wp2_with (first|(go_at_call 90; with_reducible refine (attempt_any pr _).mono ?_; rw [X1.out]; rintro e wx ⟨rfl,hx⟩; subst wx)|(go_at_call 90; with_reducible refine (attempt_any at_ _).mono ?_; rw [X2.out]; rintro e wx ⟨rfl,hx⟩; subst wx))
    go_ret
    exact ⟨by rw [← R.out]; simp [h1,h2],HB.out⟩
   | false =>
    go_enter Tryd.func67,Tryd.ntmps67
    go_wp2_with (first|(go_at_call 90; with_reducible refine (attempt_any pr _).mono ?_; rw [X1.out]; rintro e wx ⟨rfl,hx⟩; subst wx))
    go_ret
    exact ⟨by rw [← R.out]; simp,HB.out⟩
  ·have H2:=hid (decide_eq_false h2)
   go_enter Tryd.func67,Tryd.ntmps67
   go_wp2_with fail
   go_ret
   exact ⟨by rw [← R.out,H2.out,Bool.and_false]; rfl,HB.out⟩
 ·have H1:=hid (decide_eq_false h1)
  go_enter Tryd.func67,Tryd.ntmps67
  go_wp2_with fail
  go_ret
  exact ⟨by rw [← R.out,H1.out]; rfl,HB.out⟩
theorem slice_low (s:ByteArray) (a:Nat) (z:Int) (hz:z=a) (h:a≤s.size) (w:World):(Instr.slice 9 (.string s) (some (.int .i64 z)) none none).run Tryd.prog w=.ok (.string (s.extract a s.size)) w:=by
 subst hz
 rw [run_slice_string_l w 9 s Tryd.underlying9 .i64 a (by omega) (by omega)]
 rfl
theorem slice_mid (s:ByteArray) (a b:Nat) (y z:Int) (hy:y=a) (hz:z=b) (h:a≤b) (hb:b≤s.size) (w:World):(Instr.slice 9 (.string s) (some (.int .i64 y)) (some (.int .i64 z)) none).run Tryd.prog w=.ok (.string (s.extract a b)) w:=by
 subst hy hz
 rw [run_slice_string w 9 s .i64 .i64 a b Tryd.underlying9 (by omega) (by omega) (by omega)]
 rfl
theorem slice_high (s:ByteArray) (b:Nat) (z:Int) (hz:z=b) (hb:b≤s.size) (w:World):(Instr.slice 9 (.string s) none (some (.int .i64 z)) none).run Tryd.prog w=.ok (.string (s.extract 0 b)) w:=by
 subst hz
 rw [run_slice_string_h w 9 s Tryd.underlying9 .i64 b (by omega) (by omega)]
 rfl
theorem four_is (s:ByteArray) (n:Nat) (w:World) (h:4≤s.size) (hn:numL (s.data.toList.take 4)=n) :
  Calls Tryd.prog 105 #[.string s] w fun e w'=>e=.returned (.int .u32 (n:Int))∧∃ m,w'=w.drewN m:=by
 rw [← hn]; exact four_any s w h
end Go.Proofs.YtkopfpaldmapdaaDoor
