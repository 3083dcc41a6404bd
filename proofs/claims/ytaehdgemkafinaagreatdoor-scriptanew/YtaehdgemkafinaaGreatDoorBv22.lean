/-
  On the way to SAnewProof: O7 O8.
-/
import Derived.Test.YtaehdgemkafinaaGreatDoorBv16
import Derived.Shelf.Abstract
set_option maxHeartbeats 8000000
set_option maxRecDepth 100000
namespace Go.Proofs.YtaehdgemkafinaaGreatDoor
open Go.RowKit
abbrev RetO (R:Value→World→Prop):Ending→World→Prop:=fun e w'=>∃ v,e=.returned v∧R v w'
section
variable {w:World} {pb bb xb g n cap:Nat} {a b:Int} {R:Value→World→Prop}
theorem c1_any (hb:BoxO w bb (ptrO pb)) (hp:BoxO w pb (ptrO xb)) (h0:w.cell? ⟨g,0,none⟩=some (.int .i64 a)) (h1:w.cell? ⟨g,1,none⟩=some (.int .i64 b)) (hc:Calls Tryz.prog 39 #[ptrO xb,.int .i64 a,.int .i64 b] w.drew (RetO R)) (hk:∀ v W,R v W→W.cell? ⟨bb,0,none⟩=some (ptrO pb)∧W.cell? ⟨pb,0,none⟩=some (ptrO xb)∧W.cell? ⟨g,0,none⟩=some (.int .i64 a)∧W.cell? ⟨g,1,none⟩=some (.int .i64 b)) :
  Calls Tryz.prog 38 #[.slice (some ⟨g,0,none⟩) 2 cap,ptrO bb] w (RetO R):=by
 have HC:=hid hc
 have HK:=hid hk
 clear hc hk
 go_enter Tryz.func38,Tryz.ntmps38
 go_wp2_with fail
 go_region_held3 (fun W=>W.cell? ⟨bb,0,none⟩=some (ptrO pb)∧W.cell? ⟨pb,0,none⟩=some (ptrO xb)∧W.cell? ⟨g,0,none⟩=some (.int .i64 a)∧W.cell? ⟨g,1,none⟩=some (.int .i64 b)) (first|exact hk2|go_keep) (first|(go_at_call 39; (with_reducible refine HC.out.mono ?_); rintro e w2 ⟨v,rfl,hR⟩; have HR:=hid hR; have hk2:=HK.out _ _ hR; clear hR))
 go_wp2_with fail
 go_ret
 exact ⟨_,rfl,HR.out⟩
theorem c2_any (hb:BoxO w bb (ptrO pb)) (hp:BoxO w pb (ptrO xb)) (h0:w.cell? ⟨g,0,none⟩=some (.int .i64 a)) (h1:w.cell? ⟨g,1,none⟩=some (.int .i64 b)) (hc:Calls Tryz.prog 41 #[ptrO xb,.int .i64 a,.int .i64 b] w.drew (RetO R)) (hk:∀ v W,R v W→W.cell? ⟨bb,0,none⟩=some (ptrO pb)∧W.cell? ⟨pb,0,none⟩=some (ptrO xb)∧W.cell? ⟨g,0,none⟩=some (.int .i64 a)∧W.cell? ⟨g,1,none⟩=some (.int .i64 b)) :
  Calls Tryz.prog 40 #[.slice (some ⟨g,0,none⟩) 2 cap,ptrO bb] w (RetO R):=by
 have HC:=hid hc
 have HK:=hid hk
 clear hc hk
 go_enter Tryz.func40,Tryz.ntmps40
 go_wp2_with fail
 go_region_held3 (fun W=>W.cell? ⟨bb,0,none⟩=some (ptrO pb)∧W.cell? ⟨pb,0,none⟩=some (ptrO xb)∧W.cell? ⟨g,0,none⟩=some (.int .i64 a)∧W.cell? ⟨g,1,none⟩=some (.int .i64 b)) (first|exact hk2|go_keep) (first|(go_at_call 41; (with_reducible refine HC.out.mono ?_); rintro e w2 ⟨v,rfl,hR⟩; have HR:=hid hR; have hk2:=HK.out _ _ hR; clear hR))
 go_wp2_with fail
 go_ret
 exact ⟨_,rfl,HR.out⟩
theorem c7_any (hb:BoxO w bb (ptrO pb)) (hp:BoxO w pb (ptrO xb)) (h0:w.cell? ⟨g,0,none⟩=some (.int .i64 a)) (h1:w.cell? ⟨g,1,none⟩=some (.int .i64 b)) (hc:Calls Tryz.prog 51 #[ptrO xb,.int .i64 a,.int .i64 b,.bool true] w.drew (RetO R)) (hk:∀ v W,R v W→W.cell? ⟨bb,0,none⟩=some (ptrO pb)∧W.cell? ⟨pb,0,none⟩=some (ptrO xb)∧W.cell? ⟨g,0,none⟩=some (.int .i64 a)∧W.cell? ⟨g,1,none⟩=some (.int .i64 b)) :
  Calls Tryz.prog 50 #[.slice (some ⟨g,0,none⟩) 2 cap,ptrO bb] w (RetO R):=by
 have HC:=hid hc
 have HK:=hid hk
 clear hc hk
 go_enter Tryz.func50,Tryz.ntmps50
 go_wp2_with fail
 go_region_held3 (fun W=>W.cell? ⟨bb,0,none⟩=some (ptrO pb)∧W.cell? ⟨pb,0,none⟩=some (ptrO xb)∧W.cell? ⟨g,0,none⟩=some (.int .i64 a)∧W.cell? ⟨g,1,none⟩=some (.int .i64 b)) (first|exact hk2|go_keep) (first|(go_at_call 51; (with_reducible refine HC.out.mono ?_); rintro e w2 ⟨v,rfl,hR⟩; have HR:=hid hR; have hk2:=HK.out _ _ hR; clear hR))
 go_wp2_with fail
 go_ret
 exact ⟨_,rfl,HR.out⟩
theorem c8_any (hb:BoxO w bb (ptrO pb)) (hp:BoxO w pb (ptrO xb)) (h0:w.cell? ⟨g,0,none⟩=some (.int .i64 a)) (h1:w.cell? ⟨g,1,none⟩=some (.int .i64 b)) (hc:Calls Tryz.prog 51 #[ptrO xb,.int .i64 a,.int .i64 b,.bool false] w.drew (RetO R)) (hk:∀ v W,R v W→W.cell? ⟨bb,0,none⟩=some (ptrO pb)∧W.cell? ⟨pb,0,none⟩=some (ptrO xb)∧W.cell? ⟨g,0,none⟩=some (.int .i64 a)∧W.cell? ⟨g,1,none⟩=some (.int .i64 b)) :
  Calls Tryz.prog 52 #[.slice (some ⟨g,0,none⟩) 2 cap,ptrO bb] w (RetO R):=by
 have HC:=hid hc
 have HK:=hid hk
 clear hc hk
 go_enter Tryz.func52,Tryz.ntmps52
 go_wp2_with fail
 go_region_held3 (fun W=>W.cell? ⟨bb,0,none⟩=some (ptrO pb)∧W.cell? ⟨pb,0,none⟩=some (ptrO xb)∧W.cell? ⟨g,0,none⟩=some (.int .i64 a)∧W.cell? ⟨g,1,none⟩=some (.int .i64 b)) (first|exact hk2|go_keep) (first|(go_at_call 51; (with_reducible refine HC.out.mono ?_); rintro e w2 ⟨v,rfl,hR⟩; have HR:=hid hR; have hk2:=HK.out _ _ hR; clear hR))
 go_wp2_with fail
 go_ret
 exact ⟨_,rfl,HR.out⟩
theorem c9_any (hb:BoxO w bb (ptrO pb)) (hp:BoxO w pb (ptrO xb)) (h0:w.cell? ⟨g,0,none⟩=some (.int .i64 a)) (h1:w.cell? ⟨g,1,none⟩=some (.int .i64 b)) (hc:Calls Tryz.prog 54 #[ptrO xb,.int .i64 a,.int .i64 b] w.drew (RetO R)) (hk:∀ v W,R v W→W.cell? ⟨bb,0,none⟩=some (ptrO pb)∧W.cell? ⟨pb,0,none⟩=some (ptrO xb)∧W.cell? ⟨g,0,none⟩=some (.int .i64 a)∧W.cell? ⟨g,1,none⟩=some (.int .i64 b)) :
  Calls Tryz.prog 53 #[.slice (some ⟨g,0,none⟩) 2 cap,ptrO bb] w (RetO R):=by
 have HC:=hid hc
 have HK:=hid hk
 clear hc hk
 go_enter Tryz.func53,Tryz.ntmps53
 go_wp2_with fail
 go_region_held3 (fun W=>W.cell? ⟨bb,0,none⟩=some (ptrO pb)∧W.cell? ⟨pb,0,none⟩=some (ptrO xb)∧W.cell? ⟨g,0,none⟩=some (.int .i64 a)∧W.cell? ⟨g,1,none⟩=some (.int .i64 b)) (first|exact hk2|go_keep) (first|(go_at_call 54; (with_reducible refine HC.out.mono ?_); rintro e w2 ⟨v,rfl,hR⟩; have HR:=hid hR; have hk2:=HK.out _ _ hR; clear hR))
 go_wp2_with fail
 go_ret
 exact ⟨_,rfl,HR.out⟩
theorem c3_any (hb:BoxO w bb (ptrO pb)) (hp:BoxO w pb (ptrO xb)) (h0:w.cell? ⟨g,0,none⟩=some (.int .i64 a)) (hc:Calls Tryz.prog 43 #[ptrO xb,.int .i64 a] w.drew (RetO R)) (hk:∀ v W,R v W→W.cell? ⟨bb,0,none⟩=some (ptrO pb)∧W.cell? ⟨pb,0,none⟩=some (ptrO xb)∧W.cell? ⟨g,0,none⟩=some (.int .i64 a)) :
  Calls Tryz.prog 42 #[.slice (some ⟨g,0,none⟩) 1 cap,ptrO bb] w (RetO R):=by
 have HC:=hid hc
 have HK:=hid hk
 clear hc hk
 go_enter Tryz.func42,Tryz.ntmps42
 go_wp2_with fail
 go_region_held3 (fun W=>W.cell? ⟨bb,0,none⟩=some (ptrO pb)∧W.cell? ⟨pb,0,none⟩=some (ptrO xb)∧W.cell? ⟨g,0,none⟩=some (.int .i64 a)) (first|exact hk2|go_keep) (first|(go_at_call 43; (with_reducible refine HC.out.mono ?_); rintro e w2 ⟨v,rfl,hR⟩; have HR:=hid hR; have hk2:=HK.out _ _ hR; clear hR))
 go_wp2_with fail
 go_ret
 exact ⟨_,rfl,HR.out⟩
theorem c4_any (hb:BoxO w bb (ptrO pb)) (hp:BoxO w pb (ptrO xb)) (h0:w.cell? ⟨g,0,none⟩=some (.int .i64 a)) (hc:Calls Tryz.prog 45 #[ptrO xb,.int .i64 a] w.drew (RetO R)) (hk:∀ v W,R v W→W.cell? ⟨bb,0,none⟩=some (ptrO pb)∧W.cell? ⟨pb,0,none⟩=some (ptrO xb)∧W.cell? ⟨g,0,none⟩=some (.int .i64 a)) :
  Calls Tryz.prog 44 #[.slice (some ⟨g,0,none⟩) 1 cap,ptrO bb] w (RetO R):=by
 have HC:=hid hc
 have HK:=hid hk
 clear hc hk
 go_enter Tryz.func44,Tryz.ntmps44
 go_wp2_with fail
 go_region_held3 (fun W=>W.cell? ⟨bb,0,none⟩=some (ptrO pb)∧W.cell? ⟨pb,0,none⟩=some (ptrO xb)∧W.cell? ⟨g,0,none⟩=some (.int .i64 a)) (first|exact hk2|go_keep) (first|(go_at_call 45; (with_reducible refine HC.out.mono ?_); rintro e w2 ⟨v,rfl,hR⟩; have HR:=hid hR; have hk2:=HK.out _ _ hR; clear hR))
 go_wp2_with fail
 go_ret
 exact ⟨_,rfl,HR.out⟩
theorem c5_any (hb:BoxO w bb (ptrO pb)) (hp:BoxO w pb (ptrO xb)) (h0:w.cell? ⟨g,0,none⟩=some (.int .i64 a)) (hc:Calls Tryz.prog 47 #[ptrO xb,.int .i64 a] w.drew (RetO R)) (hk:∀ v W,R v W→W.cell? ⟨bb,0,none⟩=some (ptrO pb)∧W.cell? ⟨pb,0,none⟩=some (ptrO xb)∧W.cell? ⟨g,0,none⟩=some (.int .i64 a)) :
  Calls Tryz.prog 46 #[.slice (some ⟨g,0,none⟩) 1 cap,ptrO bb] w (RetO R):=by
 have HC:=hid hc
 have HK:=hid hk
 clear hc hk
 go_enter Tryz.func46,Tryz.ntmps46
 go_wp2_with fail
 go_region_held3 (fun W=>W.cell? ⟨bb,0,none⟩=some (ptrO pb)∧W.cell? ⟨pb,0,none⟩=some (ptrO xb)∧W.cell? ⟨g,0,none⟩=some (.int .i64 a)) (first|exact hk2|go_keep) (first|(go_at_call 47; (with_reducible refine HC.out.mono ?_); rintro e w2 ⟨v,rfl,hR⟩; have HR:=hid hR; have hk2:=HK.out _ _ hR; clear hR))
 go_wp2_with fail
 go_ret
 exact ⟨_,rfl,HR.out⟩
theorem c6_any (hb:BoxO w bb (ptrO pb)) (hp:BoxO w pb (ptrO xb)) (h0:w.cell? ⟨g,0,none⟩=some (.int .i64 a)) (hc:Calls Tryz.prog 49 #[ptrO xb,.int .i64 a] w.drew (RetO R)) (hk:∀ v W,R v W→W.cell? ⟨bb,0,none⟩=some (ptrO pb)∧W.cell? ⟨pb,0,none⟩=some (ptrO xb)∧W.cell? ⟨g,0,none⟩=some (.int .i64 a)) :
  Calls Tryz.prog 48 #[.slice (some ⟨g,0,none⟩) 1 cap,ptrO bb] w (RetO R):=by
 have HC:=hid hc
 have HK:=hid hk
 clear hc hk
 go_enter Tryz.func48,Tryz.ntmps48
 go_wp2_with fail
 go_region_held3 (fun W=>W.cell? ⟨bb,0,none⟩=some (ptrO pb)∧W.cell? ⟨pb,0,none⟩=some (ptrO xb)∧W.cell? ⟨g,0,none⟩=some (.int .i64 a)) (first|exact hk2|go_keep) (first|(go_at_call 49; (with_reducible refine HC.out.mono ?_); rintro e w2 ⟨v,rfl,hR⟩; have HR:=hid hR; have hk2:=HK.out _ _ hR; clear hR))
 go_wp2_with fail
 go_ret
 exact ⟨_,rfl,HR.out⟩
theorem c10_any (hb:BoxO w bb (ptrO pb)) (hp:BoxO w pb (ptrO xb)) (h0:w.cell? ⟨g,0,none⟩=some (.int .i64 a)) (hc:Calls Tryz.prog 56 #[ptrO xb,.int .i64 a] w.drew (RetO R)) (hk:∀ v W,R v W→W.cell? ⟨bb,0,none⟩=some (ptrO pb)∧W.cell? ⟨pb,0,none⟩=some (ptrO xb)∧W.cell? ⟨g,0,none⟩=some (.int .i64 a)) :
  Calls Tryz.prog 55 #[.slice (some ⟨g,0,none⟩) 1 cap,ptrO bb] w (RetO R):=by
 have HC:=hid hc
 have HK:=hid hk
 clear hc hk
 go_enter Tryz.func55,Tryz.ntmps55
 go_wp2_with fail
 go_region_held3 (fun W=>W.cell? ⟨bb,0,none⟩=some (ptrO pb)∧W.cell? ⟨pb,0,none⟩=some (ptrO xb)∧W.cell? ⟨g,0,none⟩=some (.int .i64 a)) (first|exact hk2|go_keep) (first|(go_at_call 56; (with_reducible refine HC.out.mono ?_); rintro e w2 ⟨v,rfl,hR⟩; have HR:=hid hR; have hk2:=HK.out _ _ hR; clear hR))
 go_wp2_with fail
 go_ret
 exact ⟨_,rfl,HR.out⟩
theorem c11_any (hb:BoxO w bb (ptrO pb)) (hp:BoxO w pb (ptrO xb)) (h0:w.cell? ⟨g,0,none⟩=some (.int .i64 a)) (hc:Calls Tryz.prog 58 #[ptrO xb,.int .i64 a] w.drew (RetO R)) (hk:∀ v W,R v W→W.cell? ⟨bb,0,none⟩=some (ptrO pb)∧W.cell? ⟨pb,0,none⟩=some (ptrO xb)∧W.cell? ⟨g,0,none⟩=some (.int .i64 a)) :
  Calls Tryz.prog 57 #[.slice (some ⟨g,0,none⟩) 1 cap,ptrO bb] w (RetO R):=by
 have HC:=hid hc
 have HK:=hid hk
 clear hc hk
 go_enter Tryz.func57,Tryz.ntmps57
 go_wp2_with fail
 go_region_held3 (fun W=>W.cell? ⟨bb,0,none⟩=some (ptrO pb)∧W.cell? ⟨pb,0,none⟩=some (ptrO xb)∧W.cell? ⟨g,0,none⟩=some (.int .i64 a)) (first|exact hk2|go_keep) (first|(go_at_call 58; (with_reducible refine HC.out.mono ?_); rintro e w2 ⟨v,rfl,hR⟩; have HR:=hid hR; have hk2:=HK.out _ _ hR; clear hR))
 go_wp2_with fail
 go_ret
 exact ⟨_,rfl,HR.out⟩
end
section
variable {w:World} {pb bb x y z f xb:Nat} {nv:Value} {R:Value→World→Prop}
theorem does1_any (hf:∀ args w,(callFunc f args).run Tryz.prog w=.ok (.enter f args) w) (hz:BoxO w z (cloO f bb)) (hc:Calls Tryz.prog f #[nv,ptrO bb] w (RetO R)) :
  Calls Tryz.prog 99 #[nv,ptrO z] w (RetO fun v w'=>∃ e,v=.tuple #[.string ⟨#[111,107]⟩,e]∧R e w'):=by
 have HC:=hid hc
 clear hc
 go_enter Tryz.func99,Tryz.ntmps99
 go_wp2_with fail
 refine HC.out.mono ?_
 rintro e w2 ⟨v,rfl,hR⟩
 have HR:=hid hR
 clear hR
 go_wp2_with fail
 go_ret2
 exact ⟨_,rfl,_,rfl,HR.out⟩
theorem tells1_none {A:Nat→Addr} (hE:w.cell? ⟨3,0,none⟩=some (.iface 318 (.pointer (some (A 3))))) (hx:BoxO w x (ptrO pb)) (hp:BoxO w pb (.pointer none)) :
  Calls Tryz.prog 128 #[nv,ptrO x,ptrO y] w fun e w'=>e=.returned (.tuple #[.string ⟨#[]⟩,.iface 318 (.pointer (some (A 3)))])∧Below w.heap.size w w':=by
 go_enter Tryz.func128,Tryz.ntmps128
 go_wp2_with fail
 go_quiet (fail)
 go_wp2_with fail
 go_ret2
 exact ⟨rfl,below_drewN (Below.refl _ _) _⟩
theorem tells1_some (hf:∀ args w,(callFunc f args).run Tryz.prog w=.ok (.enter f args) w) (hx:BoxO w x (ptrO pb)) (hp:BoxO w pb (ptrO xb)) (hy:BoxO w y (cloO f bb)) (hc:Calls Tryz.prog f #[nv,ptrO bb] w (RetO fun v w'=>∃ s e,v=.tuple #[.string s,e]∧R v w')) :
  Calls Tryz.prog 128 #[nv,ptrO x,ptrO y] w (RetO fun v w'=>∃ s e,v=.tuple #[.string s,e]∧R v w'):=by
 have HC:=hid hc
 clear hc
 go_enter Tryz.func128,Tryz.ntmps128
 go_wp2_with fail
 refine HC.out.mono ?_
 rintro e w2 ⟨v,rfl,s,e,rfl,hR⟩
 have HR:=hid hR
 clear hR
 go_wp2_with fail
 go_ret2
 exact ⟨_,rfl,_,_,rfl,HR.out⟩
end
end Go.Proofs.YtaehdgemkafinaaGreatDoor
