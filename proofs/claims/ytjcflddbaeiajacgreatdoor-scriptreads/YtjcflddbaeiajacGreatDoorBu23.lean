/-
  On the way to SReadsProof: O7 O8.
-/
import Derived.Test.YtjcflddbaeiajacGreatDoorBu17
import Derived.Shelf.Abstract
set_option maxHeartbeats 8000000
set_option maxRecDepth 100000
namespace Go.Proofs.YtjcflddbaeiajacGreatDoor
open Go.RowKit
abbrev RetO (R:Value→World→Prop):Ending→World→Prop:=fun e w'=>∃ v,e=.returned v∧R v w'
section
variable {w:World} {pb bb xb g n cap:Nat} {a b:Int} {R:Value→World→Prop}
theorem c1_any (hb:BoxO w bb (ptrO pb)) (hp:BoxO w pb (ptrO xb)) (h0:w.cell? ⟨g,0,none⟩=some (.int .i64 a)) (h1:w.cell? ⟨g,1,none⟩=some (.int .i64 b)) (hc:Calls Tryz.prog 45 #[ptrO xb,.int .i64 a,.int .i64 b] w.drew (RetO R)) (hk:∀ v W,R v W→W.cell? ⟨bb,0,none⟩=some (ptrO pb)∧W.cell? ⟨pb,0,none⟩=some (ptrO xb)∧W.cell? ⟨g,0,none⟩=some (.int .i64 a)∧W.cell? ⟨g,1,none⟩=some (.int .i64 b)) :
  Calls Tryz.prog 157 #[.slice (some ⟨g,0,none⟩) 2 cap,ptrO bb] w (RetO R):=by
 have HC:=hid hc
 have HK:=hid hk
 clear hc hk
 go_enter Tryz.func157,Tryz.ntmps157
 go_wp2_with fail
 go_region_held3 (fun W=>W.cell? ⟨bb,0,none⟩=some (ptrO pb)∧W.cell? ⟨pb,0,none⟩=some (ptrO xb)∧W.cell? ⟨g,0,none⟩=some (.int .i64 a)∧W.cell? ⟨g,1,none⟩=some (.int .i64 b)) (first|exact hk2|go_keep) (first|(go_at_call 45; (with_reducible refine HC.out.mono ?_); rintro e w2 ⟨v,rfl,hR⟩; have HR:=hid hR; have hk2:=HK.out _ _ hR; clear hR))
 go_wp2_with fail
 go_ret
 exact ⟨_,rfl,HR.out⟩
theorem c2_any (hb:BoxO w bb (ptrO pb)) (hp:BoxO w pb (ptrO xb)) (h0:w.cell? ⟨g,0,none⟩=some (.int .i64 a)) (h1:w.cell? ⟨g,1,none⟩=some (.int .i64 b)) (hc:Calls Tryz.prog 54 #[ptrO xb,.int .i64 a,.int .i64 b] w.drew (RetO R)) (hk:∀ v W,R v W→W.cell? ⟨bb,0,none⟩=some (ptrO pb)∧W.cell? ⟨pb,0,none⟩=some (ptrO xb)∧W.cell? ⟨g,0,none⟩=some (.int .i64 a)∧W.cell? ⟨g,1,none⟩=some (.int .i64 b)) :
  Calls Tryz.prog 158 #[.slice (some ⟨g,0,none⟩) 2 cap,ptrO bb] w (RetO R):=by
 have HC:=hid hc
 have HK:=hid hk
 clear hc hk
 go_enter Tryz.func158,Tryz.ntmps158
 go_wp2_with fail
 go_region_held3 (fun W=>W.cell? ⟨bb,0,none⟩=some (ptrO pb)∧W.cell? ⟨pb,0,none⟩=some (ptrO xb)∧W.cell? ⟨g,0,none⟩=some (.int .i64 a)∧W.cell? ⟨g,1,none⟩=some (.int .i64 b)) (first|exact hk2|go_keep) (first|(go_at_call 54; (with_reducible refine HC.out.mono ?_); rintro e w2 ⟨v,rfl,hR⟩; have HR:=hid hR; have hk2:=HK.out _ _ hR; clear hR))
 go_wp2_with fail
 go_ret
 exact ⟨_,rfl,HR.out⟩
theorem c7_any (hb:BoxO w bb (ptrO pb)) (hp:BoxO w pb (ptrO xb)) (h0:w.cell? ⟨g,0,none⟩=some (.int .i64 a)) (h1:w.cell? ⟨g,1,none⟩=some (.int .i64 b)) (hc:Calls Tryz.prog 66 #[ptrO xb,.int .i64 a,.int .i64 b,.bool true] w.drew (RetO R)) (hk:∀ v W,R v W→W.cell? ⟨bb,0,none⟩=some (ptrO pb)∧W.cell? ⟨pb,0,none⟩=some (ptrO xb)∧W.cell? ⟨g,0,none⟩=some (.int .i64 a)∧W.cell? ⟨g,1,none⟩=some (.int .i64 b)) :
  Calls Tryz.prog 163 #[.slice (some ⟨g,0,none⟩) 2 cap,ptrO bb] w (RetO R):=by
 have HC:=hid hc
 have HK:=hid hk
 clear hc hk
 go_enter Tryz.func163,Tryz.ntmps163
 go_wp2_with fail
 go_region_held3 (fun W=>W.cell? ⟨bb,0,none⟩=some (ptrO pb)∧W.cell? ⟨pb,0,none⟩=some (ptrO xb)∧W.cell? ⟨g,0,none⟩=some (.int .i64 a)∧W.cell? ⟨g,1,none⟩=some (.int .i64 b)) (first|exact hk2|go_keep) (first|(go_at_call 66; (with_reducible refine HC.out.mono ?_); rintro e w2 ⟨v,rfl,hR⟩; have HR:=hid hR; have hk2:=HK.out _ _ hR; clear hR))
 go_wp2_with fail
 go_ret
 exact ⟨_,rfl,HR.out⟩
theorem c8_any (hb:BoxO w bb (ptrO pb)) (hp:BoxO w pb (ptrO xb)) (h0:w.cell? ⟨g,0,none⟩=some (.int .i64 a)) (h1:w.cell? ⟨g,1,none⟩=some (.int .i64 b)) (hc:Calls Tryz.prog 66 #[ptrO xb,.int .i64 a,.int .i64 b,.bool false] w.drew (RetO R)) (hk:∀ v W,R v W→W.cell? ⟨bb,0,none⟩=some (ptrO pb)∧W.cell? ⟨pb,0,none⟩=some (ptrO xb)∧W.cell? ⟨g,0,none⟩=some (.int .i64 a)∧W.cell? ⟨g,1,none⟩=some (.int .i64 b)) :
  Calls Tryz.prog 164 #[.slice (some ⟨g,0,none⟩) 2 cap,ptrO bb] w (RetO R):=by
 have HC:=hid hc
 have HK:=hid hk
 clear hc hk
 go_enter Tryz.func164,Tryz.ntmps164
 go_wp2_with fail
 go_region_held3 (fun W=>W.cell? ⟨bb,0,none⟩=some (ptrO pb)∧W.cell? ⟨pb,0,none⟩=some (ptrO xb)∧W.cell? ⟨g,0,none⟩=some (.int .i64 a)∧W.cell? ⟨g,1,none⟩=some (.int .i64 b)) (first|exact hk2|go_keep) (first|(go_at_call 66; (with_reducible refine HC.out.mono ?_); rintro e w2 ⟨v,rfl,hR⟩; have HR:=hid hR; have hk2:=HK.out _ _ hR; clear hR))
 go_wp2_with fail
 go_ret
 exact ⟨_,rfl,HR.out⟩
theorem c9_any (hb:BoxO w bb (ptrO pb)) (hp:BoxO w pb (ptrO xb)) (h0:w.cell? ⟨g,0,none⟩=some (.int .i64 a)) (h1:w.cell? ⟨g,1,none⟩=some (.int .i64 b)) (hc:Calls Tryz.prog 68 #[ptrO xb,.int .i64 a,.int .i64 b] w.drew (RetO R)) (hk:∀ v W,R v W→W.cell? ⟨bb,0,none⟩=some (ptrO pb)∧W.cell? ⟨pb,0,none⟩=some (ptrO xb)∧W.cell? ⟨g,0,none⟩=some (.int .i64 a)∧W.cell? ⟨g,1,none⟩=some (.int .i64 b)) :
  Calls Tryz.prog 165 #[.slice (some ⟨g,0,none⟩) 2 cap,ptrO bb] w (RetO R):=by
 have HC:=hid hc
 have HK:=hid hk
 clear hc hk
 go_enter Tryz.func165,Tryz.ntmps165
 go_wp2_with fail
 go_region_held3 (fun W=>W.cell? ⟨bb,0,none⟩=some (ptrO pb)∧W.cell? ⟨pb,0,none⟩=some (ptrO xb)∧W.cell? ⟨g,0,none⟩=some (.int .i64 a)∧W.cell? ⟨g,1,none⟩=some (.int .i64 b)) (first|exact hk2|go_keep) (first|(go_at_call 68; (with_reducible refine HC.out.mono ?_); rintro e w2 ⟨v,rfl,hR⟩; have HR:=hid hR; have hk2:=HK.out _ _ hR; clear hR))
 go_wp2_with fail
 go_ret
 exact ⟨_,rfl,HR.out⟩
theorem c3_any (hb:BoxO w bb (ptrO pb)) (hp:BoxO w pb (ptrO xb)) (h0:w.cell? ⟨g,0,none⟩=some (.int .i64 a)) (hc:Calls Tryz.prog 56 #[ptrO xb,.int .i64 a] w.drew (RetO R)) (hk:∀ v W,R v W→W.cell? ⟨bb,0,none⟩=some (ptrO pb)∧W.cell? ⟨pb,0,none⟩=some (ptrO xb)∧W.cell? ⟨g,0,none⟩=some (.int .i64 a)) :
  Calls Tryz.prog 159 #[.slice (some ⟨g,0,none⟩) 1 cap,ptrO bb] w (RetO R):=by
 have HC:=hid hc
 have HK:=hid hk
 clear hc hk
 go_enter Tryz.func159,Tryz.ntmps159
 go_wp2_with fail
 go_region_held3 (fun W=>W.cell? ⟨bb,0,none⟩=some (ptrO pb)∧W.cell? ⟨pb,0,none⟩=some (ptrO xb)∧W.cell? ⟨g,0,none⟩=some (.int .i64 a)) (first|exact hk2|go_keep) (first|(go_at_call 56; (with_reducible refine HC.out.mono ?_); rintro e w2 ⟨v,rfl,hR⟩; have HR:=hid hR; have hk2:=HK.out _ _ hR; clear hR))
 go_wp2_with fail
 go_ret
 exact ⟨_,rfl,HR.out⟩
theorem c4_any (hb:BoxO w bb (ptrO pb)) (hp:BoxO w pb (ptrO xb)) (h0:w.cell? ⟨g,0,none⟩=some (.int .i64 a)) (hc:Calls Tryz.prog 70 #[ptrO xb,.int .i64 a] w.drew (RetO R)) (hk:∀ v W,R v W→W.cell? ⟨bb,0,none⟩=some (ptrO pb)∧W.cell? ⟨pb,0,none⟩=some (ptrO xb)∧W.cell? ⟨g,0,none⟩=some (.int .i64 a)) :
  Calls Tryz.prog 160 #[.slice (some ⟨g,0,none⟩) 1 cap,ptrO bb] w (RetO R):=by
 have HC:=hid hc
 have HK:=hid hk
 clear hc hk
 go_enter Tryz.func160,Tryz.ntmps160
 go_wp2_with fail
 go_region_held3 (fun W=>W.cell? ⟨bb,0,none⟩=some (ptrO pb)∧W.cell? ⟨pb,0,none⟩=some (ptrO xb)∧W.cell? ⟨g,0,none⟩=some (.int .i64 a)) (first|exact hk2|go_keep) (first|(go_at_call 70; (with_reducible refine HC.out.mono ?_); rintro e w2 ⟨v,rfl,hR⟩; have HR:=hid hR; have hk2:=HK.out _ _ hR; clear hR))
 go_wp2_with fail
 go_ret
 exact ⟨_,rfl,HR.out⟩
theorem c5_any (hb:BoxO w bb (ptrO pb)) (hp:BoxO w pb (ptrO xb)) (h0:w.cell? ⟨g,0,none⟩=some (.int .i64 a)) (hc:Calls Tryz.prog 62 #[ptrO xb,.int .i64 a] w.drew (RetO R)) (hk:∀ v W,R v W→W.cell? ⟨bb,0,none⟩=some (ptrO pb)∧W.cell? ⟨pb,0,none⟩=some (ptrO xb)∧W.cell? ⟨g,0,none⟩=some (.int .i64 a)) :
  Calls Tryz.prog 161 #[.slice (some ⟨g,0,none⟩) 1 cap,ptrO bb] w (RetO R):=by
 have HC:=hid hc
 have HK:=hid hk
 clear hc hk
 go_enter Tryz.func161,Tryz.ntmps161
 go_wp2_with fail
 go_region_held3 (fun W=>W.cell? ⟨bb,0,none⟩=some (ptrO pb)∧W.cell? ⟨pb,0,none⟩=some (ptrO xb)∧W.cell? ⟨g,0,none⟩=some (.int .i64 a)) (first|exact hk2|go_keep) (first|(go_at_call 62; (with_reducible refine HC.out.mono ?_); rintro e w2 ⟨v,rfl,hR⟩; have HR:=hid hR; have hk2:=HK.out _ _ hR; clear hR))
 go_wp2_with fail
 go_ret
 exact ⟨_,rfl,HR.out⟩
theorem c6_any (hb:BoxO w bb (ptrO pb)) (hp:BoxO w pb (ptrO xb)) (h0:w.cell? ⟨g,0,none⟩=some (.int .i64 a)) (hc:Calls Tryz.prog 64 #[ptrO xb,.int .i64 a] w.drew (RetO R)) (hk:∀ v W,R v W→W.cell? ⟨bb,0,none⟩=some (ptrO pb)∧W.cell? ⟨pb,0,none⟩=some (ptrO xb)∧W.cell? ⟨g,0,none⟩=some (.int .i64 a)) :
  Calls Tryz.prog 162 #[.slice (some ⟨g,0,none⟩) 1 cap,ptrO bb] w (RetO R):=by
 have HC:=hid hc
 have HK:=hid hk
 clear hc hk
 go_enter Tryz.func162,Tryz.ntmps162
 go_wp2_with fail
 go_region_held3 (fun W=>W.cell? ⟨bb,0,none⟩=some (ptrO pb)∧W.cell? ⟨pb,0,none⟩=some (ptrO xb)∧W.cell? ⟨g,0,none⟩=some (.int .i64 a)) (first|exact hk2|go_keep) (first|(go_at_call 64; (with_reducible refine HC.out.mono ?_); rintro e w2 ⟨v,rfl,hR⟩; have HR:=hid hR; have hk2:=HK.out _ _ hR; clear hR))
 go_wp2_with fail
 go_ret
 exact ⟨_,rfl,HR.out⟩
theorem c10_any (hb:BoxO w bb (ptrO pb)) (hp:BoxO w pb (ptrO xb)) (h0:w.cell? ⟨g,0,none⟩=some (.int .i64 a)) (hc:Calls Tryz.prog 58 #[ptrO xb,.int .i64 a] w.drew (RetO R)) (hk:∀ v W,R v W→W.cell? ⟨bb,0,none⟩=some (ptrO pb)∧W.cell? ⟨pb,0,none⟩=some (ptrO xb)∧W.cell? ⟨g,0,none⟩=some (.int .i64 a)) :
  Calls Tryz.prog 166 #[.slice (some ⟨g,0,none⟩) 1 cap,ptrO bb] w (RetO R):=by
 have HC:=hid hc
 have HK:=hid hk
 clear hc hk
 go_enter Tryz.func166,Tryz.ntmps166
 go_wp2_with fail
 go_region_held3 (fun W=>W.cell? ⟨bb,0,none⟩=some (ptrO pb)∧W.cell? ⟨pb,0,none⟩=some (ptrO xb)∧W.cell? ⟨g,0,none⟩=some (.int .i64 a)) (first|exact hk2|go_keep) (first|(go_at_call 58; (with_reducible refine HC.out.mono ?_); rintro e w2 ⟨v,rfl,hR⟩; have HR:=hid hR; have hk2:=HK.out _ _ hR; clear hR))
 go_wp2_with fail
 go_ret
 exact ⟨_,rfl,HR.out⟩
theorem c11_any (hb:BoxO w bb (ptrO pb)) (hp:BoxO w pb (ptrO xb)) (h0:w.cell? ⟨g,0,none⟩=some (.int .i64 a)) (hc:Calls Tryz.prog 60 #[ptrO xb,.int .i64 a] w.drew (RetO R)) (hk:∀ v W,R v W→W.cell? ⟨bb,0,none⟩=some (ptrO pb)∧W.cell? ⟨pb,0,none⟩=some (ptrO xb)∧W.cell? ⟨g,0,none⟩=some (.int .i64 a)) :
  Calls Tryz.prog 167 #[.slice (some ⟨g,0,none⟩) 1 cap,ptrO bb] w (RetO R):=by
 have HC:=hid hc
 have HK:=hid hk
 clear hc hk
 go_enter Tryz.func167,Tryz.ntmps167
 go_wp2_with fail
 go_region_held3 (fun W=>W.cell? ⟨bb,0,none⟩=some (ptrO pb)∧W.cell? ⟨pb,0,none⟩=some (ptrO xb)∧W.cell? ⟨g,0,none⟩=some (.int .i64 a)) (first|exact hk2|go_keep) (first|(go_at_call 60; (with_reducible refine HC.out.mono ?_); rintro e w2 ⟨v,rfl,hR⟩; have HR:=hid hR; have hk2:=HK.out _ _ hR; clear hR))
 go_wp2_with fail
 go_ret
 exact ⟨_,rfl,HR.out⟩
end
section
variable {w:World} {pb bb x y z f xb:Nat} {nv:Value} {R:Value→World→Prop}
theorem does1_any (hf:∀ args w,(callFunc f args).run Tryz.prog w=.ok (.enter f args) w) (hz:BoxO w z (cloO f bb)) (hc:Calls Tryz.prog f #[nv,ptrO bb] w (RetO R)) :
  Calls Tryz.prog 227 #[nv,ptrO z] w (RetO fun v w'=>∃ e,v=.tuple #[.string ⟨#[111,107]⟩,e]∧R e w'):=by
 have HC:=hid hc
 clear hc
 go_enter Tryz.func227,Tryz.ntmps227
 go_wp2_with fail
 refine HC.out.mono ?_
 rintro e w2 ⟨v,rfl,hR⟩
 have HR:=hid hR
 clear hR
 go_wp2_with fail
 go_ret2
 exact ⟨_,rfl,_,rfl,HR.out⟩
theorem tells1_none {A:Nat→Addr} (hE:w.cell? ⟨3,0,none⟩=some (.iface 407 (.pointer (some (A 3))))) (hx:BoxO w x (ptrO pb)) (hp:BoxO w pb (.pointer none)) :
  Calls Tryz.prog 228 #[nv,ptrO x,ptrO y] w fun e w'=>e=.returned (.tuple #[.string ⟨#[]⟩,.iface 407 (.pointer (some (A 3)))])∧Below w.heap.size w w':=by
 go_enter Tryz.func228,Tryz.ntmps228
 go_wp2_with fail
 go_quiet (fail)
 go_wp2_with fail
 go_ret2
 exact ⟨rfl,below_drewN (Below.refl _ _) _⟩
theorem tells1_some (hf:∀ args w,(callFunc f args).run Tryz.prog w=.ok (.enter f args) w) (hx:BoxO w x (ptrO pb)) (hp:BoxO w pb (ptrO xb)) (hy:BoxO w y (cloO f bb)) (hc:Calls Tryz.prog f #[nv,ptrO bb] w (RetO fun v w'=>∃ s e,v=.tuple #[.string s,e]∧R v w')) :
  Calls Tryz.prog 228 #[nv,ptrO x,ptrO y] w (RetO fun v w'=>∃ s e,v=.tuple #[.string s,e]∧R v w'):=by
 have HC:=hid hc
 clear hc
 go_enter Tryz.func228,Tryz.ntmps228
 go_wp2_with fail
 refine HC.out.mono ?_
 rintro e w2 ⟨v,rfl,s,e,rfl,hR⟩
 have HR:=hid hR
 clear hR
 go_wp2_with fail
 go_ret2
 exact ⟨_,rfl,_,_,rfl,HR.out⟩
end
end Go.Proofs.YtjcflddbaeiajacGreatDoor
