/-
  On the way to SPlaysProof: O7 O8 L8 QG QH EE.
-/
import Derived.Test.YtaehdgemkafinaaGreatDoorBw9
import Derived.Test.YtaehdgemkafinaaGreatDoorBw11
import Derived.Shelf.Abstract
set_option maxHeartbeats 8000000
set_option maxRecDepth 100000
namespace Go.Proofs.YtaehdgemkafinaaGreatDoor
open Go.RowKit
abbrev RetO (R:Value→World→Prop):Ending→World→Prop:=fun e w'=>∃ v,e=.returned v∧R v w'
section
variable {w:World} {pb bb xb g n cap:Nat} {a b:Int} {R:Value→World→Prop}
theorem c1_any (hb:BoxO w bb (ptrO pb)) (hp:BoxO w pb (ptrO xb)) (h0:w.cell? ⟨g,0,none⟩=some (.int .i64 a)) (h1:w.cell? ⟨g,1,none⟩=some (.int .i64 b)) (hc:Calls Tryz.prog 39 #[ptrO xb,.int .i64 a,.int .i64 b] w.drew (RetO R)) (hk:∀ v W,R v W→W.cell? ⟨bb,0,none⟩=some (ptrO pb)∧W.cell? ⟨pb,0,none⟩=some (ptrO xb)∧W.cell? ⟨g,0,none⟩=some (.int .i64 a)∧W.cell? ⟨g,1,none⟩=some (.int .i64 b)) :
  Calls Tryz.prog 38 #[.slice (some ⟨g,0,none⟩) 2 cap,ptrO bb] w (RetO R):=by
 have HC:=hid hc
 have HK:=hid hk
 clear hc hk
 go_enter Tryz.func38,Tryz.ntmps38
 go_wp2_with fail
 go_region_held3 (fun W=>W.cell? ⟨bb,0,none⟩=some (ptrO pb)∧W.cell? ⟨pb,0,none⟩=some (ptrO xb)∧W.cell? ⟨g,0,none⟩=some (.int .i64 a)∧W.cell? ⟨g,1,none⟩=some (.int .i64 b)) (first|exact hk2|go_keep) (first|(go_at_call 39; (with_reducible refine HC.out.mono ?_); rintro e w2 ⟨v,rfl,hR⟩; have HR:=hid hR; have hk2:=HK.out _ _ hR; clear hR))
 go_wp2_with fail
 go_ret
 exact ⟨_,rfl,HR.out⟩
theorem c2_any (hb:BoxO w bb (ptrO pb)) (hp:BoxO w pb (ptrO xb)) (h0:w.cell? ⟨g,0,none⟩=some (.int .i64 a)) (h1:w.cell? ⟨g,1,none⟩=some (.int .i64 b)) (hc:Calls Tryz.prog 41 #[ptrO xb,.int .i64 a,.int .i64 b] w.drew (RetO R)) (hk:∀ v W,R v W→W.cell? ⟨bb,0,none⟩=some (ptrO pb)∧W.cell? ⟨pb,0,none⟩=some (ptrO xb)∧W.cell? ⟨g,0,none⟩=some (.int .i64 a)∧W.cell? ⟨g,1,none⟩=some (.int .i64 b)) :
  Calls Tryz.prog 40 #[.slice (some ⟨g,0,none⟩) 2 cap,ptrO bb] w (RetO R):=by
 have HC:=hid hc
 have HK:=hid hk
 clear hc hk
 go_enter Tryz.func40,Tryz.ntmps40
 go_wp2_with fail
 go_region_held3 (fun W=>W.cell? ⟨bb,0,none⟩=some (ptrO pb)∧W.cell? ⟨pb,0,none⟩=some (ptrO xb)∧W.cell? ⟨g,0,none⟩=some (.int .i64 a)∧W.cell? ⟨g,1,none⟩=some (.int .i64 b)) (first|exact hk2|go_keep) (first|(go_at_call 41; (with_reducible refine HC.out.mono ?_); rintro e w2 ⟨v,rfl,hR⟩; have HR:=hid hR; have hk2:=HK.out _ _ hR; clear hR))
 go_wp2_with fail
 go_ret
 exact ⟨_,rfl,HR.out⟩
theorem c7_any (hb:BoxO w bb (ptrO pb)) (hp:BoxO w pb (ptrO xb)) (h0:w.cell? ⟨g,0,none⟩=some (.int .i64 a)) (h1:w.cell? ⟨g,1,none⟩=some (.int .i64 b)) (hc:Calls Tryz.prog 51 #[ptrO xb,.int .i64 a,.int .i64 b,.bool true] w.drew (RetO R)) (hk:∀ v W,R v W→W.cell? ⟨bb,0,none⟩=some (ptrO pb)∧W.cell? ⟨pb,0,none⟩=some (ptrO xb)∧W.cell? ⟨g,0,none⟩=some (.int .i64 a)∧W.cell? ⟨g,1,none⟩=some (.int .i64 b)) :
  Calls Tryz.prog 50 #[.slice (some ⟨g,0,none⟩) 2 cap,ptrO bb] w (RetO R):=by
 have HC:=hid hc
 have HK:=hid hk
 clear hc hk
 go_enter Tryz.func50,Tryz.ntmps50
 go_wp2_with fail
 go_region_held3 (fun W=>W.cell? ⟨bb,0,none⟩=some (ptrO pb)∧W.cell? ⟨pb,0,none⟩=some (ptrO xb)∧W.cell? ⟨g,0,none⟩=some (.int .i64 a)∧W.cell? ⟨g,1,none⟩=some (.int .i64 b)) (first|exact hk2|go_keep) (first|(go_at_call 51; (with_reducible refine HC.out.mono ?_); rintro e w2 ⟨v,rfl,hR⟩; have HR:=hid hR; have hk2:=HK.out _ _ hR; clear hR))
 go_wp2_with fail
 go_ret
 exact ⟨_,rfl,HR.out⟩
theorem c8_any (hb:BoxO w bb (ptrO pb)) (hp:BoxO w pb (ptrO xb)) (h0:w.cell? ⟨g,0,none⟩=some (.int .i64 a)) (h1:w.cell? ⟨g,1,none⟩=some (.int .i64 b)) (hc:Calls Tryz.prog 51 #[ptrO xb,.int .i64 a,.int .i64 b,.bool false] w.drew (RetO R)) (hk:∀ v W,R v W→W.cell? ⟨bb,0,none⟩=some (ptrO pb)∧W.cell? ⟨pb,0,none⟩=some (ptrO xb)∧W.cell? ⟨g,0,none⟩=some (.int .i64 a)∧W.cell? ⟨g,1,none⟩=some (.int .i64 b)) :
  Calls Tryz.prog 52 #[.slice (some ⟨g,0,none⟩) 2 cap,ptrO bb] w (RetO R):=by
 have HC:=hid hc
 have HK:=hid hk
 clear hc hk
 go_enter Tryz.func52,Tryz.ntmps52
 go_wp2_with fail
 go_region_held3 (fun W=>W.cell? ⟨bb,0,none⟩=some (ptrO pb)∧W.cell? ⟨pb,0,none⟩=some (ptrO xb)∧W.cell? ⟨g,0,none⟩=some (.int .i64 a)∧W.cell? ⟨g,1,none⟩=some (.int .i64 b)) (first|exact hk2|go_keep) (first|(go_at_call 51; (with_reducible refine HC.out.mono ?_); rintro e w2 ⟨v,rfl,hR⟩; have HR:=hid hR; have hk2:=HK.out _ _ hR; clear hR))
 go_wp2_with fail
 go_ret
 exact ⟨_,rfl,HR.out⟩
theorem c9_any (hb:BoxO w bb (ptrO pb)) (hp:BoxO w pb (ptrO xb)) (h0:w.cell? ⟨g,0,none⟩=some (.int .i64 a)) (h1:w.cell? ⟨g,1,none⟩=some (.int .i64 b)) (hc:Calls Tryz.prog 54 #[ptrO xb,.int .i64 a,.int .i64 b] w.drew (RetO R)) (hk:∀ v W,R v W→W.cell? ⟨bb,0,none⟩=some (ptrO pb)∧W.cell? ⟨pb,0,none⟩=some (ptrO xb)∧W.cell? ⟨g,0,none⟩=some (.int .i64 a)∧W.cell? ⟨g,1,none⟩=some (.int .i64 b)) :
  Calls Tryz.prog 53 #[.slice (some ⟨g,0,none⟩) 2 cap,ptrO bb] w (RetO R):=by
 have HC:=hid hc
 have HK:=hid hk
 clear hc hk
 go_enter Tryz.func53,Tryz.ntmps53
 go_wp2_with fail
 go_region_held3 (fun W=>W.cell? ⟨bb,0,none⟩=some (ptrO pb)∧W.cell? ⟨pb,0,none⟩=some (ptrO xb)∧W.cell? ⟨g,0,none⟩=some (.int .i64 a)∧W.cell? ⟨g,1,none⟩=some (.int .i64 b)) (first|exact hk2|go_keep) (first|(go_at_call 54; (with_reducible refine HC.out.mono ?_); rintro e w2 ⟨v,rfl,hR⟩; have HR:=hid hR; have hk2:=HK.out _ _ hR; clear hR))
 go_wp2_with fail
 go_ret
 exact ⟨_,rfl,HR.out⟩
theorem c3_any (hb:BoxO w bb (ptrO pb)) (hp:BoxO w pb (ptrO xb)) (h0:w.cell? ⟨g,0,none⟩=some (.int .i64 a)) (hc:Calls Tryz.prog 43 #[ptrO xb,.int .i64 a] w.drew (RetO R)) (hk:∀ v W,R v W→W.cell? ⟨bb,0,none⟩=some (ptrO pb)∧W.cell? ⟨pb,0,none⟩=some (ptrO xb)∧W.cell? ⟨g,0,none⟩=some (.int .i64 a)) :
  Calls Tryz.prog 42 #[.slice (some ⟨g,0,none⟩) 1 cap,ptrO bb] w (RetO R):=by
 have HC:=hid hc
 have HK:=hid hk
 clear hc hk
 go_enter Tryz.func42,Tryz.ntmps42
 go_wp2_with fail
 go_region_held3 (fun W=>W.cell? ⟨bb,0,none⟩=some (ptrO pb)∧W.cell? ⟨pb,0,none⟩=some (ptrO xb)∧W.cell? ⟨g,0,none⟩=some (.int .i64 a)) (first|exact hk2|go_keep) (first|(go_at_call 43; (with_reducible refine HC.out.mono ?_); rintro e w2 ⟨v,rfl,hR⟩; have HR:=hid hR; have hk2:=HK.out _ _ hR; clear hR))
 go_wp2_with fail
 go_ret
 exact ⟨_,rfl,HR.out⟩
theorem c4_any (hb:BoxO w bb (ptrO pb)) (hp:BoxO w pb (ptrO xb)) (h0:w.cell? ⟨g,0,none⟩=some (.int .i64 a)) (hc:Calls Tryz.prog 45 #[ptrO xb,.int .i64 a] w.drew (RetO R)) (hk:∀ v W,R v W→W.cell? ⟨bb,0,none⟩=some (ptrO pb)∧W.cell? ⟨pb,0,none⟩=some (ptrO xb)∧W.cell? ⟨g,0,none⟩=some (.int .i64 a)) :
  Calls Tryz.prog 44 #[.slice (some ⟨g,0,none⟩) 1 cap,ptrO bb] w (RetO R):=by
 have HC:=hid hc
 have HK:=hid hk
 clear hc hk
 go_enter Tryz.func44,Tryz.ntmps44
 go_wp2_with fail
 go_region_held3 (fun W=>W.cell? ⟨bb,0,none⟩=some (ptrO pb)∧W.cell? ⟨pb,0,none⟩=some (ptrO xb)∧W.cell? ⟨g,0,none⟩=some (.int .i64 a)) (first|exact hk2|go_keep) (first|(go_at_call 45; (with_reducible refine HC.out.mono ?_); rintro e w2 ⟨v,rfl,hR⟩; have HR:=hid hR; have hk2:=HK.out _ _ hR; clear hR))
 go_wp2_with fail
 go_ret
 exact ⟨_,rfl,HR.out⟩
theorem c5_any (hb:BoxO w bb (ptrO pb)) (hp:BoxO w pb (ptrO xb)) (h0:w.cell? ⟨g,0,none⟩=some (.int .i64 a)) (hc:Calls Tryz.prog 47 #[ptrO xb,.int .i64 a] w.drew (RetO R)) (hk:∀ v W,R v W→W.cell? ⟨bb,0,none⟩=some (ptrO pb)∧W.cell? ⟨pb,0,none⟩=some (ptrO xb)∧W.cell? ⟨g,0,none⟩=some (.int .i64 a)) :
  Calls Tryz.prog 46 #[.slice (some ⟨g,0,none⟩) 1 cap,ptrO bb] w (RetO R):=by
 have HC:=hid hc
 have HK:=hid hk
 clear hc hk
 go_enter Tryz.func46,Tryz.ntmps46
 go_wp2_with fail
 go_region_held3 (fun W=>W.cell? ⟨bb,0,none⟩=some (ptrO pb)∧W.cell? ⟨pb,0,none⟩=some (ptrO xb)∧W.cell? ⟨g,0,none⟩=some (.int .i64 a)) (first|exact hk2|go_keep) (first|(go_at_call 47; (with_reducible refine HC.out.mono ?_); rintro e w2 ⟨v,rfl,hR⟩; have HR:=hid hR; have hk2:=HK.out _ _ hR; clear hR))
 go_wp2_with fail
 go_ret
 exact ⟨_,rfl,HR.out⟩
theorem c6_any (hb:BoxO w bb (ptrO pb)) (hp:BoxO w pb (ptrO xb)) (h0:w.cell? ⟨g,0,none⟩=some (.int .i64 a)) (hc:Calls Tryz.prog 49 #[ptrO xb,.int .i64 a] w.drew (RetO R)) (hk:∀ v W,R v W→W.cell? ⟨bb,0,none⟩=some (ptrO pb)∧W.cell? ⟨pb,0,none⟩=some (ptrO xb)∧W.cell? ⟨g,0,none⟩=some (.int .i64 a)) :
  Calls Tryz.prog 48 #[.slice (some ⟨g,0,none⟩) 1 cap,ptrO bb] w (RetO R):=by
 have HC:=hid hc
 have HK:=hid hk
 clear hc hk
 go_enter Tryz.func48,Tryz.ntmps48
 go_wp2_with fail
 go_region_held3 (fun W=>W.cell? ⟨bb,0,none⟩=some (ptrO pb)∧W.cell? ⟨pb,0,none⟩=some (ptrO xb)∧W.cell? ⟨g,0,none⟩=some (.int .i64 a)) (first|exact hk2|go_keep) (first|(go_at_call 49; (with_reducible refine HC.out.mono ?_); rintro e w2 ⟨v,rfl,hR⟩; have HR:=hid hR; have hk2:=HK.out _ _ hR; clear hR))
 go_wp2_with fail
 go_ret
 exact ⟨_,rfl,HR.out⟩
theorem c10_any (hb:BoxO w bb (ptrO pb)) (hp:BoxO w pb (ptrO xb)) (h0:w.cell? ⟨g,0,none⟩=some (.int .i64 a)) (hc:Calls Tryz.prog 56 #[ptrO xb,.int .i64 a] w.drew (RetO R)) (hk:∀ v W,R v W→W.cell? ⟨bb,0,none⟩=some (ptrO pb)∧W.cell? ⟨pb,0,none⟩=some (ptrO xb)∧W.cell? ⟨g,0,none⟩=some (.int .i64 a)) :
  Calls Tryz.prog 55 #[.slice (some ⟨g,0,none⟩) 1 cap,ptrO bb] w (RetO R):=by
 have HC:=hid hc
 have HK:=hid hk
 clear hc hk
 go_enter Tryz.func55,Tryz.ntmps55
 go_wp2_with fail
 go_region_held3 (fun W=>W.cell? ⟨bb,0,none⟩=some (ptrO pb)∧W.cell? ⟨pb,0,none⟩=some (ptrO xb)∧W.cell? ⟨g,0,none⟩=some (.int .i64 a)) (first|exact hk2|go_keep) (first|(go_at_call 56; (with_reducible refine HC.out.mono ?_); rintro e w2 ⟨v,rfl,hR⟩; have HR:=hid hR; have hk2:=HK.out _ _ hR; clear hR))
 go_wp2_with fail
 go_ret
 exact ⟨_,rfl,HR.out⟩
theorem c11_any (hb:BoxO w bb (ptrO pb)) (hp:BoxO w pb (ptrO xb)) (h0:w.cell? ⟨g,0,none⟩=some (.int .i64 a)) (hc:Calls Tryz.prog 58 #[ptrO xb,.int .i64 a] w.drew (RetO R)) (hk:∀ v W,R v W→W.cell? ⟨bb,0,none⟩=some (ptrO pb)∧W.cell? ⟨pb,0,none⟩=some (ptrO xb)∧W.cell? ⟨g,0,none⟩=some (.int .i64 a)) :
  Calls Tryz.prog 57 #[.slice (some ⟨g,0,none⟩) 1 cap,ptrO bb] w (RetO R):=by
 have HC:=hid hc
 have HK:=hid hk
 clear hc hk
 go_enter Tryz.func57,Tryz.ntmps57
 go_wp2_with fail
 go_region_held3 (fun W=>W.cell? ⟨bb,0,none⟩=some (ptrO pb)∧W.cell? ⟨pb,0,none⟩=some (ptrO xb)∧W.cell? ⟨g,0,none⟩=some (.int .i64 a)) (first|exact hk2|go_keep) (first|(go_at_call 58; (with_reducible refine HC.out.mono ?_); rintro e w2 ⟨v,rfl,hR⟩; have HR:=hid hR; have hk2:=HK.out _ _ hR; clear hR))
 go_wp2_with fail
 go_ret
 exact ⟨_,rfl,HR.out⟩
end
section
variable {w:World} {pb bb x y z f xb:Nat} {nv:Value} {R:Value→World→Prop}
theorem does1_any (hf:∀ args w,(callFunc f args).run Tryz.prog w=.ok (.enter f args) w) (hz:BoxO w z (cloO f bb)) (hc:Calls Tryz.prog f #[nv,ptrO bb] w (RetO R)) :
  Calls Tryz.prog 99 #[nv,ptrO z] w (RetO fun v w'=>∃ e,v=.tuple #[.string ⟨#[111,107]⟩,e]∧R e w'):=by
 have HC:=hid hc
 clear hc
 go_enter Tryz.func99,Tryz.ntmps99
 go_wp2_with fail
 refine HC.out.mono ?_
 rintro e w2 ⟨v,rfl,hR⟩
 have HR:=hid hR
 clear hR
 go_wp2_with fail
 go_ret2
 exact ⟨_,rfl,_,rfl,HR.out⟩
theorem tells1_none {A:Nat→Addr} (hE:w.cell? ⟨3,0,none⟩=some (.iface 318 (.pointer (some (A 3))))) (hx:BoxO w x (ptrO pb)) (hp:BoxO w pb (.pointer none)) :
  Calls Tryz.prog 128 #[nv,ptrO x,ptrO y] w fun e w'=>e=.returned (.tuple #[.string ⟨#[]⟩,.iface 318 (.pointer (some (A 3)))])∧Below w.heap.size w w':=by
 go_enter Tryz.func128,Tryz.ntmps128
 go_wp2_with fail
 go_quiet (fail)
 go_wp2_with fail
 go_ret2
 exact ⟨rfl,below_drewN (Below.refl _ _) _⟩
theorem tells1_some (hf:∀ args w,(callFunc f args).run Tryz.prog w=.ok (.enter f args) w) (hx:BoxO w x (ptrO pb)) (hp:BoxO w pb (ptrO xb)) (hy:BoxO w y (cloO f bb)) (hc:Calls Tryz.prog f #[nv,ptrO bb] w (RetO fun v w'=>∃ s e,v=.tuple #[.string s,e]∧R v w')) :
  Calls Tryz.prog 128 #[nv,ptrO x,ptrO y] w (RetO fun v w'=>∃ s e,v=.tuple #[.string s,e]∧R v w'):=by
 have HC:=hid hc
 clear hc
 go_enter Tryz.func128,Tryz.ntmps128
 go_wp2_with fail
 refine HC.out.mono ?_
 rintro e w2 ⟨v,rfl,s,e,rfl,hR⟩
 have HR:=hid hR
 clear hR
 go_wp2_with fail
 go_ret2
 exact ⟨_,rfl,_,_,rfl,HR.out⟩
end
section
variable {w:World} {lb id n cap:Nat} {deal att:Int} {aw:Option Addr} {st:ByteArray} {wait:Int} {vh:Value} {hs:List F9} {ph seen:Int}
structure HL (w W:World) (lb id n cap:Nat) (deal att:Int) (aw:Option Addr) (st:ByteArray) (wait:Int) (vh:Value) (hs:List F9) (ph seen:Int) (f:Nat) (k:Int) (y:Bool) (p1 p2 p3:Int):Prop where
 ld:RLd W lb id n cap deal att aw st wait vh hs ph seen
 fr:FIn w W f id deal k att y p1 p2 p3
 kp:Kept (In1 lb) w W
theorem HL.later {W V:World} {f:Nat} {k:Int} {y:Bool} {p1 p2 p3:Int} (h:HL w W lb id n cap deal att aw st wait vh hs ph seen f k y p1 p2 p3) (hb:Below W.heap.size W V):HL w V lb id n cap deal att aw st wait vh hs ph seen f k y p1 p2 p3 :=
 ⟨h.ld.later hb,h.fr.later hb,h.kp.trans (Kept.of_below hb)⟩
theorem HL.setSeen {W:World} {f:Nat} {k:Int} {y:Bool} {p1 p2 p3:Int} (h:HL w W lb id n cap deal att aw st wait vh hs ph seen f k y p1 p2 p3) (hlb:lb<w.heap.size) (x:Int):HL w (W.setCell ⟨lb,8,none⟩ (.int .i64 x)) lb id n cap deal att aw st wait vh hs ph x f k y p1 p2 p3 :=
 ⟨h.ld.setSeen x,⟨(heap_setCell_other _ _ _ _ (by show w.heap.size≠lb; omega)).trans h.fr.row⟩,h.kp.set1 8 _⟩
theorem rlhear_no (f:Nat) (k:Int) (p1 p2 p3 sn:Int) (h:RLd w lb id n cap deal att aw st k vh hs ph seen) (hl:hs.length≤100) (hk:k=2 ∨ k=4 ∨ k=6) (hf:f<n) (hx:fromL hs f=none) (hn7:n≤7) (hsn:(if k≠2∧seen<p2 then p2 else seen)=sn) :
  Calls Tryz.prog 88 #[.pointer (some ⟨lb,0,none⟩),frV f id deal k att false p1 p2 p3] w fun e w'=>∃ v,e=.returned v∧IsFr w' v (if k=2 then sentL id deal 7 att 3 true n else [])∧RLd w' lb id n cap deal att aw (if k=2 then stB 2 else stB 3) 0 vh hs ph sn∧Kept (In1 lb) w w':=by
 obtain ⟨W,HW⟩:∃ W,Hid (w.alloc (.cells #[.int .i64 (f:Int),.int .i64 (id:Int),.int .i64 deal,.int .i64 k,.int .i64 att,.bool false,.int .i64 p1,.int .i64 p2,.int .i64 p3] 125)=W):=⟨_,rfl⟩
 have HB:Hid (Below w.heap.size w W):=by rw [← HW.out]; exact (Below.refl _ _).alloc (Nat.le_refl _) _
 have hlbw:lb<w.heap.size:=row_ltJ h.row
 have HI:Hid (HL w W lb id n cap deal att aw st k vh hs ph seen f k false p1 p2 p3):=⟨h.later HB.out,by rw [← HW.out]; exact ⟨heap_alloc_new w _⟩,Kept.of_below HB.out⟩
 obtain ⟨b0,b1,b2,b3,b4,b5,b6,b7,b8⟩:=nine HI.out.fr.row
 obtain ⟨c0,c1,c2,c3,c4,c5,c6,c7,c8⟩:=HI.out.ld.cells
 have hW:=HW.out
 have e0:(k == 0)=false:=beq_eq_false_iff_ne.2 (by omega)
 have f7:¬ (n:Int)≤(f:Int):=by omega
 have HX:=hid hx
 clear h hx
 go_enter Tryz.func88,Tryz.ntmps88
 go_wp2_with fail
 go_quiet (fail)
 have HB2:=hid (below_drewN (Below.refl W.heap.size W) nq)
 generalize W.drewN nq=V at HB2 ⊢
 have HI2:=hid (HI.out.later HB2.out)
 clear b0 b1 b2 b3 b4 b5 b6 b7 b8 c0 c1 c2 c3 c4 c5 c6 c7 c8 HI HB2 hW HW HB e0 f7
 obtain ⟨b0,b1,b2,b3,b4,b5,b6,b7,b8⟩:=nine HI2.out.fr.row
 go_wp2_with fail
 refine (rlfrom_any lb id n cap deal att aw st k vh hs ph seen f _ HI2.out.ld (by omega)).mono ?_
 rw [HX.out,frO_none]
 simp only [Option.isSome]
 rintro e w1 ⟨rfl,hb1⟩
 have HI3:=hid ((HI2.out.later hb1).later ((Below.refl _ _).alloc (Nat.le_refl _) (.cells #[.int .i64 0,.int .i64 0,.int .i64 0,.int .i64 0,.int .i64 0,.bool false,.int .i64 0,.int .i64 0,.int .i64 0] 125)))
 clear hb1
 obtain ⟨X,HXw⟩:∃ X,Hid (w1.alloc (.cells #[.int .i64 0,.int .i64 0,.int .i64 0,.int .i64 0,.int .i64 0,.bool false,.int .i64 0,.int .i64 0,.int .i64 0] 125)=X):=⟨_,rfl⟩
 rw [HXw.out] at HI3
 clear b0 b1 b2 b3 b4 b5 b6 b7 b8 HI2
 obtain ⟨b0,b1,b2,b3,b4,b5,b6,b7,b8⟩:=nine HI3.out.fr.row
 obtain ⟨c0,c1,c2,c3,c4,c5,c6,c7,c8⟩:=HI3.out.ld.cells
 have z8:=HI3.out.ld.fz 8
 have HSn:=hid hsn
 clear hsn
 obtain ⟨bb,HBB⟩:∃ b:Bool,Hid (decide (k≠2∧seen<p2)=b):=⟨_,hid (Eq.refl _)⟩
 go_upto_region 13 with fail
 rw [HXw.out]
 go_cut [92] from 16 (fun s92 wx=>s92=.bool bb∧Below X.heap.size X wx)
 case first =>
  by_cases g1:k=2
  ·have hb:bb=false:=by rw [← HBB.out]; exact decide_eq_false (fun x=>x.1 g1)
   subst hb
   subst g1
   go_quiet (fail)
   go_wp2_with fail
   go_meet
   exact ⟨rfl,below_drewN (Below.refl _ _) _⟩
  ·have e1:(k != 2)=true:=bne_iff_ne.2 g1
   by_cases g2:seen<p2
   ·have hb:bb=true:=by rw [← HBB.out]; exact decide_eq_true ⟨g1,g2⟩
    subst hb
    go_quiet (fail)
    go_wp2_with fail
    go_meet
    exact ⟨rfl,below_drewN (Below.refl _ _) _⟩
   ·have hb:bb=false:=by rw [← HBB.out]; exact decide_eq_false (fun x=>g2 x.2)
    subst hb
    go_quiet (fail)
    go_wp2_with fail
    go_meet
    exact ⟨rfl,below_drewN (Below.refl _ _) _⟩
 obtain ⟨rfl,hbx⟩:=hcut
 rename_i wc
 have HI4:=hid (HI3.out.later hbx)
 clear hbx b0 b1 b2 b3 b4 b5 b6 b7 b8 c0 c1 c2 c3 c4 c5 c6 c7 c8 z8 HI3 HXw
 generalize wc=X2 at *
 obtain ⟨b0,b1,b2,b3,b4,b5,b6,b7,b8⟩:=nine HI4.out.fr.row
 obtain ⟨c0,c1,c2,c3,c4,c5,c6,c7,c8⟩:=HI4.out.ld.cells
 have z8:=HI4.out.ld.fz 8
 go_upto_if 92 with fail
 go_cut [] from 16 (fun wx=>HL w wx lb id n cap deal att aw st k vh hs ph sn f k false p1 p2 p3)
 case first =>
  cases bb with
  | true =>
   have hq:=of_decide_eq_true HBB.out
   have HSe:Hid (sn=p2):=by unfold Hid; rw [← HSn.out]; exact if_pos hq
   go_wp2_with fail
   go_meet
   rw [HSe.out]
   exact HI4.out.setSeen hlbw p2
  | false =>
   have hq:=of_decide_eq_false HBB.out
   have HSe:Hid (sn=seen):=by unfold Hid; rw [← HSn.out]; exact if_neg hq
   go_wp2_with fail
   go_meet
   rw [HSe.out]
   exact HI4.out
 rename_i wc
 have HI5:=hid hcut
 clear hcut HI4 b0 b1 b2 b3 b4 b5 b6 b7 b8 c0 c1 c2 c3 c4 c5 c6 c7 c8 z8
 generalize wc=X3 at *
 obtain ⟨b0,b1,b2,b3,b4,b5,b6,b7,b8⟩:=nine HI5.out.fr.row
 obtain ⟨c0,c1,c2,c3,c4,c5,c6,c7,c8⟩:=HI5.out.ld.cells
 by_cases g1:k=2
 ·subst g1
  go_wp2_with fail
  refine (rldecide_any 3 HI5.out.ld (by omega)).mono ?_
  rintro e v1 ⟨v,rfl,hv,hr,hk1⟩
  have HV:=hid hv
  have HR:=hid hr
  have HK:=hid (HI5.out.kp.trans hk1)
  clear hv hr hk1
  go_wp2_with fail
  go_ret
  exact ⟨_,rfl,HV.out,HR.out,HK.out⟩
 ·have e1:(k == 2)=false:=beq_eq_false_iff_ne.2 g1
  have z4:=HI5.out.ld.fz 4
  have z5:=HI5.out.ld.fz 5
  have HF:=hid ((HI5.out.ld.setSt (stB 3)).setWait 0)
  have HK:Hid (Kept (In1 lb) w ((X3.setCell ⟨lb,4,none⟩ (.string (stB 3))).setCell ⟨lb,5,none⟩ (.int .i64 0))):=(HI5.out.kp.set1 4 _).set1 5 _
  rw [stB3] at HF HK
  go_wp2_with fail
  go_ret
  exact ⟨_,rfl,by first|exact IsFr.zero _|(rw [if_neg g1]; exact IsFr.zero _),by first|exact HF.out|(rw [if_neg g1,stB3]; exact HF.out),HK.out⟩
end
theorem gr_same' {p:Int} {L M:List S3} (h:∀ s:S3,s.p=p→(s∈L ↔ s∈M)):gr p L=gr p M:=by
 rcases gr_of p L with ⟨h1,⟨t,ht,hp,ha⟩,h3⟩|⟨h1,h2⟩
 ·rcases gr_of p M with ⟨g1,⟨u,hu,up,ua⟩,g3⟩|⟨g1,g2⟩
  ·have a1:=g3 t ((h t hp).1 ht) hp
   have a2:=h3 u ((h u up).2 hu) up
   refine Prod.ext ?_ (h1.trans g1.symm)
   omega
  ·exact absurd hp (g2 t ((h t hp).1 ht))
 ·rcases gr_of p M with ⟨g1,⟨u,hu,up,ua⟩,g3⟩|⟨g1,g2⟩
  ·exact absurd up (h2 u ((h u up).2 hu))
  ·rw [h1,g1]
theorem choose_same' {L M:List S3} (h:∀ s:S3,s.p≠0→(s∈L ↔ s∈M)):chooseL L=chooseL M:=by
 unfold chooseL
 rw [gr_same' (p:=2) (fun s e=>h s (by omega)),gr_same' (p:=3) (fun s e=>h s (by omega)),gr_same' (p:=4) (fun s e=>h s (by omega)),gr_same' (p:=5) (fun s e=>h s (by omega))]
theorem fromL_snoc (hs:List F9) (f:F9) (i:Int):fromL (hs ++ [f]) i=(fromL hs i).or (if f.f=i then some f else none):=by
 unfold fromL
 rw [List.find?_append]
 congr 1
 by_cases h:f.f=i
 ·rw [if_pos h]; simp [h]
 ·rw [if_neg h]; simp [h]
theorem fromL_other {hs:List F9} {f:F9} {i:Int} (h:f.f≠i):fromL (hs ++ [f]) i=fromL hs i:=by
 rw [fromL_snoc,if_neg h,Option.or_none]
theorem fromL_new {hs:List F9} {f:F9} (h:fromL hs f.f=none):fromL (hs ++ [f]) f.f=some f:=by
 rw [fromL_snoc,h,if_pos rfl]; rfl
theorem setTo_snoc {hs:List F9} {f:F9} {m:Nat} (hm:f.f=(m:Int)) (hn:fromL hs m=none):∀ k,setTo (hs ++ [f]) k=setTo hs k+(if m<k then 2 ^ m else 0)
 | 0=>by simp [setTo]
 | k+1=>by
  unfold setTo
  rw [setTo_snoc hm hn k]
  by_cases e:m=k
  ·subst e
   have h1:(fromL (hs ++ [f]) (m:Int)).isSome=true:=by rw [← hm,fromL_new (by rw [hm]; exact hn)]; rfl
   have h2:¬ (fromL hs (m:Int)).isSome=true:=by rw [hn]; simp
   rw [if_pos h1,if_neg h2,if_neg (by omega),if_pos (by omega)]
   omega
  ·rw [fromL_other (by omega)]
   by_cases g:m<k
   ·rw [if_pos g,if_pos (show m<k+1 by omega)]; split <;> omega
   ·rw [if_neg g,if_neg (show ¬ m<k+1 by omega)]; split <;> omega
theorem bit_addpow {a:Int} {k:Nat} (h0:0≤a) (h1:a<2 ^ k) (i:Nat):bit (a+2 ^ k) i=(decide (i=k) || bit a i):=by
 obtain ⟨n,rfl⟩:=Int.eq_ofNat_of_zero_le h0
 have hn:n<2 ^ k:=by
  have:((n:Nat):Int)<((2 ^ k:Nat):Int):=by rw [← pow_nat]; exact h1
  omega
 unfold bit
 have e:(((n:Nat):Int)+2 ^ k).toNat=2 ^ k+n:=by rw [pow_nat]; omega
 rw [e,Int.toNat_natCast]
 rcases Nat.lt_trichotomy i k with g|g|g
 ·rw [Nat.testBit_two_pow_add_gt g,decide_eq_false (by omega)]; rfl
 ·subst g
  rw [Nat.testBit_two_pow_add_eq,Nat.testBit_lt_two_pow hn,decide_eq_true rfl]; rfl
 ·have h2:2 ^ (k+1)≤2 ^ i:=Nat.pow_le_pow_right (by decide) g
  have h3:2 ^ (k+1)=2 * 2 ^ k:=by rw [Nat.pow_succ]; omega
  rw [Nat.testBit_lt_two_pow (by omega),Nat.testBit_lt_two_pow (by omega),decide_eq_false (by omega)]; rfl
theorem setTo_bit (hs:List F9):∀ (k i:Nat),bit (setTo hs k) i=(decide (i<k) && (fromL hs i).isSome)
 | 0,i=>by simp [setTo,bit]
 | k+1,i=>by
  obtain ⟨h0,h1⟩:=setTo_bd hs k
  unfold setTo
  by_cases g:(fromL hs (k:Int)).isSome=true
  ·rw [if_pos g,bit_addpow h0 h1,setTo_bit hs k i]
   by_cases e:i=k
   ·subst e; rw [g]; simp
   ·rw [decide_eq_false e,Bool.false_or]
    by_cases l:i<k
    ·rw [decide_eq_true l,decide_eq_true (show i<k+1 by omega)]
    ·rw [decide_eq_false l,decide_eq_false (show ¬ i<k+1 by omega)]
  ·rw [if_neg g,setTo_bit hs k i]
   by_cases e:i=k
   ·subst e
    have:(fromL hs (i:Int)).isSome=false:=by simpa using g
    rw [this]; simp
   ·by_cases l:i<k
    ·rw [decide_eq_true l,decide_eq_true (show i<k+1 by omega)]
    ·rw [decide_eq_false l,decide_eq_false (show ¬ i<k+1 by omega)]
def cntTo (hs:List F9):Nat→Nat
 | 0=>0
 | k+1=>if (fromL hs k).isSome=true then cntTo hs k+1 else cntTo hs k
theorem cntTo_le (hs:List F9):∀ k,cntTo hs k≤k
 | 0=>Nat.le_refl _
 | k+1=>by have:=cntTo_le hs k; unfold cntTo; split <;> omega
theorem cntTo_snoc {hs:List F9} {f:F9} {m:Nat} (hm:f.f=(m:Int)) (hn:fromL hs m=none):∀ k,cntTo (hs ++ [f]) k=cntTo hs k+(if m<k then 1 else 0)
 | 0=>by simp [cntTo]
 | k+1=>by
  unfold cntTo
  rw [cntTo_snoc hm hn k]
  by_cases e:m=k
  ·subst e
   have h1:(fromL (hs ++ [f]) (m:Int)).isSome=true:=by rw [← hm,fromL_new (by rw [hm]; exact hn)]; rfl
   have h2:¬ (fromL hs (m:Int)).isSome=true:=by rw [hn]; simp
   rw [if_pos h1,if_neg h2,if_neg (by omega),if_pos (by omega)]
  ·rw [fromL_other (by omega)]
   by_cases g:m<k
   ·rw [if_pos g,if_pos (show m<k+1 by omega)]; split <;> omega
   ·rw [if_neg g,if_neg (show ¬ m<k+1 by omega)]; split <;> omega
theorem all_iff (hs:List F9):∀ k,(cntTo hs k=k ↔ setTo hs k=2 ^ k - 1)
 | 0=>by simp [cntTo,setTo]
 | k+1=>by
  have ih:=all_iff hs k
  have h1:=cntTo_le hs k
  obtain ⟨h2,h3⟩:=setTo_bd hs k
  have e:(2:Int) ^ (k+1)=2 * 2 ^ k:=by rw [Int.pow_succ]; omega
  unfold cntTo setTo
  rw [e]
  by_cases g:(fromL hs (k:Int)).isSome=true
  ·rw [if_pos g,if_pos g]; omega
  ·rw [if_neg g,if_neg g]; omega
theorem cntTo_nil:∀ k,cntTo [] k=0
 | 0=>rfl
 | k+1=>by unfold cntTo; rw [if_neg (by simp [fromL]),cntTo_nil k]
theorem setTo_nil:∀ k,setTo [] k=0
 | 0=>rfl
 | k+1=>by unfold setTo; rw [if_neg (by simp [fromL]),setTo_nil k]
def tl (hs:List F9) (i:Nat):S3:=match fromL hs i with
 | none=>⟨0,0,0⟩
 | some x=>⟨x.ph,x.pr,x.pa⟩
theorem mem_toldTo (hs:List F9) (s:S3):∀ k,(s∈toldTo hs k ↔ ∃ i,i<k∧∃ x,fromL hs (i:Nat)=some x∧s=⟨x.ph,x.pr,x.pa⟩)
 | 0=>by
  unfold toldTo
  constructor
  ·intro h; cases h
  ·rintro ⟨i,hi,-⟩; omega
 | k+1=>by
  have ih:=mem_toldTo hs s k
  unfold toldTo
  cases hf:fromL hs (k:Int) with
  | none =>
   simp only
   rw [ih]
   constructor
   ·rintro ⟨i,hi,x,hx,e⟩; exact ⟨i,by omega,x,hx,e⟩
   ·rintro ⟨i,hi,x,hx,e⟩
    refine ⟨i,?_,x,hx,e⟩
    rcases Nat.lt_or_ge i k with g|g
    ·exact g
    ·obtain rfl:i=k:=by omega
     rw [hf] at hx; cases hx
  | some y =>
   simp only [List.mem_append,List.mem_singleton]
   rw [ih]
   constructor
   ·rintro (⟨i,hi,x,hx,e⟩|e)
    ·exact ⟨i,by omega,x,hx,e⟩
    ·exact ⟨k,by omega,y,hf,e⟩
   ·rintro ⟨i,hi,x,hx,e⟩
    rcases Nat.lt_or_ge i k with g|g
    ·exact .inl ⟨i,g,x,hx,e⟩
    ·obtain rfl:i=k:=by omega
     rw [hf] at hx
     obtain rfl:=Option.some.inj hx
     exact .inr e
theorem fromL_mem {hs:List F9} {i:Int} {x:F9} (h:fromL hs i=some x):x∈hs∧x.f=i:=by
 unfold fromL at h
 exact ⟨List.mem_of_find?_eq_some h,by simpa using List.find?_some h⟩
theorem choose_told {hs:List F9} {n:Nat} (hn:n≤7) (hs0:∀ x,x∈hs→0≤x.f∧x.f<n):chooseL ((List.range 7).map (tl hs))=refL (toldTo hs n):=by
 rw [← choose_ref]
 refine choose_same' fun s hp=>?_
 rw [mem_toldTo,List.mem_map]
 constructor
 ·rintro ⟨i,hi,rfl⟩
  unfold tl at hp ⊢
  cases hf:fromL hs (i:Int) with
  | none=>rw [hf] at hp; exact absurd rfl hp
  | some x =>
   obtain ⟨h1,h2⟩:=fromL_mem hf
   have:=(hs0 x h1).2
   exact ⟨i,by omega,x,hf,rfl⟩
 ·rintro ⟨i,hi,x,hx,rfl⟩
  refine ⟨i,List.mem_range.2 (by omega),?_⟩
  unfold tl
  rw [hx]
theorem told_new {hs:List F9} {f:F9} {m:Nat} (hm:f.f=(m:Int)) (hn:fromL hs m=none) (h7:m<7):toldS ((List.range 7).map (tl hs)) m ⟨f.ph,f.pr,f.pa⟩=(List.range 7).map (tl (hs ++ [f])):=by
 refine List.ext_getElem? fun i=>?_
 show (((List.range 7).map (tl hs)).set m ⟨f.ph,f.pr,f.pa⟩)[i]? = _
 rw [List.getElem?_set]
 by_cases e:m=i
 ·subst e
  rw [if_pos rfl,if_pos (by simpa using h7),List.getElem?_map,List.getElem?_range h7]
  simp only [Option.map_some]
  unfold tl
  rw [← hm,fromL_new (by rw [hm]; exact hn)]
 ·rw [if_neg e,List.getElem?_map,List.getElem?_map]
  rcases Nat.lt_or_ge i 7 with g|g
  ·rw [List.getElem?_range g]
   simp only [Option.map_some]
   unfold tl
   rw [fromL_other (by omega)]
  ·rw [List.getElem?_eq_none (by simpa using g)]
   rfl
theorem sent_to (id:Nat) (deal kind att ph:Int):∀ k,sentL id deal kind att ph true k=toL id deal kind att ph k
 | 0=>rfl
 | k+1=>by
  unfold sentL toL
  rw [if_neg (by simp),sent_to id deal kind att ph k]
structure Rel (n:Nat) (att:Int) (P:PL) (L:LSt):Prop where
 pw:PW n P
 stt:P.stt=L.stt
 st4:P.stt<4
 wait:L.wait=if P.stt=0 then (if att=0 then 2 else 4) else if P.stt=1 then 6 else 0
 snd:∀ x,x∈L.hs→0≤x.f∧x.f<n
 cnt:P.stt≤1→L.hs.length=cntTo L.hs n
 ans:P.stt≤1→P.ans=setTo L.hs n
 told:P.stt=0→P.told=(List.range 7).map (tl (if att=0 then [] else L.hs))
 prep:P.stt=1→P.prep=L.ph
 seen:P.seen=L.seen
 has:P.has=false→P.seen=0
 pos:0≤P.seen
theorem Rel.waits {n:Nat} {att:Int} {P:PL} {L:LSt} (h:Rel n att P L) (h0:0≤att) (k:Int):waitsB P att k=true ↔ (L.wait≠0∧k=L.wait):=by
 rw [h.wait]
 constructor
 ·intro hw
  rcases waits_ways hw with ⟨rfl,hs,ha⟩|⟨rfl,hs,ha⟩|⟨rfl,hs⟩
  ·rw [if_pos hs,if_pos ha]; omega
  ·rw [if_pos hs,if_neg (by omega)]; omega
  ·rw [if_neg (by omega),if_pos hs]; omega
 ·rintro ⟨h1,h2⟩
  unfold waitsB
  by_cases g0:P.stt=0
  ·rw [if_pos g0] at h2
   by_cases ga:att=0
   ·rw [if_pos ga] at h2; subst h2; simp [g0,ga]
   ·rw [if_neg ga] at h2; subst h2; simp [g0]; omega
  ·rw [if_neg g0] at h1 h2
   by_cases g1:P.stt=1
   ·rw [if_pos g1] at h2; subst h2; simp [g1]
   ·rw [if_neg g1] at h1; exact absurd rfl h1
theorem Rel.takes {n id:Nat} {deal att:Int} {P:PL} {L:LSt} {f:F9} (h:Rel n att P L) (h0:0≤att):takesB n id deal att P f=true ↔ (forL n id deal att L f∧(fromL L.hs f.f).isSome=false):=by
 constructor
 ·intro ht
  obtain ⟨⟨h1,h2,h3⟩,hw,⟨h4,h5⟩,hb⟩:=takesB_in ht
  obtain ⟨g1,g2⟩:=(h.waits h0 f.k).1 hw
  refine ⟨⟨g1,g2,h2,h3,h1,h4,h5⟩,?_⟩
  have hst:P.stt≤1:=by
   rw [h.wait] at g1
   rcases Nat.lt_or_ge 1 P.stt with g|g
   ·rw [if_neg (by omega),if_neg (by omega)] at g1; exact absurd rfl g1
   ·exact g
  rw [h.ans hst,setTo_bit,decide_eq_true (show f.f.toNat<n by omega),Bool.true_and,show ((f.f.toNat:Nat):Int)=f.f by omega] at hb
  exact hb
 ·rintro ⟨⟨g1,g2,h2,h3,h1,h4,h5⟩,hb⟩
  have hst:P.stt≤1:=by
   rw [h.wait] at g1
   rcases Nat.lt_or_ge 1 P.stt with g|g
   ·rw [if_neg (by omega),if_neg (by omega)] at g1; exact absurd rfl g1
   ·exact g
  rw [tk_in ⟨h1,h2,h3⟩ ((h.waits h0 f.k).2 ⟨g1,g2⟩) ⟨h4,h5⟩,h.ans hst,setTo_bit,decide_eq_true (show f.f.toNat<n by omega),Bool.true_and,show ((f.f.toNat:Nat):Int)=f.f by omega,hb]
  rfl
theorem see_seen {P:PL} {p:Int} (h:P.has=false→P.seen=0) (h0:0≤P.seen) (hp:0≤p) :
  (seeP P p).seen=(if P.seen<p then p else P.seen)∧((seeP P p).has=false→(seeP P p).seen=0)∧0≤(seeP P p).seen:=by
 unfold seeP
 by_cases g:P.has=false ∨ P.seen<p
 ·rw [if_pos g]
  refine ⟨?_,fun e=>(by cases e),hp⟩
  show p=_
  by_cases l:P.seen<p
  ·rw [if_pos l]
  ·rw [if_neg l]
   rcases g with g|g
   ·have:=h g; omega
   ·exact absurd g l
 ·rw [if_neg g,if_neg (fun l=>g (.inr l))]
  exact ⟨rfl,h,h0⟩
section
variable {zs:List Int} {id:Nat} {deal att:Int} {P:PL} {L:LSt} {f:F9}
theorem Rel.step (h:Rel zs.length att P L) (h0:0≤att) (hn:zs.length≤7) (hp:f.k≠2→0≤f.pr) :
  (phear zs id deal att P f).2=(lhear zs id deal att L f).2∧Rel zs.length att (phear zs id deal att P f).1 (lhear zs id deal att L f).1:=by
 by_cases ht:takesB zs.length id deal att P f=true
 ·have hq:=(h.takes h0).1 ht
  obtain ⟨⟨w1,w2,-,-,-,r1,r2⟩,hnone⟩:=hq
  have hq:=(h.takes h0).1 ht
  obtain ⟨-,hw,-,hb⟩:=takesB_in ht
  obtain ⟨m,hm⟩:=Int.eq_ofNat_of_zero_le r1
  have hmn:m<zs.length:=by omega
  have htn:f.f.toNat=m:=by omega
  have hfn:fromL L.hs (m:Int)=none:=by rw [← hm]; exact Option.isSome_eq_false_iff.1 hnone |> Option.isNone_iff_eq_none.1
  have hp7:=(pow_le7 hn).1
  have hlo:=h.pw.lo
  have hhi:=h.pw.hi
  have hst:P.stt≤1:=by
   rcases waits_ways hw with ⟨-,hs,-⟩|⟨-,hs,-⟩|⟨-,hs⟩ <;> omega
  have hans:(noteP P f).ans=setTo (L.hs ++ [f]) zs.length:=by
   show ansS P.ans f.f.toNat=_
   rw [htn] at hb ⊢
   rw [ansS_add hlo (by omega) (by omega) hb,setTo_snoc hm hfn,if_pos hmn,h.ans hst]
  have hcnt:(L.hs ++ [f]).length=cntTo (L.hs ++ [f]) zs.length:=by
   rw [cntTo_snoc hm hfn,if_pos hmn,List.length_append,h.cnt hst]; rfl
  have hsnd:∀ x,x∈L.hs ++ [f]→0≤x.f∧x.f<zs.length:=by
   intro x hx
   rcases List.mem_append.1 hx with g|g
   ·exact h.snd x g
   ·rw [List.mem_singleton.1 g]; exact ⟨r1,r2⟩
  have hpn:=h.pw.note (f:=f) hn r1 r2
  have hph:phear zs id deal att P f=takenP zs P f:=by unfold phear; rw [if_pos ht]
  rw [hph]
  rcases waits_ways hw with ⟨hk,hs,ha⟩|⟨hk,hs,ha⟩|⟨hk,hs⟩
  ·have hsl:seenL L f=L.seen:=by unfold seenL; rw [if_neg (fun x=>x.1 hk)]
   have htold:=h.told hs
   rw [if_pos ha] at htold
   cases hy:f.y with
   | false =>
    rw [lhear_no2 hq hy hk]
    have e:takenP zs P f=decP (noteP P f) 3:=by unfold takenP; rw [if_pos hk]; unfold voteP; rw [if_pos hy]
    rw [e,hsl]
    exact ⟨rfl,hpn.dec 3,rfl,by show 2<4; decide,rfl,h.snd,fun g=>absurd g (by show ¬ 2≤1; decide),fun g=>absurd g (by show ¬ 2≤1; decide),fun g=>absurd g (by show ¬ 2=0; decide),fun g=>absurd g (by show ¬ 2=1; decide),h.seen,h.has,h.pos⟩
   | true =>
    have hy':¬ f.y=false:=by rw [hy]; decide
    by_cases hall:(L.hs ++ [f]).length=zs.length
    ·rw [lhear_all hq hy' hk hall]
     have e2:(noteP P f).ans=2 ^ zs.length - 1:=by rw [hans]; exact (all_iff _ _).1 (hcnt.symm.trans hall)
     have e:takenP zs P f=preP (noteP P f) 4:=by unfold takenP; rw [if_pos hk]; unfold voteP; rw [if_neg hy',if_pos e2]
     rw [e,hsl]
     refine ⟨rfl,hpn.pre 4,rfl,by show 1<4; decide,rfl,fun x hx=>(by cases hx),fun _=>?_,fun _=>?_,fun g=>absurd g (by show ¬ 1=0; decide),fun _=>rfl,h.seen,h.has,h.pos⟩
     ·show 0=cntTo [] zs.length
      exact (cntTo_nil _).symm
     ·show (0:Int)=setTo [] zs.length
      exact (setTo_nil _).symm
    ·rw [lhear_some hq hy' hk hall]
     have e2:¬ (noteP P f).ans=2 ^ zs.length - 1:=by rw [hans]; exact fun g=>hall (hcnt.trans ((all_iff _ _).2 g))
     have e:takenP zs P f=(noteP P f,none):=by unfold takenP; rw [if_pos hk]; unfold voteP; rw [if_neg hy',if_neg e2]
     rw [e,hsl]
     exact ⟨rfl,hpn,h.stt,h.st4,h.wait,hsnd,fun _=>hcnt,fun _=>hans,fun _=>by rw [if_pos ha]; exact htold,fun g=>absurd (hs.symm.trans g) (by decide),h.seen,h.has,h.pos⟩
  ·have k2:¬ f.k=2:=by omega
   have hpr:=hp k2
   have hsl:seenL L f=(if P.seen<f.pr then f.pr else P.seen):=by
    unfold seenL
    rw [h.seen]
    by_cases g:L.seen<f.pr
    ·rw [if_pos ⟨k2,g⟩,if_pos g]
    ·rw [if_neg (fun x=>g x.2),if_neg g]
   obtain ⟨s1,s2,s3⟩:=see_seen (P:=noteP P f) h.has h.pos hpr
   obtain ⟨u1,u2,u3,u4⟩:=seeP_of (noteP P f) f.pr
   have hQw:=hpn.see f.pr
   have hseen:(seeP (noteP P f) f.pr).seen=seenL L f:=by rw [hsl]; exact s1
   have htold:=h.told hs
   rw [if_neg (show ¬ att=0 by omega)] at htold
   generalize hQe:seeP (noteP P f) f.pr=Q at *
   have hQa:Q.ans=setTo (L.hs ++ [f]) zs.length:=u2.trans hans
   have hQs:Q.stt=0:=u1.trans hs
   cases hy:f.y with
   | false =>
    rw [lhear_no hq hy k2]
    have e:takenP zs P f=({ Q with stt:=3 },none):=by unfold takenP; rw [if_neg k2,if_pos hy,hQe]
    rw [e]
    exact ⟨rfl,⟨hQw.len,hQw.lo,hQw.hi⟩,rfl,by show 3<4; decide,rfl,h.snd,fun g=>absurd g (by show ¬ 3≤1; decide),fun g=>absurd g (by show ¬ 3≤1; decide),fun g=>absurd g (by show ¬ 3=0; decide),fun g=>absurd g (by show ¬ 3=1; decide),hseen,s2,s3⟩
   | true =>
    have hy':¬ f.y=false:=by rw [hy]; decide
    have e:takenP zs P f=tellP zs Q m ⟨f.ph,f.pr,f.pa⟩:=by unfold takenP; rw [if_neg k2,if_neg hy',if_pos hk,hQe,htn]
    rw [e]
    have hTold:toldS Q.told m ⟨f.ph,f.pr,f.pa⟩=(List.range 7).map (tl (L.hs ++ [f])):=by
     rw [u3,show (noteP P f).told=P.told from rfl,htold]
     exact told_new hm hfn (by omega)
    have hCh:chooseL (toldS Q.told m ⟨f.ph,f.pr,f.pa⟩)=refL (toldTo (L.hs ++ [f]) zs.length):=by rw [hTold]; exact choose_told hn hsnd
    unfold tellP
    by_cases hen:enoughB zs (setTo (L.hs ++ [f]) zs.length)=false
    ·rw [if_pos (show enoughB zs Q.ans=false by rw [hQa]; exact hen),lhear_few hq hy' k2 hen]
     refine ⟨rfl,hQw.tell m _,u1.trans h.stt,by show Q.stt<4; omega,?_,hsnd,fun _=>hcnt,fun _=>hQa,fun _=>?_,fun g=>absurd (hQs.symm.trans g) (by decide),hseen,s2,s3⟩
     ·show L.wait=if Q.stt=0 then _ else _
      rw [hQs,h.wait,hs]
     ·show toldS Q.told m ⟨f.ph,f.pr,f.pa⟩=_
      rw [if_neg (show ¬ att=0 by omega)]; exact hTold
    ·rw [if_neg (show ¬ enoughB zs Q.ans=false by rw [hQa]; exact hen),hCh]
     cases hc:refL (toldTo (L.hs ++ [f]) zs.length) with
     | mk cp cf =>
      cases cf with
      | true =>
       rw [if_pos rfl,lhear_fin hq hy' k2 hen (by omega) hc]
       exact ⟨rfl,(hQw.tell m _).dec cp,rfl,by show 2<4; decide,rfl,hsnd,fun g=>absurd g (by show ¬ 2≤1; decide),fun g=>absurd g (by show ¬ 2≤1; decide),fun g=>absurd g (by show ¬ 2=0; decide),fun g=>absurd g (by show ¬ 2=1; decide),hseen,s2,s3⟩
      | false =>
       rw [if_neg (by simp),lhear_pre hq hy' k2 hen (by omega) hc]
       refine ⟨rfl,(hQw.tell m _).pre cp,rfl,by show 1<4; decide,rfl,fun x hx=>(by cases hx),fun _=>?_,fun _=>?_,fun g=>absurd g (by show ¬ 1=0; decide),fun _=>rfl,hseen,s2,s3⟩
       ·show 0=cntTo [] zs.length
        exact (cntTo_nil _).symm
       ·show (0:Int)=setTo [] zs.length
        exact (setTo_nil _).symm
  ·have k2:¬ f.k=2:=by omega
   have k4:¬ f.k=4:=by omega
   have hpr:=hp k2
   have hsl:seenL L f=(if P.seen<f.pr then f.pr else P.seen):=by
    unfold seenL
    rw [h.seen]
    by_cases g:L.seen<f.pr
    ·rw [if_pos ⟨k2,g⟩,if_pos g]
    ·rw [if_neg (fun x=>g x.2),if_neg g]
   obtain ⟨s1,s2,s3⟩:=see_seen (P:=noteP P f) h.has h.pos hpr
   obtain ⟨u1,u2,u3,u4⟩:=seeP_of (noteP P f) f.pr
   have hQw:=hpn.see f.pr
   have hseen:(seeP (noteP P f) f.pr).seen=seenL L f:=by rw [hsl]; exact s1
   have hprep:=h.prep hs
   generalize hQe:seeP (noteP P f) f.pr=Q at *
   have hQa:Q.ans=setTo (L.hs ++ [f]) zs.length:=u2.trans hans
   have hQs:Q.stt=1:=u1.trans hs
   have hQp:Q.prep=L.ph:=u4.trans hprep
   cases hy:f.y with
   | false =>
    rw [lhear_no hq hy k2]
    have e:takenP zs P f=({ Q with stt:=3 },none):=by unfold takenP; rw [if_neg k2,if_pos hy,hQe]
    rw [e]
    exact ⟨rfl,⟨hQw.len,hQw.lo,hQw.hi⟩,rfl,by show 3<4; decide,rfl,h.snd,fun g=>absurd g (by show ¬ 3≤1; decide),fun g=>absurd g (by show ¬ 3≤1; decide),fun g=>absurd g (by show ¬ 3=0; decide),fun g=>absurd g (by show ¬ 3=1; decide),hseen,s2,s3⟩
   | true =>
    have hy':¬ f.y=false:=by rw [hy]; decide
    have e:takenP zs P f=ackP zs Q:=by unfold takenP; rw [if_neg k2,if_neg hy',if_neg k4,hQe]
    rw [e]
    unfold ackP
    by_cases hen:enoughB zs (setTo (L.hs ++ [f]) zs.length)=false
    ·rw [if_pos (show enoughB zs Q.ans=false by rw [hQa]; exact hen),lhear_few hq hy' k2 hen]
     refine ⟨rfl,hQw,u1.trans h.stt,by show Q.stt<4; omega,?_,hsnd,fun _=>hcnt,fun _=>hQa,fun g=>absurd (hQs.symm.trans g) (by decide),fun _=>hQp,hseen,s2,s3⟩
     show L.wait=if Q.stt=0 then _ else _
     rw [hQs,h.wait,hs]
    ·rw [if_neg (show ¬ enoughB zs Q.ans=false by rw [hQa]; exact hen),lhear_ack hq hy' k2 hen hk]
     exact ⟨by show some (7,afterI Q.prep)=_; rw [hQp],hQw.dec _,rfl,by show 2<4; decide,rfl,hsnd,fun g=>absurd g (by show ¬ 2≤1; decide),fun g=>absurd g (by show ¬ 2≤1; decide),fun g=>absurd g (by show ¬ 2=0; decide),fun g=>absurd g (by show ¬ 2=1; decide),hseen,s2,s3⟩
 ·have hq:¬ (forL zs.length id deal att L f∧(fromL L.hs f.f).isSome=false):=fun g=>ht ((h.takes h0).2 g)
  rw [lhear_pass hq]
  have hph:phear zs id deal att P f=(P,none):=by unfold phear; rw [if_neg ht]
  rw [hph]
  exact ⟨rfl,h⟩
end
theorem sizeFt:(Tryz.prog.info? 74).map (·.size)=some 2:=by kernel_rfl
def fltV (c a:Int):Value:=.agg #[.int .i64 c,.int .i64 a]
theorem rfine_any (w:World):Calls Tryz.prog 96 #[] w fun e w'=>e=.returned (fltV 0 (-1))∧Below w.heap.size w w':=by
 go_enter Tryz.func96,Tryz.ntmps96
 go_wp2_with fail
 refine bodyPost_ret (results_cell_row rfl _ _ w.heap.size 74 #[.int .i64 0,.int .i64 (-1)] (0,0) _ rfl (heap_alloc_new w _) Tryz.underlying74 rfl sizeFt) rfl ?_
 exact ⟨rfl,(Below.refl _ _).alloc (Nat.le_refl _) _⟩
theorem rbare_any (c:Int) (w:World):Calls Tryz.prog 95 #[.int .i64 c] w fun e w'=>e=.returned (fltV c (-1))∧Below w.heap.size w w':=by
 go_enter Tryz.func95,Tryz.ntmps95
 go_wp2_with fail
 refine bodyPost_ret (results_cell_row rfl _ _ w.heap.size 74 #[.int .i64 c,.int .i64 (-1)] (0,0) _ rfl (heap_alloc_new w _) Tryz.underlying74 rfl sizeFt) rfl ?_
 exact ⟨rfl,(Below.refl _ _).alloc (Nat.le_refl _) _⟩
theorem rfin_is (p:Int) (b:Bool) (w:World) (hb:decide (p=2 ∨ p=3)=b):Calls Tryz.prog 85 #[.int .i64 p] w fun e w'=>e=.returned (.bool b)∧w'=w:=by
 subst hb
 by_cases h2:p=2
 ·subst h2
  go_enter Tryz.func85,Tryz.ntmps85
  go_wp2_with fail
  go_ret
  exact ⟨rfl,rfl⟩
 ·by_cases h3:p=3
  ·subst h3
   go_enter Tryz.func85,Tryz.ntmps85
   go_wp2_with fail
   go_ret
   exact ⟨rfl,rfl⟩
  ·rw [decide_eq_false (show ¬ (p=2 ∨ p=3) by omega)]
   have b2:(p == 2)=false:=beq_eq_false_iff_ne.2 h2
   have b3:(p == 3)=false:=beq_eq_false_iff_ne.2 h3
   go_enter Tryz.func85,Tryz.ntmps85
   go_wp2_with fail
   go_ret
   exact ⟨rfl,rfl⟩
theorem row2_set {w:World} {b:Nat} {x y:Value} {t:TypeId} (h:w.heap[b]? = some (.cells #[x,y] t (0,0))) (u v:Value):((w.setCell ⟨b,0,none⟩ u).setCell ⟨b,1,none⟩ v).heap[b]? = some (.cells #[u,v] t (0,0)):=by
 have e1:=heap_setCell_same w b 0 _ _ u h
 rw [heap_setCell_same _ b 1 _ _ v e1]
 rfl
theorem two_cells {w:World} {b:Nat} {a c:Value} {t:TypeId} {f:Nat×Nat} (h:w.heap[b]? = some (.cells #[a,c] t f)):w.cell? ⟨b,0,none⟩=some a∧w.cell? ⟨b,1,none⟩=some c :=
 ⟨by rw [cell_of_row _ _ _ _ _ _ h]; rfl,by rw [cell_of_row _ _ _ _ _ _ h]; rfl⟩
theorem revf_no (v:Value) (n:Int) (w:World) (hn:¬ (1≤n∧n≤7)):Calls Tryz.prog 32 #[v,.int .i64 n] w fun e w'=>e=.returned (fltV 2 (-1))∧Below w.heap.size w w':=by
 have HR0:=hid (heap_alloc_new w (.cells #[.int .i64 0,.int .i64 0] 74))
 obtain ⟨W,HW⟩:∃ W,Hid (w.alloc (.cells #[.int .i64 0,.int .i64 0] 74)=W):=⟨_,rfl⟩
 rw [HW.out] at HR0
 have hW:=HW.out
 have HB0:Hid (Below w.heap.size w W):=by rw [← HW.out]; exact (Below.refl _ _).alloc (Nat.le_refl _) _
 have HBa:=hid (rbare_any 2 W)
 have fin:∀ w1,Below W.heap.size W w1→Below w.heap.size w ((w1.setCell ⟨w.heap.size,0,none⟩ (.int .i64 2)).setCell ⟨w.heap.size,1,none⟩ (.int .i64 (-1))):=fun w1 hb=>((below_trans HB0.out hb).setCell (Nat.le_refl _) _).setCell (Nat.le_refl _) _
 have HFin:=hid fin
 clear fin
 unfold fltV at HBa ⊢
 by_cases h1:n<1
 ·go_enter Tryz.func32,Tryz.ntmps32
  go_wp2_with fail
  refine HBa.out.mono ?_
  rintro e w1 ⟨rfl,hb⟩
  have HR1:=hid (row_later hb HR0.out)
  have HB1:=hid hb
  obtain ⟨c0,c1⟩:=two_cells HR1.out
  have f0:=frozen_of_row _ _ 0 _ _ HR1.out
  have f1:=frozen_of_row _ _ 1 _ _ HR1.out
  clear hb
  go_wp2_with fail
  refine bodyPost_ret (results_cell_row rfl _ _ w.heap.size 74 _ (0,0) _ rfl (row2_set HR1.out _ _) Tryz.underlying74 rfl sizeFt) rfl ?_
  exact ⟨rfl,HFin.out _ HB1.out⟩
 ·have h2:7<n:=by omega
  go_enter Tryz.func32,Tryz.ntmps32
  go_wp2_with fail
  refine HBa.out.mono ?_
  rintro e w1 ⟨rfl,hb⟩
  have HR1:=hid (row_later hb HR0.out)
  have HB1:=hid hb
  obtain ⟨c0,c1⟩:=two_cells HR1.out
  have f0:=frozen_of_row _ _ 0 _ _ HR1.out
  have f1:=frozen_of_row _ _ 1 _ _ HR1.out
  clear hb
  go_wp2_with fail
  refine bodyPost_ret (results_cell_row rfl _ _ w.heap.size 74 _ (0,0) _ rfl (row2_set HR1.out _ _) Tryz.underlying74 rfl sizeFt) rfl ?_
  exact ⟨rfl,HFin.out _ HB1.out⟩
theorem any_take_false {L:List E3} {k:Nat} {f:E3→Bool} (h:∀ j (hj:j<L.length),j<k→f (L[j]'hj)=false) (hk:k≤L.length):(L.take k).any f=false:=by
 rw [List.any_eq_false]
 intro x hx
 obtain ⟨j,hj,rfl⟩:=List.getElem_of_mem hx
 rw [List.length_take] at hj
 rw [List.getElem_take,h j (by omega) (by omega)]
 decide
theorem any_take_true {L:List E3} {k j:Nat} {f:E3→Bool} (hj:j<L.length) (hk:j<k) (h:f (L[j]'hj)=true):(L.take k).any f=true:=by
 rw [List.any_eq_true]
 refine ⟨L[j]'hj,?_,h⟩
 exact List.mem_iff_getElem.2 ⟨j,by rw [List.length_take]; omega,by rw [List.getElem_take]⟩
theorem evC_9 {n:Int} {L:List E3} {k j:Nat} {s d p:Int} (hok:bdB n ⟨s,d,p⟩=true) (hj:j<L.length) (hjk:j<k) (h:decide ((L[j]'hj).d=d∧(L[j]'hj).p≠p)=true):evC n (L.take k) ⟨s,d,p⟩=9:=by
 have h2:spB (L.take k) ⟨s,d,p⟩=true:=any_take_true hj hjk h
 unfold evC
 rw [if_neg (by rw [hok]; decide),if_pos h2]
theorem evC_8 {n:Int} {L:List E3} {k j:Nat} {s d p:Int} (hok:bdB n ⟨s,d,p⟩=true) (hk:k≤L.length) (hn:∀ q (hq:q<L.length),q<k→decide ((L[q]'hq).d=d∧(L[q]'hq).p≠p)=false) (hj:j<L.length) (hjk:j<k) (h:decide ((L[j]'hj).d=d∧(L[j]'hj).s=s)=true):evC n (L.take k) ⟨s,d,p⟩=8:=by
 have h1:spB (L.take k) ⟨s,d,p⟩=false:=any_take_false hn hk
 have h2:heB (L.take k) ⟨s,d,p⟩=true:=any_take_true hj hjk h
 unfold evC
 rw [if_neg (by rw [hok]; decide),if_neg (by rw [h1]; decide),if_pos h2]
theorem evC_0 {n:Int} {L:List E3} {k:Nat} {s d p:Int} (hok:bdB n ⟨s,d,p⟩=true) (hk:k≤L.length) (hn:∀ q (hq:q<L.length),q<k→decide ((L[q]'hq).d=d∧(L[q]'hq).p≠p)=false) (hm:∀ q (hq:q<L.length),q<k→decide ((L[q]'hq).d=d∧(L[q]'hq).s=s)=false):evC n (L.take k) ⟨s,d,p⟩=0:=by
 have h1:spB (L.take k) ⟨s,d,p⟩=false:=any_take_false hn hk
 have h2:heB (L.take k) ⟨s,d,p⟩=false:=any_take_false hm hk
 unfold evC
 rw [if_neg (by rw [hok]; decide),if_neg (by rw [h1]; decide),if_neg (by rw [h2]; decide)]
theorem revf_ok (ad:Option Addr) (cap:Nat) (L:List E3) (n:Int) (c kk:Nat) (r1 r2:Int) (w:World) (h1:1≤n) (h7:n≤7) (hL:EL w ad L) (hl:L.length≤100000) (hF:EvF n L c kk) (hr1:r1=c) (hr2:r2=if c=0 then -1 else (kk:Int)) :
  Calls Tryz.prog 32 #[.slice ad L.length cap,.int .i64 n] w fun e w'=>e=.returned (fltV r1 r2)∧Below w.heap.size w w':=by
 have HR0:=hid (heap_alloc_new w (.cells #[.int .i64 0,.int .i64 0] 74))
 obtain ⟨W,HW⟩:∃ W,Hid (w.alloc (.cells #[.int .i64 0,.int .i64 0] 74)=W):=⟨_,rfl⟩
 rw [HW.out] at HR0
 have hW:=HW.out
 have HB0:Hid (Below w.heap.size w W):=by rw [← HW.out]; exact (Below.refl _ _).alloc (Nat.le_refl _) _
 have HL:=hid (hL.later HB0.out)
 have HF:=hid hF
 have HR:=hid (And.intro hr1 hr2)
 have H7:=hid h7
 -- what a store into the result comes to
 have HSt:Hid (∀ wr,Below W.heap.size W wr→wr.cell? ⟨w.heap.size,0,none⟩=some (.int .i64 0)∧wr.cell? ⟨w.heap.size,1,none⟩=some (.int .i64 0)∧wr.frozen? ⟨w.heap.size,0,none⟩=false∧wr.frozen? ⟨w.heap.size,1,none⟩=false ∧
   ∀ x y:Int,((wr.setCell ⟨w.heap.size,0,none⟩ (.int .i64 x)).setCell ⟨w.heap.size,1,none⟩ (.int .i64 y)).heap[w.heap.size]? = some (.cells #[.int .i64 x,.int .i64 y] 74 (0,0))∧Below w.heap.size w ((wr.setCell ⟨w.heap.size,0,none⟩ (.int .i64 x)).setCell ⟨w.heap.size,1,none⟩ (.int .i64 y))):=fun wr hb=>by
  have hr:=row_later hb HR0.out
  exact ⟨(two_cells hr).1,(two_cells hr).2,frozen_of_row _ _ 0 _ _ hr,frozen_of_row _ _ 1 _ _ hr,fun x y=>⟨row2_set hr _ _,((below_trans HB0.out hb).setCell (Nat.le_refl _) _).setCell (Nat.le_refl _) _⟩⟩
 unfold fltV
 clear hL hF hr1 hr2
 go_enter Tryz.func32,Tryz.ntmps32
 go_wp2_with fail
 go_loopw [5] (fun v wr=>∃ k:Nat,k≤kk∧v=.int .i64 (k:Int)∧Below W.heap.size W wr) (fun v _=>L.length - (intOf v).toNat)
 case atStart=>exact ⟨0,Nat.zero_le _,rfl,Below.refl _ _⟩
 case round =>
  obtain ⟨k,hk,rfl,hb⟩:=hrel
  have HB:=hid hb
  by_cases hlt:k<L.length
  ·obtain ⟨b,o,rfl,y0,y1,y2⟩:=HL.out k hlt
   obtain ⟨⟨s,d,p⟩,HS⟩:∃ e,Hid (L[k]'hlt=e):=⟨_,rfl⟩
   rw [HS.out] at y0 y1 y2
   replace y0:=cell_later hb y0
   replace y1:=cell_later hb y1
   replace y2:=cell_later hb y2
   obtain ⟨W2,HW2⟩:∃ W2,Hid (wr.alloc (.cells #[.int .i64 s,.int .i64 d,.int .i64 p] 77)=W2):=⟨_,rfl⟩
   have hW2:=HW2.out
   have HB2:Hid (Below W.heap.size W W2):=by rw [← HW2.out]; exact HB.out.alloc HB.out.size _
   have HRe:Hid (W2.heap[wr.heap.size]? = some (.cells #[.int .i64 s,.int .i64 d,.int .i64 p] 77 (0,0))):=by rw [← HW2.out]; exact heap_alloc_new wr _
   obtain ⟨z0,z1,z2⟩:=threeE HRe.out
   obtain ⟨x3,H3⟩:∃ x,Hid (decide (p=2 ∨ p=3)=x):=⟨_,rfl⟩
   obtain ⟨g0,g1,g2,g3,g4⟩:=HSt.out W2 HB2.out
   have HBd:Hid (bdB n ⟨s,d,p⟩=false→r1=2∧r2=(k:Int)):=fun hbd=>by
    have hc:evC n (L.take k) ⟨s,d,p⟩=2:=by unfold evC; rw [if_pos hbd]
    rcases Nat.lt_or_ge k kk with x|x
    ·have:=HF.out.1 k hlt x; rw [HS.out,hc] at this; cases this
    ·obtain rfl:k=kk:=by omega
     rcases HF.out.2 with ⟨-,h⟩|⟨h,h2,h3⟩
     ·omega
     ·rw [HS.out,hc] at h3
      subst h3
      exact ⟨HR.out.1,HR.out.2⟩
   clear hb
   by_cases k1:s<0
   ·have HBad:=hid (HBd.out (decide_eq_false (by simp only; omega)))
    go_wp2_with fail
    refine (rfin_is p x3 _ H3.out).mono ?_
    rintro e w3 ⟨rfl,hx⟩
    subst w3
    go_wp2_with fail
    refine bodyPost_ret (results_cell_row rfl _ _ w.heap.size 74 _ (0,0) _ rfl (g4 _ _).1 Tryz.underlying74 rfl sizeFt) rfl ?_
    exact ⟨by rw [HBad.out.1,HBad.out.2],(g4 _ _).2⟩
   ·have k1':0≤s:=by omega
    by_cases k2:n≤s
    ·have HBad:=hid (HBd.out (decide_eq_false (by simp only; omega)))
     go_wp2_with fail
     refine (rfin_is p x3 _ H3.out).mono ?_
     rintro e w3 ⟨rfl,hx⟩
     subst w3
     go_wp2_with fail
     refine bodyPost_ret (results_cell_row rfl _ _ w.heap.size 74 _ (0,0) _ rfl (g4 _ _).1 Tryz.underlying74 rfl sizeFt) rfl ?_
     exact ⟨by rw [HBad.out.1,HBad.out.2],(g4 _ _).2⟩
    ·have k2':s<n:=by omega
     by_cases k3:d<0
     ·have HBad:=hid (HBd.out (decide_eq_false (by simp only; omega)))
      go_wp2_with fail
      refine (rfin_is p x3 _ H3.out).mono ?_
      rintro e w3 ⟨rfl,hx⟩
      subst w3
      go_wp2_with fail
      refine bodyPost_ret (results_cell_row rfl _ _ w.heap.size 74 _ (0,0) _ rfl (g4 _ _).1 Tryz.underlying74 rfl sizeFt) rfl ?_
      exact ⟨by rw [HBad.out.1,HBad.out.2],(g4 _ _).2⟩
     ·have k3':0≤d:=by omega
      by_cases k4:6≤d
      ·have HBad:=hid (HBd.out (decide_eq_false (by simp only; omega)))
       go_wp2_with fail
       refine (rfin_is p x3 _ H3.out).mono ?_
       rintro e w3 ⟨rfl,hx⟩
       subst w3
       go_wp2_with fail
       refine bodyPost_ret (results_cell_row rfl _ _ w.heap.size 74 _ (0,0) _ rfl (g4 _ _).1 Tryz.underlying74 rfl sizeFt) rfl ?_
       exact ⟨by rw [HBad.out.1,HBad.out.2],(g4 _ _).2⟩
      ·have k4':d<6:=by omega
       cases x3 with
       | false =>
        have HBad:=hid (HBd.out (decide_eq_false (by have:=of_decide_eq_false H3.out; simp only; omega)))
        go_wp2_with fail
        refine (rfin_is p false _ H3.out).mono ?_
        rintro e w3 ⟨rfl,hx⟩
        subst w3
        go_wp2_with fail
        refine bodyPost_ret (results_cell_row rfl _ _ w.heap.size 74 _ (0,0) _ rfl (g4 _ _).1 Tryz.underlying74 rfl sizeFt) rfl ?_
        exact ⟨by rw [HBad.out.1,HBad.out.2],(g4 _ _).2⟩
       | true =>
        have HOk:Hid (bdB n ⟨s,d,p⟩=true):=decide_eq_true ⟨⟨k1',k2'⟩,⟨k3',k4'⟩,of_decide_eq_true H3.out⟩
        have HCC:Hid (∀ cc,evC n (L.take k) ⟨s,d,p⟩=cc→cc≠0→r1=(cc:Int)∧r2=(k:Int)):=fun cc hc h0=>by
         rcases Nat.lt_or_ge k kk with x|x
         ·have:=HF.out.1 k hlt x; rw [HS.out,hc] at this; exact absurd this h0
         ·obtain rfl:k=kk:=by omega
          rcases HF.out.2 with ⟨-,h⟩|⟨h,h2,h3⟩
          ·omega
          ·rw [HS.out,hc] at h3
           subst h3
           refine ⟨HR.out.1,?_⟩
           rw [HR.out.2,if_neg h0]
        have HX8:Hid (∀ j (hj:j<L.length),j<k→decide ((L[j]'hj).d=d∧(L[j]'hj).p≠p)=true→r1=9∧r2=(k:Int)):=fun j hj hjk h=>HCC.out 9 (evC_9 HOk.out hj hjk h) (by decide)
        have HX9:Hid ((∀ q (hq:q<L.length),q<k→decide ((L[q]'hq).d=d∧(L[q]'hq).p≠p)=false)→∀ j (hj:j<L.length),j<k→decide ((L[j]'hj).d=d∧(L[j]'hj).s=s)=true→r1=8∧r2=(k:Int)):=fun hn j hj hjk h=>HCC.out 8 (evC_8 HOk.out (by omega) hn hj hjk h) (by decide)
        have HXl:Hid ((∀ q (hq:q<L.length),q<k→decide ((L[q]'hq).d=d∧(L[q]'hq).p≠p)=false)→(∀ q (hq:q<L.length),q<k→decide ((L[q]'hq).d=d∧(L[q]'hq).s=s)=false)→k<kk):=fun hn hm=>by
         have hc:evC n (L.take k) ⟨s,d,p⟩=0:=evC_0 HOk.out (by omega) hn hm
         rcases Nat.lt_or_ge k kk with x|x
         ·exact x
         ·obtain rfl:k=kk:=by omega
          rcases HF.out.2 with ⟨-,h⟩|⟨h,h2,h3⟩
          ·omega
          ·rw [HS.out,hc] at h3; exact absurd h3.symm h2
        go_wp2_with fail
        refine (rfin_is p true _ H3.out).mono ?_
        rintro e w3 ⟨rfl,hx⟩
        subst w3
        go_wp2_with fail
        clear g0 g1 g2 g3 g4
        go_loopw [8] (fun v wr2=>∃ j:Nat,j≤k∧v=.int .i64 (j:Int)∧Hid (∀ q (hq:q<L.length),q<j→decide ((L[q]'hq).d=d∧(L[q]'hq).p≠p)=false)∧Below W2.heap.size W2 wr2) (fun v _=>k - (intOf v).toNat)
        case atStart=>exact ⟨0,Nat.zero_le _,rfl,fun q _ h=>absurd h (Nat.not_lt_zero _),Below.refl _ _⟩
        case round =>
         obtain ⟨j,hj,rfl,HJ,hbj⟩:=hrel
         have HBj:=hid hbj
         by_cases hjk:j<k
         ·have hjl:j<L.length:=by omega
          obtain ⟨b',o',eb,x0,x1,x2⟩:=HL.out j hjl
          obtain ⟨rfl,rfl⟩:b=b'∧o=o':=by cases eb; exact ⟨rfl,rfl⟩
          obtain ⟨⟨s',d',p'⟩,HSj⟩:∃ e,Hid (L[j]'hjl=e):=⟨_,rfl⟩
          rw [HSj.out] at x0 x1 x2
          have HBw:=hid (below_trans HB2.out hbj)
          replace x0:=cell_later HBw.out x0
          replace x1:=cell_later HBw.out x1
          replace x2:=cell_later HBw.out x2
          obtain ⟨z0,z1,z2⟩:=threeE (row_later hbj HRe.out)
          obtain ⟨q0,q1,q2,q3,q4⟩:=HSt.out _ (below_drewN HBw.out 0)
          clear hbj eb q0 q1 q2 q3 q4
          have hStep:∀ t:Bool,decide (d'=d∧p'≠p)=t→t=false→Hid (∀ q (hq:q<L.length),q<j+1→decide ((L[q]'hq).d=d∧(L[q]'hq).p≠p)=false):=fun t ht hf q hq h=>by
           rcases Nat.lt_succ_iff_lt_or_eq.1 h with x|rfl
           ·exact HJ.out q hq x
           ·rw [HSj.out]; exact ht.trans hf
          by_cases e1:d'=d
          ·by_cases e2:p'≠p
           ·have HBad:Hid (r1=9∧r2=(k:Int)):=HX8.out j hjl hjk (by rw [HSj.out]; exact decide_eq_true ⟨e1,e2⟩)
            clear hStep
            subst e1
            have e4:(p' != p)=true:=bne_iff_ne.2 e2
            go_wp2_with fail
            go_quiet (fail)
            obtain ⟨g0,g1,g2,g3,g4⟩:=HSt.out _ (below_drewN HBw.out nq)
            go_wp2_with fail
            refine bodyPost_ret (results_cell_row rfl _ _ w.heap.size 74 _ (0,0) _ rfl (g4 _ _).1 Tryz.underlying74 rfl sizeFt) rfl ?_
            exact ⟨by rw [HBad.out.1,HBad.out.2],(g4 _ _).2⟩
           ·have HJ2:=hStep _ rfl (decide_eq_false fun h=>e2 h.2)
            clear hStep
            subst e1
            obtain rfl:p'=p:=Classical.not_not.1 e2
            clear e2
            go_wp2_with fail
            go_quiet (fail)
            go_wp2_with fail
            go_roundw
            case rel=>exact ⟨j+1,by omega,by go_num,HJ2.out,below_drewN HBj.out _⟩
            case measure=>simp [intOf]; omega
          ·have HJ2:=hStep _ rfl (decide_eq_false fun h=>e1 h.1)
           clear hStep
           have e3:(d' == d)=false:=beq_eq_false_iff_ne.2 e1
           go_wp2_with fail
           go_quiet (fail)
           go_wp2_with fail
           go_roundw
           case rel=>exact ⟨j+1,by omega,by go_num,HJ2.out,below_drewN HBj.out _⟩
           case measure=>simp [intOf]; omega
         ·have hjk2:¬ ((j:Int)<(k:Int)):=by omega
          have HN8:Hid (∀ q (hq:q<L.length),q<k→decide ((L[q]'hq).d=d∧(L[q]'hq).p≠p)=false):=fun q hq h=>HJ.out q hq (by omega)
          replace HX9:=hid (HX9.out HN8.out)
          have HBp:=HBj
          clear hbj
          go_wp2_with fail
          go_loopw [9] (fun v wr2=>∃ j:Nat,j≤k∧v=.int .i64 (j:Int)∧Hid (∀ q (hq:q<L.length),q<j→decide ((L[q]'hq).d=d∧(L[q]'hq).s=s)=false)∧Below W2.heap.size W2 wr2) (fun v _=>k - (intOf v).toNat)
          case atStart=>exact ⟨0,Nat.zero_le _,rfl,fun q _ h=>absurd h (Nat.not_lt_zero _),HBp.out⟩
          case round =>
           obtain ⟨j,hj,rfl,HJ,hbj⟩:=hrel
           have HBj:=hid hbj
           by_cases hjk:j<k
           ·have hjl:j<L.length:=by omega
            obtain ⟨b',o',eb,x0,x1,x2⟩:=HL.out j hjl
            obtain ⟨rfl,rfl⟩:b=b'∧o=o':=by cases eb; exact ⟨rfl,rfl⟩
            obtain ⟨⟨s',d',p'⟩,HSj⟩:∃ e,Hid (L[j]'hjl=e):=⟨_,rfl⟩
            rw [HSj.out] at x0 x1 x2
            have HBw:=hid (below_trans HB2.out hbj)
            replace x0:=cell_later HBw.out x0
            replace x1:=cell_later HBw.out x1
            replace x2:=cell_later HBw.out x2
            obtain ⟨z0,z1,z2⟩:=threeE (row_later hbj HRe.out)
            obtain ⟨q0,q1,q2,q3,q4⟩:=HSt.out _ (below_drewN HBw.out 0)
            clear hbj eb q0 q1 q2 q3 q4
            have hStep:∀ t:Bool,decide (d'=d∧s'=s)=t→t=false→Hid (∀ q (hq:q<L.length),q<j+1→decide ((L[q]'hq).d=d∧(L[q]'hq).s=s)=false):=fun t ht hf q hq h=>by
             rcases Nat.lt_succ_iff_lt_or_eq.1 h with x|rfl
             ·exact HJ.out q hq x
             ·rw [HSj.out]; exact ht.trans hf
            by_cases e1:d'=d
            ·by_cases e2:s'=s
             ·have HBad:Hid (r1=8∧r2=(k:Int)):=HX9.out j hjl hjk (by rw [HSj.out]; exact decide_eq_true ⟨e1,e2⟩)
              clear hStep
              subst e1
              subst e2
              go_wp2_with fail
              go_quiet (fail)
              obtain ⟨g0,g1,g2,g3,g4⟩:=HSt.out _ (below_drewN HBw.out nq)
              go_wp2_with fail
              refine bodyPost_ret (results_cell_row rfl _ _ w.heap.size 74 _ (0,0) _ rfl (g4 _ _).1 Tryz.underlying74 rfl sizeFt) rfl ?_
              exact ⟨by rw [HBad.out.1,HBad.out.2],(g4 _ _).2⟩
             ·have HJ2:=hStep _ rfl (decide_eq_false fun h=>e2 h.2)
              clear hStep
              subst e1
              have e4:(s' == s)=false:=beq_eq_false_iff_ne.2 e2
              go_wp2_with fail
              go_quiet (fail)
              go_wp2_with fail
              go_roundw
              case rel=>exact ⟨j+1,by omega,by go_num,HJ2.out,below_drewN HBj.out _⟩
              case measure=>simp [intOf]; omega
            ·have HJ2:=hStep _ rfl (decide_eq_false fun h=>e1 h.1)
             clear hStep
             have e3:(d' == d)=false:=beq_eq_false_iff_ne.2 e1
             go_wp2_with fail
             go_quiet (fail)
             go_wp2_with fail
             go_roundw
             case rel=>exact ⟨j+1,by omega,by go_num,HJ2.out,below_drewN HBj.out _⟩
             case measure=>simp [intOf]; omega
           ·have hjk2:¬ ((j:Int)<(k:Int)):=by omega
            have HN9:Hid (∀ q (hq:q<L.length),q<k→decide ((L[q]'hq).d=d∧(L[q]'hq).s=s)=false):=fun q hq h=>HJ.out q hq (by omega)
            have hkk:=HXl.out HN8.out HN9.out
            have HBe:=hid (below_trans HB2.out HBj.out)
            clear hbj
            go_wp2_with fail
            go_roundw
            case rel=>exact ⟨k+1,by omega,by go_num,HBe.out⟩
            case measure=>simp [intOf]; omega
  ·have HC0:Hid (r1=0∧r2=-1):=by
    rcases HF.out.2 with ⟨h1,h2⟩|⟨h1,-⟩
    ·subst h1; exact ⟨HR.out.1,HR.out.2⟩
    ·omega
   have hk2:¬ ((k:Int)<(L.length:Int)):=by omega
   have HFn:=hid (rfine_any wr)
   unfold fltV at HFn
   go_wp2_with fail
   refine HFn.out.mono ?_
   rintro e w3 ⟨rfl,hb3⟩
   obtain ⟨g0,g1,g2,g3,g4⟩:=HSt.out w3 (below_trans hb hb3)
   clear hb hb3
   go_wp2_with fail
   refine bodyPost_ret (results_cell_row rfl _ _ w.heap.size 74 _ (0,0) _ rfl (g4 _ _).1 Tryz.underlying74 rfl sizeFt) rfl ?_
   exact ⟨by rw [HC0.out.1,HC0.out.2],(g4 _ _).2⟩
end Go.Proofs.YtaehdgemkafinaaGreatDoor
