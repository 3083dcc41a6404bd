/-
  On the way to SPlaysProof: O12 O13 O14.
-/
import Derived.Test.YtaehdgemkafinaaGreatDoorBw32
set_option maxHeartbeats 8000000
set_option maxRecDepth 100000
namespace Go.Proofs.YtaehdgemkafinaaGreatDoor
open Go.RowKit
theorem kept_below {S:Nat→Prop} {w w1 w2:World} (k:Kept S w w1) (hb:Below w1.heap.size w1 w2):Kept S w w2 :=
 ⟨hb.os.trans k.os,hb.tape.trans k.tape,hb.output.trans k.output,Nat.le_trans k.size hb.size,fun y hy hn=>(hb.block y (Nat.lt_of_lt_of_le hy k.size)).trans (k.block y hy hn)⟩
theorem flt_zero {w:World} {A:Nat→Addr} {k b:Nat} {v:Value} (h:FltV w A 0 k v b):v=.nilIface:=by
 rcases h with ⟨-,h⟩|⟨x,fb,h,-⟩
 ·exact h
 ·omega
section
variable {w0 w:World} {C:Nat→Nat} {X:XB} {m pb bb:Nat} {zs:List Int} {V:PX} {A:Nat→Addr} {nv:Value}
def DaI (w0 w wr:World) (C:Nat→Nat) (X:XB) (zs:List Int) (V:PX) (m j:Nat):Prop:=∃ C' X' U,WD w0 wr C' X' zs U (m+3 * j)∧key X'=key X∧Kept (OwnX C) w wr∧(∀ x,x<w.heap.size→C' x=C x)∧delX zs (3000 - j) U=delX zs 3000 V∧pot zs U+j≤pot zs V∧delN zs (3000 - j) U+j=delN zs 3000 V
theorem all_any (h:WD w0 w C X zs V m) (hE:Held9 w0 A) (hp:BoxO w pb (ptrO X.xb)) (hpc:2000≤C pb) (hm:m+9000<900000) :
  Calls Tryz.prog 65 #[ptrO pb] w fun e w'=>e=.returned (.int .i64 (delN zs 3000 V:Int))∧delN zs 3000 V≤3000∧pot zs (delX zs 3000 V)+delN zs 3000 V≤pot zs V∧WOut w0 w w' C X zs (delX zs 3000 V) (m+3 * delN zs 3000 V):=by
 have HI0:Hid (DaI w0 w w C X zs V m 0):=⟨C,X,V,h,rfl,Kept.refl _ _,fun _ _=>rfl,rfl,Nat.le_refl _,rfl⟩
 have HE:=hid hE
 have HP:=hid hp
 have HPC:=hid hpc
 clear h hE hp hpc
 go_enter Tryz.func65,Tryz.ntmps65
 go_wp2_with fail
 go_loopw [3] (fun v wr=>∃ j:Nat,j≤3000∧v=.int .i64 (j:Int)∧Hid (DaI w0 w wr C X zs V m j)) (fun v _=>3000 - (intOf v).toNat)
 case atStart=>exact ⟨0,Nat.zero_le _,rfl,HI0.out⟩
 case round =>
  obtain ⟨j,hj,rfl,HI⟩:=hrel
  obtain ⟨C1,X1,U,g1,g2,g3,g4,g5,g6,gn⟩:=HI.out
  have c0:wr.cell? ⟨pb,0,none⟩=some (ptrO X.xb):=cell_kept HP.out g3 (fun e=>by have h1:=HPC.out; have h2:C pb<2000:=e; omega)
  by_cases hlt:j<3000
  ·have hlt2:(j:Int)<3000:=by omega
   obtain ⟨q,hq⟩:∃ q,3000 - j=q+1:=⟨3000 - j - 1,by omega⟩
   rw [hq] at g5 gn
   cases hfl:U.fly with
   | nil =>
    have HD:=hid (deliver_no (0:Int) g1 HE.out (by rw [hfl]; simp))
    rw [key_xb g2] at HD
    rw [delN_nil hfl,Nat.zero_add] at gn
    rw [del_nil hfl] at g5
    have HO:Hid (delN zs 3000 V=j∧pot zs (delX zs 3000 V)+j≤pot zs V∧WOut w0 w wr C X zs (delX zs 3000 V) (m+3 * j)):=by
     rw [← g5,← gn]; exact ⟨rfl,g6,C1,X1,g1,g2,g3,g4⟩
    clear g1 g2 g3 g4 g5 g6 gn hfl
    go_wp2_with fail
    refine HD.out.mono ?_
    rintro e w1 ⟨rfl,hx⟩
    subst w1
    unfold ev
    go_wp2_with fail
    go_ret
    exact ⟨by rw [HO.out.1]; rfl,by rw [HO.out.1]; exact hj,by rw [HO.out.1]; exact HO.out.2.1,by rw [HO.out.1]; exact HO.out.2.2⟩
   | cons f rest =>
    have h0l:0<U.fly.length:=by rw [hfl]; simp
    have hf0:U.fly[0]'h0l=f:=by simp [hfl]
    have HD:=hid (deliver_ok 0 f g1 HE.out h0l hf0 (by omega))
    rw [key_xb g2,show ((0:Nat):Int)=0 from rfl] at HD
    have hp:=pot_deliver g1.inv (k:=0) (f:=f) (by rw [hfl]; rfl)
    rw [delN_cons hfl] at gn
    have hdx:delX zs (q+1) U=delX zs q (deliverX zs U 0 f):=by
     show (match U.fly with|[]=>U|f :: _=>delX zs q (deliverX zs U 0 f))=_
     rw [hfl]
    rw [hdx] at g5
    have HN:Hid (∀ w1,WOut w0 wr w1 C1 X1 zs (deliverX zs U 0 f) (m+3 * j+3)→DaI w0 w w1 C X zs V m (j+1)):=by
     intro w1 ho
     obtain ⟨C2,X2,y1,y2,y3,y4⟩:=WOut.step g2 g3 g4 ho
     exact ⟨C2,X2,_,by rw [show m+3 * (j+1)=m+3 * j+3 by omega]; exact y1,y2,y3,y4,by rw [show 3000 - (j+1)=q by omega]; exact g5,by omega,by rw [show 3000 - (j+1)=q by omega]; omega⟩
    clear g1 g2 g3 g4 g5 g6 gn hfl hf0 hp h0l hdx hq
    go_wp2_with fail
    refine HD.out.mono ?_
    rintro e w1 ⟨rfl,ho⟩
    have HO:=hid (HN.out w1 ho)
    clear ho
    go_wp2_with fail
    go_roundw
    case rel=>exact ⟨j+1,by omega,by go_num,HO.out⟩
    case measure=>simp [intOf]; omega
  ·obtain rfl:j=3000:=by omega
   have HO:Hid (delN zs 3000 V=3000∧pot zs (delX zs 3000 V)+3000≤pot zs V∧WOut w0 w wr C X zs (delX zs 3000 V) (m+3 * 3000)):=by
    have g5':U=delX zs 3000 V:=g5
    have gn':0+3000=delN zs 3000 V:=gn
    rw [← g5',← gn']; exact ⟨rfl,g6,C1,X1,g1,g2,g3,g4⟩
   clear g1 g2 g3 g4 g5 g6 gn
   go_wp2_with fail
   go_ret
   exact ⟨by rw [HO.out.1]; rfl,by rw [HO.out.1]; exact Nat.le_refl _,by rw [HO.out.1]; exact HO.out.2.1,by rw [HO.out.1]; exact HO.out.2.2⟩
theorem c13_any (hb:BoxO w bb (ptrO pb)) (h:WD w0 w C X zs V m) (hE:Held9 w0 A) (hT:∀ w',Kept (OwnX C) w w'→TabO w') (hp:BoxO w pb (ptrO X.xb)) (hpc:2000≤C pb) (hm:m+9000<900000) :
  Calls Tryz.prog 63 #[nv,ptrO bb] w fun e w'=>e=.returned (.tuple #[.string (bB (Lib.decDigits (delN zs 3000 V))),.nilIface])∧delN zs 3000 V≤3000∧pot zs (delX zs 3000 V)+delN zs 3000 V≤pot zs V∧WOut w0 w w' C X zs (delX zs 3000 V) (m+3 * delN zs 3000 V):=by
 have HA:=hid (all_any h hE hp hpc hm)
 have HT:=hid hT
 obtain ⟨d,Hd⟩:∃ d,Hid (delN zs 3000 V=d):=⟨_,rfl⟩
 rw [Hd.out] at HA ⊢
 clear h hE hT hp hpc hm
 go_enter Tryz.func63,Tryz.ntmps63
 go_wp2_with fail
 refine HA.out.mono ?_
 rintro e w1 ⟨rfl,hd,hq,C',X',o1,o2,o3,o4⟩
 have HI:=hid (itoa_any d w1 (HT.out w1 o3) (by omega))
 have HO:=hid (And.intro o1 (And.intro o2 (And.intro o3 o4)))
 clear o1 o2 o3 o4
 go_wp2_with fail
 refine HI.out.mono ?_
 rintro e w2 ⟨rfl,hb2⟩
 have HO2:Hid (WOut w0 w w2 C X zs (delX zs 3000 V) (m+3 * d)):=⟨C',X',HO.out.1.later hb2,HO.out.2.1,kept_below HO.out.2.2.1 hb2,HO.out.2.2.2⟩
 clear hb2
 go_wp2_with fail
 go_ret2
 exact ⟨rfl,hd,hq,HO2.out⟩
theorem c14_any (hb:BoxO w bb (ptrO pb)) (h:WD w0 w C X zs V m) (hT:TabO w) (hp:BoxO w pb (ptrO X.xb)) (hm:m<900000) :
  Calls Tryz.prog 66 #[nv,ptrO bb] w fun e w'=>e=.returned (.tuple #[.string (bB (Lib.decDigits V.fly.length)),.nilIface])∧Below w.heap.size w w':=by
 have HA:=hid (inflight_is h)
 have hfl:=h.inv.fl
 have HI:=hid (itoa_any V.fly.length w hT (by omega))
 clear h hT hfl
 go_enter Tryz.func66,Tryz.ntmps66
 go_wp2_with fail
 refine HA.out.mono ?_
 rintro e w1 ⟨rfl,hx⟩
 subst w1
 go_wp2_with fail
 refine HI.out.mono ?_
 rintro e w2 ⟨rfl,hb2⟩
 have HB2:=hid hb2
 clear hb2
 go_wp2_with fail
 go_ret2
 exact ⟨rfl,HB2.out⟩
theorem c18_any (hb:BoxO w bb (ptrO pb)) (h:WD w0 w C X zs V m) (hT:TabO w) (hp:BoxO w pb (ptrO X.xb)) (hN:EvN V.evs) :
  Calls Tryz.prog 74 #[nv,ptrO bb] w fun e w'=>e=.returned (.tuple #[.string (bB (eventsO V.evs)),.nilIface])∧Below w.heap.size w w':=by
 have HA:=hid (tellEvents_any h hT hp hN h.inv.ev)
 clear h hT hp hN
 go_enter Tryz.func74,Tryz.ntmps74
 go_wp2_with fail
 refine HA.out.mono ?_
 rintro e w1 ⟨rfl,hb1⟩
 have HB1:=hid hb1
 clear hb1
 go_wp2_with fail
 go_ret2
 exact ⟨rfl,HB1.out⟩
end
section
variable {w:World} {pb bb xb g cap:Nat} {a b:Int} {R:Value→World→Prop}
theorem c15_any (hb:BoxO w bb (ptrO pb)) (h0:w.cell? ⟨g,0,none⟩=some (.int .i64 a)) (h1:w.cell? ⟨g,1,none⟩=some (.int .i64 b)) (hc:Calls Tryz.prog 69 #[ptrO pb,.int .i64 a,.int .i64 b] w.drew (RetO fun v w'=>∃ s e,v=.tuple #[.string s,e]∧R v w')) (hk:∀ v W,R v W→Below w.heap.size w W) :
  Calls Tryz.prog 68 #[.slice (some ⟨g,0,none⟩) 2 cap,ptrO bb] w (RetO fun v w'=>∃ s e,v=.tuple #[.string s,e]∧R v w'):=by
 have HC:=hid hc
 have HK:=hid hk
 have HS:=hid (And.intro hb (And.intro h0 h1))
 clear hc hk
 go_enter Tryz.func68,Tryz.ntmps68
 go_wp2_with fail
 go_region_held3 (fun W=>W.cell? ⟨bb,0,none⟩=some (ptrO pb)∧W.cell? ⟨g,0,none⟩=some (.int .i64 a)∧W.cell? ⟨g,1,none⟩=some (.int .i64 b)) (first|exact hk2|go_keep) (first|(go_at_call 69; (with_reducible refine HC.out.mono ?_); rintro e w2 ⟨v,rfl,s,e,rfl,hR⟩; have HR:=hid hR; have hbl:=HK.out _ _ hR; have hk2:=And.intro (cell_later hbl HS.out.1) (And.intro (cell_later hbl HS.out.2.1) (cell_later hbl HS.out.2.2)); clear hR hbl))
 go_wp2_with fail
 go_ret2
 exact ⟨_,rfl,_,_,rfl,HR.out⟩
theorem c17_any (hb:BoxO w bb (ptrO pb)) (h0:w.cell? ⟨g,0,none⟩=some (.int .i64 a)) (hc:Calls Tryz.prog 73 #[ptrO pb,.int .i64 a] w.drew (RetO fun v w'=>∃ s e,v=.tuple #[.string s,e]∧R v w')) (hk:∀ v W,R v W→Below w.heap.size w W) :
  Calls Tryz.prog 72 #[.slice (some ⟨g,0,none⟩) 1 cap,ptrO bb] w (RetO fun v w'=>∃ s e,v=.tuple #[.string s,e]∧R v w'):=by
 have HC:=hid hc
 have HK:=hid hk
 have HS:=hid (And.intro hb h0)
 clear hc hk
 go_enter Tryz.func72,Tryz.ntmps72
 go_wp2_with fail
 go_region_held3 (fun W=>W.cell? ⟨bb,0,none⟩=some (ptrO pb)∧W.cell? ⟨g,0,none⟩=some (.int .i64 a)) (first|exact hk2|go_keep) (first|(go_at_call 73; (with_reducible refine HC.out.mono ?_); rintro e w2 ⟨v,rfl,s,e,rfl,hR⟩; have HR:=hid hR; have hbl:=HK.out _ _ hR; have hk2:=And.intro (cell_later hbl HS.out.1) (cell_later hbl HS.out.2); clear hR hbl))
 go_wp2_with fail
 go_ret2
 exact ⟨_,rfl,_,_,rfl,HR.out⟩
theorem c16_any (hb:BoxO w bb (ptrO pb)) (hp:BoxO w pb (ptrO xb)) (h0:w.cell? ⟨g,0,none⟩=some (.int .i64 a)) (h1:w.cell? ⟨g,1,none⟩=some (.int .i64 b)) (hc:Calls Tryz.prog 71 #[ptrO xb,.int .i64 a,.int .i64 b] w.drew (RetO fun v w'=>∃ s e,v=.tuple #[.string s,e]∧R v w')) (hk:∀ v W,R v W→Below w.heap.size w W) :
  Calls Tryz.prog 70 #[.slice (some ⟨g,0,none⟩) 2 cap,ptrO bb] w (RetO fun v w'=>∃ s e,v=.tuple #[.string s,e]∧R v w'):=by
 have HC:=hid hc
 have HK:=hid hk
 have HS:=hid (And.intro hb (And.intro hp (And.intro h0 h1)))
 clear hc hk
 go_enter Tryz.func70,Tryz.ntmps70
 go_wp2_with fail
 go_region_held3 (fun W=>W.cell? ⟨bb,0,none⟩=some (ptrO pb)∧W.cell? ⟨pb,0,none⟩=some (ptrO xb)∧W.cell? ⟨g,0,none⟩=some (.int .i64 a)∧W.cell? ⟨g,1,none⟩=some (.int .i64 b)) (first|exact hk2|go_keep) (first|(go_at_call 71; (with_reducible refine HC.out.mono ?_); rintro e w2 ⟨v,rfl,s,e,rfl,hR⟩; have HR:=hid hR; have hbl:=HK.out _ _ hR; have hk2:=And.intro (cell_later hbl HS.out.1) (And.intro (cell_later hbl HS.out.2.1) (And.intro (cell_later hbl HS.out.2.2.1) (cell_later hbl HS.out.2.2.2))); clear hR hbl))
 go_wp2_with fail
 go_ret2
 exact ⟨_,rfl,_,_,rfl,HR.out⟩
end
section
variable {w0 w:World} {C:Nat→Nat} {X:XB} {m pb bb:Nat} {zs:List Int} {V:PX} {A:Nat→Addr} {nv:Value}
theorem c12_any (hb:BoxO w bb (ptrO pb)) (h:WD w0 w C X zs V m) (hE:Held9 w0 A) (hp:BoxO w pb (ptrO X.xb)) (hq:w.cell? ⟨pb,1,none⟩=some (.int .i64 (zs.length:Int))) (hA:AX zs V) :
  Calls Tryz.prog 59 #[nv,ptrO bb] w fun e w'=>e=.returned .nilIface∧Below w.heap.size w w':=by
 have HA:=hid (events_any (h.later (show Below w.heap.size w w.drew from (Below.refl _ w).drew)))
 have HEv:=hid (ax_events hA)
 have HE:=hid (h.held hE)
 have n7:=h.n7
 have hev:=h.inv.ev
 have HS:=hid (And.intro hb (And.intro hp hq))
 obtain ⟨n,Hn⟩:∃ n,Hid (zs.length=n):=⟨_,rfl⟩
 rw [Hn.out] at n7 HEv HS hq
 clear h hE hA
 go_enter Tryz.func59,Tryz.ntmps59
 go_wp2_with fail
 go_region_held3 (fun W=>W.cell? ⟨bb,0,none⟩=some (ptrO pb)∧W.cell? ⟨pb,0,none⟩=some (ptrO X.xb)∧W.cell? ⟨pb,1,none⟩=some (.int .i64 (n:Int))) (first|exact k2|exact k3|go_keep) (first
  | (go_at_call 61; (with_reducible refine HA.out.mono ?_); rintro e w2 ⟨v,rfl,ho,hb2⟩; obtain ⟨ad,cp,rfl,-,-,hel⟩:=own_el ho; have HEl:=hid hel; have hbl:=((Below.refl _ w).drew).trans hb2; have HB2:Hid (Below w.heap.size w w2):=hbl; have k2:=And.intro (cell_later hbl HS.out.1) (And.intro (cell_later hbl HS.out.2.1) (cell_later hbl HS.out.2.2)); have HJ:=hid (jcheck_ok A ad cp V.evs (n:Int) 0 V.evs.length w2 (HE.out.later hbl) (by omega) (by omega) hel (by omega) HEv.out); clear ho hb2 hel hbl)
  | (go_at_call 60; (with_reducible refine HJ.out.mono ?_); rintro e w3 ⟨v,rfl,hf,hb3⟩; have hbl:=below_trans HB2.out hb3; have HB3:=hid hbl; have HF:=hid hf; have k3:=And.intro (cell_later hbl HS.out.1) (And.intro (cell_later hbl HS.out.2.1) (cell_later hbl HS.out.2.2)); clear hb3 hbl hf))
 go_wp2_with fail
 go_ret
 exact ⟨by rw [flt_zero HF.out]; rfl,HB3.out⟩
end
abbrev PSt:=Option (List Int×PX)
def errO:Nat→Bs
 | 1=>[116,104,114,101,101,102,111,108,100,58,32,116,101,120,116]
 | 2=>[116,104,114,101,101,102,111,108,100,58,32,98,111,117,110,100]
 | 3=>[116,104,114,101,101,102,111,108,100,58,32,115,104,97,112,101]
 | 4=>[116,104,114,101,101,102,111,108,100,58,32,110,111,110,101]
 | 5=>[116,104,114,101,101,102,111,108,100,58,32,102,117,108,108]
 | 6=>[116,104,114,101,101,102,111,108,100,58,32,111,102,102]
 | 7=>[116,104,114,101,101,102,111,108,100,58,32,115,117,109]
 | 8=>[116,104,114,101,101,102,111,108,100,58,32,104,101,108,100]
 | 9=>[116,104,114,101,101,102,111,108,100,58,32,115,112,108,105,116]
 | _=>[]
def opP (zs:List Int) (V:PX) (i:Nat) (a b:Int):Nat×PX:=match i with
 | 1=>(cBeg zs.length V a b,if cBeg zs.length V a b=0 then beginX zs V a.toNat b.toNat else V)
 | 2=>(cRef zs.length V a b,if cRef zs.length V a b=0 then refuseX V a.toNat b.toNat else V)
 | 3=>(cUp zs.length V a,if cUp zs.length V a=0 then tickX zs a.toNat 6 0 V else V)
 | 4=>match V.fly[a.toNat]? with|some f=>(0,deliverX zs V a.toNat f)|none=>(4,V)
 | 5=>if a.toNat<V.fly.length then (0,takeX V a.toNat) else (4,V)
 | 6=>match V.fly[a.toNat]? with|some f=>(0,twiceX V a.toNat f)|none=>(4,V)
 | 7=>if a<zs.length∧b<zs.length then (0,linkX V a.toNat b.toNat true) else (2,V)
 | 8=>if a<zs.length∧b<zs.length then (0,linkX V a.toNat b.toNat false) else (2,V)
 | 9=>(cCut zs.length V a b,if 0≤a∧a<zs.length then cutX V a.toNat b else V)
 | 10=>(cUp zs.length V a,if cUp zs.length V a=0 then downX V a.toNat else V)
 | 11=>(cWake zs.length V a,if cWake zs.length V a=0 then upX V a.toNat else V)
 | _=>(0,V)
def tellQ (zs:List Int) (V:PX) (i:Nat) (a b:Int):(Nat×Bs)×PX:=match i with
 | 13=>((0,Lib.decDigits (delN zs 3000 V)),delX zs 3000 V)
 | 14=>((0,Lib.decDigits V.fly.length),V)
 | 15=>(if a<zs.length∧b<6 then (0,stateO (stN (V.nd a.toNat) b.toNat).ph (stN (V.nd a.toNat) b.toNat).pr (stN (V.nd a.toNat) b.toNat).at_) else (2,[]),V)
 | 16=>(if a<zs.length∧b<6 then (0,(leadT (V.nd a.toNat) b.toNat).data.toList) else (2,[]),V)
 | 17=>(if a<zs.length then (0,if upN (V.nd a.toNat)=true then [117,112] else [100,111,119,110]) else (2,[]),V)
 | _=>((0,eventsO V.evs),V)
def resP (st:PSt) (i:Nat) (ns:List Int):(Nat×Bs)×PSt :=
 if i=0 then (if errW ns=0 then ((0,[111,107]),some (ns,newX)) else ((errW ns,[]),st)) else
 match st with
 | none=>((4,[]),none)
 | some (zs,V)=>if i≤12 then (((opP zs V i (ns.getD 0 0) (ns.getD 1 0)).1,[111,107]),some (zs,(opP zs V i (ns.getD 0 0) (ns.getD 1 0)).2)) else ((tellQ zs V i (ns.getD 0 0) (ns.getD 1 0)).1,some (zs,(tellQ zs V i (ns.getD 0 0) (ns.getD 1 0)).2))
def lineP (st:PSt) (ws:List Bs):(Nat×Bs)×PSt:=match cmdO (ws.headD []) with
 | none=>((1,[]),st)
 | some i=>match readO (formO.getD i []) (i == 0) ws.tail with
  | none=>((1,[]),st)
  | some ns=>resP st i ns
def sayO (r:Nat×Bs):Bs:=if r.1=0 then r.2 else errO r.1
def runP:PSt→List (List Bs)→List Bs×PSt
 | st,[]=>([],st)
 | st,ws :: r=>(sayO (lineP st ws).1 :: (runP (lineP st ws).2 r).1,(runP (lineP st ws).2 r).2)
section
variable {zs:List Int} {V:PX} {m i:Nat} {a b:Int}
theorem opP_stp (ha:0≤a) (hb:0≤b):Stp zs V (opP zs V i a b).2:=by
 unfold opP
 split
 ·show Stp zs V (if _ then _ else _)
  split
  ·rename_i hc
   unfold cBeg at hc
   split at hc
   ·rename_i hr
    refine Stp.begin a.toNat b.toNat (by omega) (by omega) ?_
    unfold cBeg
    rw [if_pos (by omega)]
    rw [show ((a.toNat:Int)).toNat=a.toNat by omega,show ((b.toNat:Int)).toNat=b.toNat by omega]
    exact hc
   ·omega
  ·exact Stp.same
 ·show Stp zs V (if _ then _ else _)
  split
  ·rename_i hc
   unfold cRef at hc
   split at hc
   ·rename_i hr
    split at hc
    ·exact Stp.refuse a.toNat b.toNat (by omega) ‹_›
    ·omega
   ·omega
  ·exact Stp.same
 ·show Stp zs V (if _ then _ else _)
  split
  ·rename_i hc
   unfold cUp at hc
   split at hc
   ·rename_i hr
    split at hc
    ·exact Stp.tick a.toNat (by omega) ‹_›
    ·omega
   ·omega
  ·exact Stp.same
 ·split
  ·exact Stp.deliver _ _ ‹_›
  ·exact Stp.same
 ·split
  ·exact Stp.take _
  ·exact Stp.same
 ·split
  ·exact Stp.twice _ _ (List.mem_of_getElem? ‹_›)
  ·exact Stp.same
 ·split
  ·exact Stp.link _ _ _
  ·exact Stp.same
 ·split
  ·exact Stp.link _ _ _
  ·exact Stp.same
 ·show Stp zs V (if _ then _ else _)
  split
  ·exact Stp.cut _ _ (by omega)
  ·exact Stp.same
 ·show Stp zs V (if _ then _ else _)
  split
  ·rename_i hc
   unfold cUp at hc
   split at hc
   ·rename_i hr
    split at hc
    ·exact Stp.down a.toNat (by omega) ‹_›
    ·omega
   ·omega
  ·exact Stp.same
 ·show Stp zs V (if _ then _ else _)
  split
  ·rename_i hc
   unfold cWake at hc
   split at hc
   ·rename_i hr
    split at hc
    ·omega
    ·rename_i hu
     exact Stp.wake a.toNat (by omega) (by simpa using hu)
   ·omega
  ·exact Stp.same
 ·exact Stp.same
theorem delX_ax:∀ (k:Nat) (V:PX) (m:Nat),AX zs V→XI zs V m→m+3 * k<900000→AX zs (delX zs k V)
 | 0,V,m,hA,_,_=>hA
 | k+1,V,m,hA,hX,hm=>by
  unfold delX
  cases hf:V.fly with
  | nil=>exact hA
  | cons f r =>
   have hk:V.fly[0]? = some f:=by rw [hf]; rfl
   exact delX_ax k _ (m+2) ((Stp.deliver 0 f hk).ax hA hX (by omega)).1 (hX.deliver (by omega) (by rw [hf]; exact List.mem_cons_self)) (by omega)
end
section
variable {w0 w w':World} {C:Nat→Nat} {X:XB} {zs:List Int} {V V':PX} {A:Nat→Addr} {k k' pb bb g cap:Nat}
theorem WOut.drewn (h:WOut w0 w.drew w' C X zs V' k) (hk:k≤k'):WOut w0 w w' C X zs V' k':=by
 obtain ⟨C',X',h1,h2,h3,h4⟩:=h
 exact ⟨C',X',h1.mono hk,h2,⟨h3.os,h3.tape,h3.output,h3.size,h3.block⟩,h4⟩
theorem WD.drewn (h:WD w0 w C X zs V k):WD w0 w.drew C X zs V k:=h.later (show Below w.heap.size w w.drew from (Below.refl _ w).drew)
theorem WOut.same (h:WD w0 w C X zs V k) (hk:k≤k'):WOut w0 w w.drew C X zs V k':=⟨C,X,h.drewn.mono hk,rfl,⟨rfl,rfl,rfl,Nat.le_refl _,fun _ _ _=>rfl⟩,fun _ _=>rfl⟩
def OpR (w0 w:World) (C:Nat→Nat) (X:XB) (zs:List Int) (A:Nat→Addr) (r:Nat×PX) (k:Nat) (v:Value) (w':World):Prop:=v=ev A r.1∧WOut w0 w w' C X zs r.2 k
theorem OpR.cell {r:Nat×PX} {v:Value} (h:OpR w0 w C X zs A r k v w') {b o:Nat} {u:Value} (hc:w.cell? ⟨b,o,none⟩=some u) (hb:2000≤C b):w'.cell? ⟨b,o,none⟩=some u:=by
 obtain ⟨-,C',X',-,-,h3,-⟩:=h
 exact cell_kept hc h3 (fun e=>by have h2:C b<2000:=e; omega)
theorem op1_any (a b:Nat) (h:WD w0 w C X zs V k) (hE:Held9 w0 A) (hk:k<800000) (hbb:BoxO w bb (ptrO pb)) (hp:BoxO w pb (ptrO X.xb)) (h0:w.cell? ⟨g,0,none⟩=some (.int .i64 (a:Int))) (h1:w.cell? ⟨g,1,none⟩=some (.int .i64 (b:Int))) (cb:2000≤C bb) (cp:2000≤C pb) (cg:2000≤C g) :
  Calls Tryz.prog 38 #[.slice (some ⟨g,0,none⟩) 2 cap,ptrO bb] w (RetO (OpR w0 w C X zs A (opP zs V 1 (a:Int) (b:Int)) (k+42))):=by
 have hm:Calls Tryz.prog 39 #[ptrO X.xb,.int .i64 (a:Int),.int .i64 (b:Int)] w.drew (RetO (OpR w0 w C X zs A (opP zs V 1 (a:Int) (b:Int)) (k+42))):=by
  exact (begin_any (a:Int) (b:Int) _ h.drewn hE (by omega) rfl).mono fun e w1 ⟨he,ho⟩=>⟨_,he,rfl,ho.drewn (by omega)⟩
 exact c1_any hbb hp h0 h1 hm (fun v W hr=>⟨hr.cell hbb cb,hr.cell hp cp,hr.cell h0 cg,hr.cell h1 cg⟩)
theorem op2_any (a b:Nat) (h:WD w0 w C X zs V k) (hE:Held9 w0 A) (hk:k<800000) (hbb:BoxO w bb (ptrO pb)) (hp:BoxO w pb (ptrO X.xb)) (h0:w.cell? ⟨g,0,none⟩=some (.int .i64 (a:Int))) (h1:w.cell? ⟨g,1,none⟩=some (.int .i64 (b:Int))) (cb:2000≤C bb) (cp:2000≤C pb) (cg:2000≤C g) :
  Calls Tryz.prog 40 #[.slice (some ⟨g,0,none⟩) 2 cap,ptrO bb] w (RetO (OpR w0 w C X zs A (opP zs V 2 (a:Int) (b:Int)) (k+42))):=by
 have hm:Calls Tryz.prog 41 #[ptrO X.xb,.int .i64 (a:Int),.int .i64 (b:Int)] w.drew (RetO (OpR w0 w C X zs A (opP zs V 2 (a:Int) (b:Int)) (k+42))):=by
  exact (refuse_any (a:Int) (b:Int) _ h.drewn hE (by omega) rfl).mono fun e w1 ⟨he,ho⟩=>⟨_,he,rfl,ho.drewn (by omega)⟩
 exact c2_any hbb hp h0 h1 hm (fun v W hr=>⟨hr.cell hbb cb,hr.cell hp cp,hr.cell h0 cg,hr.cell h1 cg⟩)
theorem op3_any (a:Nat) (b:Int) (h:WD w0 w C X zs V k) (hE:Held9 w0 A) (hk:k<800000) (hbb:BoxO w bb (ptrO pb)) (hp:BoxO w pb (ptrO X.xb)) (h0:w.cell? ⟨g,0,none⟩=some (.int .i64 (a:Int))) (cb:2000≤C bb) (cp:2000≤C pb) (cg:2000≤C g) :
  Calls Tryz.prog 42 #[.slice (some ⟨g,0,none⟩) 1 cap,ptrO bb] w (RetO (OpR w0 w C X zs A (opP zs V 3 (a:Int) b) (k+42))):=by
 have hm:Calls Tryz.prog 43 #[ptrO X.xb,.int .i64 (a:Int)] w.drew (RetO (OpR w0 w C X zs A (opP zs V 3 (a:Int) b) (k+42))):=by
  exact (tick_any (a:Int) _ h.drewn hE (by omega) rfl).mono fun e w1 ⟨he,ho⟩=>⟨_,he,rfl,ho.drewn (by omega)⟩
 exact c3_any hbb hp h0 hm (fun v W hr=>⟨hr.cell hbb cb,hr.cell hp cp,hr.cell h0 cg⟩)
theorem op4_any (a:Nat) (b:Int) (h:WD w0 w C X zs V k) (hE:Held9 w0 A) (hk:k<800000) (hbb:BoxO w bb (ptrO pb)) (hp:BoxO w pb (ptrO X.xb)) (h0:w.cell? ⟨g,0,none⟩=some (.int .i64 (a:Int))) (cb:2000≤C bb) (cp:2000≤C pb) (cg:2000≤C g) :
  Calls Tryz.prog 44 #[.slice (some ⟨g,0,none⟩) 1 cap,ptrO bb] w (RetO (OpR w0 w C X zs A (opP zs V 4 (a:Int) b) (k+42))):=by
 have hm:Calls Tryz.prog 45 #[ptrO X.xb,.int .i64 (a:Int)] w.drew (RetO (OpR w0 w C X zs A (opP zs V 4 (a:Int) b) (k+42))):=by
  by_cases hl:a<V.fly.length
  ·have hr:opP zs V 4 (a:Int) b=(0,deliverX zs V a (V.fly[a]'hl)):=by
    show (match V.fly[((a:Int)).toNat]? with|some f=>(0,deliverX zs V ((a:Int)).toNat f)|none=>(4,V))=_
    rw [Int.toNat_natCast,List.getElem?_eq_getElem hl]
   rw [hr]
   exact (deliver_ok a _ h.drewn hE hl rfl (by omega)).mono fun e w1 ⟨he,ho⟩=>⟨_,he,rfl,ho.drewn (by omega)⟩
  ·have hr:opP zs V 4 (a:Int) b=(4,V):=by
    show (match V.fly[((a:Int)).toNat]? with|some f=>(0,deliverX zs V ((a:Int)).toNat f)|none=>(4,V))=_
    rw [Int.toNat_natCast,List.getElem?_eq_none (by omega)]
   rw [hr]
   refine (deliver_no (a:Int) h.drewn hE (by omega)).mono fun e w1 ⟨he,hw⟩=>⟨_,he,rfl,?_⟩
   subst hw
   exact WOut.same h (by omega)
 exact c4_any hbb hp h0 hm (fun v W hr=>⟨hr.cell hbb cb,hr.cell hp cp,hr.cell h0 cg⟩)
theorem op6_any (a:Nat) (b:Int) (h:WD w0 w C X zs V k) (hE:Held9 w0 A) (hk:k<800000) (hbb:BoxO w bb (ptrO pb)) (hp:BoxO w pb (ptrO X.xb)) (h0:w.cell? ⟨g,0,none⟩=some (.int .i64 (a:Int))) (cb:2000≤C bb) (cp:2000≤C pb) (cg:2000≤C g) :
  Calls Tryz.prog 48 #[.slice (some ⟨g,0,none⟩) 1 cap,ptrO bb] w (RetO (OpR w0 w C X zs A (opP zs V 6 (a:Int) b) (k+42))):=by
 have hm:Calls Tryz.prog 49 #[ptrO X.xb,.int .i64 (a:Int)] w.drew (RetO (OpR w0 w C X zs A (opP zs V 6 (a:Int) b) (k+42))):=by
  by_cases hl:a<V.fly.length
  ·have hr:opP zs V 6 (a:Int) b=(0,twiceX V a (V.fly[a]'hl)):=by
    show (match V.fly[((a:Int)).toNat]? with|some f=>(0,twiceX V ((a:Int)).toNat f)|none=>(4,V))=_
    rw [Int.toNat_natCast,List.getElem?_eq_getElem hl]
   rw [hr]
   exact (twice_ok a _ h.drewn hl rfl (by omega)).mono fun e w1 ⟨he,ho⟩=>⟨_,he,rfl,ho.drewn (by omega)⟩
  ·have hr:opP zs V 6 (a:Int) b=(4,V):=by
    show (match V.fly[((a:Int)).toNat]? with|some f=>(0,twiceX V ((a:Int)).toNat f)|none=>(4,V))=_
    rw [Int.toNat_natCast,List.getElem?_eq_none (by omega)]
   rw [hr]
   refine (twice_no (a:Int) h.drewn hE (by omega)).mono fun e w1 ⟨he,hw⟩=>⟨_,he,rfl,?_⟩
   subst hw
   exact WOut.same h (by omega)
 exact c6_any hbb hp h0 hm (fun v W hr=>⟨hr.cell hbb cb,hr.cell hp cp,hr.cell h0 cg⟩)
theorem op5_any (a:Nat) (b:Int) (h:WD w0 w C X zs V k) (hE:Held9 w0 A) (hk:k<800000) (hbb:BoxO w bb (ptrO pb)) (hp:BoxO w pb (ptrO X.xb)) (h0:w.cell? ⟨g,0,none⟩=some (.int .i64 (a:Int))) (cb:2000≤C bb) (cp:2000≤C pb) (cg:2000≤C g) :
  Calls Tryz.prog 46 #[.slice (some ⟨g,0,none⟩) 1 cap,ptrO bb] w (RetO (OpR w0 w C X zs A (opP zs V 5 (a:Int) b) (k+42))):=by
 have hm:Calls Tryz.prog 47 #[ptrO X.xb,.int .i64 (a:Int)] w.drew (RetO (OpR w0 w C X zs A (opP zs V 5 (a:Int) b) (k+42))):=by
  by_cases hl:a<V.fly.length
  ·have hr:opP zs V 5 (a:Int) b=(0,takeX V a):=by
    show (if ((a:Int)).toNat<V.fly.length then (0,takeX V ((a:Int)).toNat) else (4,V))=_
    rw [Int.toNat_natCast,if_pos hl]
   rw [hr]
   exact (drop_ok a h.drewn hl (by omega)).mono fun e w1 ⟨he,ho⟩=>⟨_,he,rfl,ho.drewn (by omega)⟩
  ·have hr:opP zs V 5 (a:Int) b=(4,V):=by
    show (if ((a:Int)).toNat<V.fly.length then (0,takeX V ((a:Int)).toNat) else (4,V))=_
    rw [Int.toNat_natCast,if_neg hl]
   rw [hr]
   refine (drop_no (a:Int) h.drewn hE (by omega)).mono fun e w1 ⟨he,hw⟩=>⟨_,he,rfl,?_⟩
   subst hw
   exact WOut.same h (by omega)
 exact c5_any hbb hp h0 hm (fun v W hr=>⟨hr.cell hbb cb,hr.cell hp cp,hr.cell h0 cg⟩)
theorem op7_any (a b:Nat) (h:WD w0 w C X zs V k) (hE:Held9 w0 A) (hk:k<800000) (hbb:BoxO w bb (ptrO pb)) (hp:BoxO w pb (ptrO X.xb)) (h0:w.cell? ⟨g,0,none⟩=some (.int .i64 (a:Int))) (h1:w.cell? ⟨g,1,none⟩=some (.int .i64 (b:Int))) (cb:2000≤C bb) (cp:2000≤C pb) (cg:2000≤C g) :
  Calls Tryz.prog 50 #[.slice (some ⟨g,0,none⟩) 2 cap,ptrO bb] w (RetO (OpR w0 w C X zs A (opP zs V 7 (a:Int) (b:Int)) (k+42))):=by
 have hm:Calls Tryz.prog 51 #[ptrO X.xb,.int .i64 (a:Int),.int .i64 (b:Int),.bool true] w.drew (RetO (OpR w0 w C X zs A (opP zs V 7 (a:Int) (b:Int)) (k+42))):=by
  by_cases hl:(a:Int)<zs.length∧(b:Int)<zs.length
  ·have hr:opP zs V 7 (a:Int) (b:Int)=(0,linkX V a b true):=by
    show (if (a:Int)<zs.length∧(b:Int)<zs.length then (0,linkX V ((a:Int)).toNat ((b:Int)).toNat true) else (2,V))=_
    rw [if_pos hl,Int.toNat_natCast,Int.toNat_natCast]
   rw [hr]
   exact (link_ok a b true h.drewn (by omega) (by omega) (by omega)).mono fun e w1 ⟨he,ho⟩=>⟨_,he,rfl,ho.drewn (by omega)⟩
  ·have hr:opP zs V 7 (a:Int) (b:Int)=(2,V):=by
    show (if (a:Int)<zs.length∧(b:Int)<zs.length then (0,linkX V ((a:Int)).toNat ((b:Int)).toNat true) else (2,V))=_
    rw [if_neg hl]
   rw [hr]
   refine (link_no (a:Int) (b:Int) true h.drewn hE (by omega)).mono fun e w1 ⟨he,hw⟩=>⟨_,he,rfl,?_⟩
   subst hw
   exact WOut.same h (by omega)
 exact c7_any hbb hp h0 h1 hm (fun v W hr=>⟨hr.cell hbb cb,hr.cell hp cp,hr.cell h0 cg,hr.cell h1 cg⟩)
theorem op8_any (a b:Nat) (h:WD w0 w C X zs V k) (hE:Held9 w0 A) (hk:k<800000) (hbb:BoxO w bb (ptrO pb)) (hp:BoxO w pb (ptrO X.xb)) (h0:w.cell? ⟨g,0,none⟩=some (.int .i64 (a:Int))) (h1:w.cell? ⟨g,1,none⟩=some (.int .i64 (b:Int))) (cb:2000≤C bb) (cp:2000≤C pb) (cg:2000≤C g) :
  Calls Tryz.prog 52 #[.slice (some ⟨g,0,none⟩) 2 cap,ptrO bb] w (RetO (OpR w0 w C X zs A (opP zs V 8 (a:Int) (b:Int)) (k+42))):=by
 have hm:Calls Tryz.prog 51 #[ptrO X.xb,.int .i64 (a:Int),.int .i64 (b:Int),.bool false] w.drew (RetO (OpR w0 w C X zs A (opP zs V 8 (a:Int) (b:Int)) (k+42))):=by
  by_cases hl:(a:Int)<zs.length∧(b:Int)<zs.length
  ·have hr:opP zs V 8 (a:Int) (b:Int)=(0,linkX V a b false):=by
    show (if (a:Int)<zs.length∧(b:Int)<zs.length then (0,linkX V ((a:Int)).toNat ((b:Int)).toNat false) else (2,V))=_
    rw [if_pos hl,Int.toNat_natCast,Int.toNat_natCast]
   rw [hr]
   exact (link_ok a b false h.drewn (by omega) (by omega) (by omega)).mono fun e w1 ⟨he,ho⟩=>⟨_,he,rfl,ho.drewn (by omega)⟩
  ·have hr:opP zs V 8 (a:Int) (b:Int)=(2,V):=by
    show (if (a:Int)<zs.length∧(b:Int)<zs.length then (0,linkX V ((a:Int)).toNat ((b:Int)).toNat false) else (2,V))=_
    rw [if_neg hl]
   rw [hr]
   refine (link_no (a:Int) (b:Int) false h.drewn hE (by omega)).mono fun e w1 ⟨he,hw⟩=>⟨_,he,rfl,?_⟩
   subst hw
   exact WOut.same h (by omega)
 exact c8_any hbb hp h0 h1 hm (fun v W hr=>⟨hr.cell hbb cb,hr.cell hp cp,hr.cell h0 cg,hr.cell h1 cg⟩)
theorem op9_any (a b:Nat) (h:WD w0 w C X zs V k) (hE:Held9 w0 A) (_hk:k<800000) (hbb:BoxO w bb (ptrO pb)) (hp:BoxO w pb (ptrO X.xb)) (h0:w.cell? ⟨g,0,none⟩=some (.int .i64 (a:Int))) (h1:w.cell? ⟨g,1,none⟩=some (.int .i64 (b:Int))) (cb:2000≤C bb) (cp:2000≤C pb) (cg:2000≤C g) (hb9:b<100000) :
  Calls Tryz.prog 53 #[.slice (some ⟨g,0,none⟩) 2 cap,ptrO bb] w (RetO (OpR w0 w C X zs A (opP zs V 9 (a:Int) (b:Int)) (k+42))):=by
 have hm:Calls Tryz.prog 54 #[ptrO X.xb,.int .i64 (a:Int),.int .i64 (b:Int)] w.drew (RetO (OpR w0 w C X zs A (opP zs V 9 (a:Int) (b:Int)) (k+42))):=by
  exact (cut_any (a:Int) (b:Int) _ h.drewn hE (by omega) rfl).mono fun e w1 ⟨he,ho⟩=>⟨_,he,rfl,ho.drewn (by omega)⟩
 exact c9_any hbb hp h0 h1 hm (fun v W hr=>⟨hr.cell hbb cb,hr.cell hp cp,hr.cell h0 cg,hr.cell h1 cg⟩)
theorem op10_any (a:Nat) (b:Int) (h:WD w0 w C X zs V k) (hE:Held9 w0 A) (_hk:k<800000) (hbb:BoxO w bb (ptrO pb)) (hp:BoxO w pb (ptrO X.xb)) (h0:w.cell? ⟨g,0,none⟩=some (.int .i64 (a:Int))) (cb:2000≤C bb) (cp:2000≤C pb) (cg:2000≤C g) :
  Calls Tryz.prog 55 #[.slice (some ⟨g,0,none⟩) 1 cap,ptrO bb] w (RetO (OpR w0 w C X zs A (opP zs V 10 (a:Int) b) (k+42))):=by
 have hm:Calls Tryz.prog 56 #[ptrO X.xb,.int .i64 (a:Int)] w.drew (RetO (OpR w0 w C X zs A (opP zs V 10 (a:Int) b) (k+42))):=by
  exact (down_any (a:Int) _ h.drewn hE rfl).mono fun e w1 ⟨he,ho⟩=>⟨_,he,rfl,ho.drewn (by omega)⟩
 exact c10_any hbb hp h0 hm (fun v W hr=>⟨hr.cell hbb cb,hr.cell hp cp,hr.cell h0 cg⟩)
theorem op11_any (a:Nat) (b:Int) (h:WD w0 w C X zs V k) (hE:Held9 w0 A) (_hk:k<800000) (hbb:BoxO w bb (ptrO pb)) (hp:BoxO w pb (ptrO X.xb)) (h0:w.cell? ⟨g,0,none⟩=some (.int .i64 (a:Int))) (cb:2000≤C bb) (cp:2000≤C pb) (cg:2000≤C g) :
  Calls Tryz.prog 57 #[.slice (some ⟨g,0,none⟩) 1 cap,ptrO bb] w (RetO (OpR w0 w C X zs A (opP zs V 11 (a:Int) b) (k+42))):=by
 have hm:Calls Tryz.prog 58 #[ptrO X.xb,.int .i64 (a:Int)] w.drew (RetO (OpR w0 w C X zs A (opP zs V 11 (a:Int) b) (k+42))):=by
  exact (wake_any (a:Int) _ h.drewn hE rfl).mono fun e w1 ⟨he,ho⟩=>⟨_,he,rfl,ho.drewn (by omega)⟩
 exact c11_any hbb hp h0 hm (fun v W hr=>⟨hr.cell hbb cb,hr.cell hp cp,hr.cell h0 cg⟩)
end
end Go.Proofs.YtaehdgemkafinaaGreatDoor
