/-
  On the way to SPlaysProof: O18 O19 O20.
-/
import Derived.Test.YtaehdgemkafinaaGreatDoorBw36
set_option maxHeartbeats 8000000
set_option maxRecDepth 100000
namespace Go.Proofs.YtaehdgemkafinaaGreatDoor
open Go.RowKit
section
variable {w0 wc w w':World} {mb pb bb i m m':Nat} {vs:Nat→Value} {C:Nat→Nat} {st:PSt} {A:Nat→Addr} {nv:Value} {ns:List Int}
theorem doR_run {zs:List Int} {V:PX} {v:Value} (hi:1≤i∧i≤12) (h:DoR w0 wc w pb C A zs (opP zs V i (ns.getD 0 0) (ns.getD 1 0)) m' v w'):RunR w0 wc w pb C A (resP (some (zs,V)) i ns) m' (.tuple #[.string ⟨#[111,107]⟩,v]) w':=by
 have hr:resP (some (zs,V)) i ns=(((opP zs V i (ns.getD 0 0) (ns.getD 1 0)).1,[111,107]),some (zs,(opP zs V i (ns.getD 0 0) (ns.getD 1 0)).2)):=by
  unfold resP
  rw [if_neg (by omega)]
  simp only
  rw [if_pos hi.2]
 rw [hr]
 exact ⟨_,_,rfl,⟨h.1,fun _=>rfl⟩,h.2⟩
theorem do_run {zs:List Int} {V:PX} (hi:1≤i∧i≤12) (hE:EnvO w0 wc mb pb bb vs A) (h:PlO w0 wc w pb C (some (zs,V)) m) (hn:NumO w C nv ns) (hl:ns.length=(formO.getD i []).length) (hm:m<800000) (hm':m+672≤m') :
  Calls Tryz.prog (fnO i) #[nv,ptrO bb] w (RetO (DoR w0 wc w pb C A zs (opP zs V i (ns.getD 0 0) (ns.getD 1 0)) m')):=by
 have hc:i=1 ∨ i=2 ∨ i=3 ∨ i=4 ∨ i=5 ∨ i=6 ∨ i=7 ∨ i=8 ∨ i=9 ∨ i=10 ∨ i=11 ∨ i=12:=by omega
 rcases hc with rfl|rfl|rfl|rfl|rfl|rfl|rfl|rfl|rfl|rfl|rfl|rfl
 ·exact do1_run hE h hn hl hm hm'
 ·exact do2_run hE h hn hl hm hm'
 ·exact do3_run hE h hn hl hm hm'
 ·exact do4_run hE h hn hl hm hm'
 ·exact do5_run hE h hn hl hm hm'
 ·exact do6_run hE h hn hl hm hm'
 ·exact do7_run hE h hn hl hm hm'
 ·exact do8_run hE h hn hl hm hm'
 ·exact do9_run hE h hn hl hm hm'
 ·exact do10_run hE h hn hl hm hm'
 ·exact do11_run hE h hn hl hm hm'
 ·exact do12_run hE h hm'
theorem tell_run {zs:List Int} {V:PX} (hi:13≤i∧i<19) (hE:EnvO w0 wc mb pb bb vs A) (h:PlO w0 wc w pb C (some (zs,V)) m) (hn:NumO w C nv ns) (hl:ns.length=(formO.getD i []).length) (hm:m<800000) (hm':m+672≤m') :
  Calls Tryz.prog (fnO i) #[nv,ptrO bb] w (RetO (RunR w0 wc w pb C A (resP (some (zs,V)) i ns) m')):=by
 have hc:i=13 ∨ i=14 ∨ i=15 ∨ i=16 ∨ i=17 ∨ i=18:=by omega
 rcases hc with rfl|rfl|rfl|rfl|rfl|rfl
 ·exact tell13_run hE h hm hm'
 ·exact tell14_run hE h hm hm'
 ·exact tell15_run hE h hn hl hm'
 ·exact tell16_run hE h hn hl hm'
 ·exact tell17_run hE h hn hl hm'
 ·exact tell18_run hE h hm'
theorem fnO_enters (hi:1≤i∧i<19):∀ args w,(callFunc (fnO i) args).run Tryz.prog w=.ok (.enter (fnO i) args) w:=by
 have hc:i=1 ∨ i=2 ∨ i=3 ∨ i=4 ∨ i=5 ∨ i=6 ∨ i=7 ∨ i=8 ∨ i=9 ∨ i=10 ∨ i=11 ∨ i=12 ∨ i=13 ∨ i=14 ∨ i=15 ∨ i=16 ∨ i=17 ∨ i=18:=by omega
 rcases hc with rfl|rfl|rfl|rfl|rfl|rfl|rfl|rfl|rfl|rfl|rfl|rfl|rfl|rfl|rfl|rfl|rfl|rfl
 ·exact enters_of Tryz.func38 (by kernel_rfl) rfl
 ·exact enters_of Tryz.func40 (by kernel_rfl) rfl
 ·exact enters_of Tryz.func42 (by kernel_rfl) rfl
 ·exact enters_of Tryz.func44 (by kernel_rfl) rfl
 ·exact enters_of Tryz.func46 (by kernel_rfl) rfl
 ·exact enters_of Tryz.func48 (by kernel_rfl) rfl
 ·exact enters_of Tryz.func50 (by kernel_rfl) rfl
 ·exact enters_of Tryz.func52 (by kernel_rfl) rfl
 ·exact enters_of Tryz.func53 (by kernel_rfl) rfl
 ·exact enters_of Tryz.func55 (by kernel_rfl) rfl
 ·exact enters_of Tryz.func57 (by kernel_rfl) rfl
 ·exact enters_of Tryz.func59 (by kernel_rfl) rfl
 ·exact enters_of Tryz.func63 (by kernel_rfl) rfl
 ·exact enters_of Tryz.func66 (by kernel_rfl) rfl
 ·exact enters_of Tryz.func68 (by kernel_rfl) rfl
 ·exact enters_of Tryz.func70 (by kernel_rfl) rfl
 ·exact enters_of Tryz.func72 (by kernel_rfl) rfl
 ·exact enters_of Tryz.func74 (by kernel_rfl) rfl
theorem run_pair {r:(Nat×Bs)×PSt} {v:Value} (h:RunR w0 wc w pb C A r m' v w'):∃ s e,v=.tuple #[.string s,e]∧RunR w0 wc w pb C A r m' v w':=by
 obtain ⟨s,e,hv,h1,h2⟩:=h
 exact ⟨s,e,hv,s,e,hv,h1,h2⟩
theorem tells_res (hi:1≤i∧i<19) (hE:EnvO w0 wc mb pb bb vs A) (h:PlO w0 wc w pb C st m) (hn:NumO w C nv ns) (hl:ns.length=(formO.getD i []).length) (hm:m<800000) (hm':m+672≤m') {f:Value} (hf:RunO w pb bb i f) :
  ∃ x y,f=.func (.func 128) #[] #[ptrO x,ptrO y]∧Calls Tryz.prog 128 #[nv,ptrO x,ptrO y] w (RetO (RunR w0 wc w pb C A (resP st i ns) m')):=by
 have key:∀ x y,BoxO w x (ptrO pb)→(∀ zs V,st=some (zs,V)→∃ g b,BoxO w y (cloO g b)∧(∀ args w,(callFunc g args).run Tryz.prog w=.ok (.enter g args) w)∧Calls Tryz.prog g #[nv,ptrO b] w (RetO fun v w'=>∃ s e,v=.tuple #[.string s,e]∧RunR w0 wc w pb C A (resP (some (zs,V)) i ns) m' v w'))→Calls Tryz.prog 128 #[nv,ptrO x,ptrO y] w (RetO (RunR w0 wc w pb C A (resP st i ns) m')):=by
  intro x y hx hs
  cases st with
  | none =>
   have hr:resP none i ns=((4,[]),none):=by
    unfold resP
    rw [if_neg (by omega)]
   rw [hr]
   have hE9:=(hE.held.later h.bel).var 3 (by decide)
   have hrow:w.heap[pb]? = some (.cells #[.pointer none,.int .i64 0] 47 (0,0)):=h.st
   exact (tells1_none (A:=A) hE9 hx (cell_of_row _ _ 0 _ _ _ hrow)).mono fun e w1 ⟨he,hb⟩=>⟨_,he,_,_,rfl,⟨rfl,fun q=>by cases q⟩,NextO.of_below h hb (by omega)⟩
  | some p =>
   obtain ⟨zs,V⟩:=p
   obtain ⟨g,b,hy,hg,hc⟩:=hs zs V rfl
   obtain ⟨X,k,hrow,-⟩:=h.st
   exact (tells1_some hg hx (cell_of_row _ _ 0 _ _ _ hrow) hy hc).mono fun e w1 ⟨v,he,s,e',hv,hR⟩=>⟨v,he,hR⟩
 rcases hf with ⟨h0,-⟩|⟨h1,h2,x,y,z,rfl,bx,by_,bz,-⟩|⟨h1,x,y,rfl,bx,by_,-⟩
 ·omega
 ·refine ⟨x,y,rfl,key x y bx fun zs V hst=>?_⟩
  subst hst
  refine ⟨99,z,by_,enters_of Tryz.func99 (by kernel_rfl) rfl,?_⟩
  refine (does1_any (fnO_enters hi) bz (do_run ⟨h1,h2⟩ hE h hn hl hm hm')).mono fun e w1 ⟨v,he,er,hv,hR⟩=>⟨v,he,?_⟩
  subst hv
  exact run_pair (doR_run ⟨h1,h2⟩ hR)
 ·refine ⟨x,y,rfl,key x y bx fun zs V hst=>?_⟩
  subst hst
  refine ⟨fnO i,bb,by_,fnO_enters hi,?_⟩
  exact (tell_run ⟨h1,hi.2⟩ hE h hn hl hm hm').mono fun e w1 ⟨v,he,hR⟩=>⟨v,he,run_pair hR⟩
theorem PlO.cmd (h:PlO w0 wc w pb C st m) (hE:EnvO w0 wc mb pb bb vs A):CmdO w mb pb bb vs:=by
 have hc:=hE.cmd
 refine ⟨?_,h.box hc.box hc.lb,hc.lb,fun i hi=>(hc.ent i hi).stay (fun b v hb hbx=>h.box hbx hb)⟩
 obtain ⟨n,D,⟨es,c,h1,h2,h3,h4⟩,ha⟩:=hc.own
 exact ⟨n,D,⟨es,c,(h.fz mb (row_ltJ h1) (by have:=hE.lm; omega)).trans h1,h2,h3,h4⟩,ha⟩
end
theorem words_pos (s:ByteArray):1≤(wordsB s).length:=by
 have hlen:=Lib.splitB_all blankO (by decide) 0 _ s rfl
 unfold wordsB
 rw [hlen]; omega
theorem splitK_len (sep:Bs):∀ (k:Nat) (s x:Bs),x∈Lib.splitK sep 0 k s→x.length≤s.length
 | 0,s,x,h=>by rw [List.mem_singleton.1 h]; exact Nat.le_refl _
 | k+1,s,x,h=>by
  unfold Lib.splitK at h
  split at h
  ·rw [List.mem_singleton.1 h]; exact Nat.le_refl _
  ·rcases List.mem_cons.1 h with rfl|h
   ·rw [List.length_take]; omega
   ·have:=splitK_len sep k _ x h
    rw [List.length_drop] at this; omega
theorem words_len {s x:ByteArray} (h:x∈wordsB s):x.size≤s.size:=by
 have h1:x.data.toList∈(wordsB s).map (·.data.toList):=List.mem_map.2 ⟨x,h,rfl⟩
 unfold wordsB at h1
 rw [Lib.splitB_data] at h1
 exact splitK_len _ _ _ _ h1
theorem lit_get (w:World) (t:TypeId) (xs:List ByteArray) (i:Nat) (x:ByteArray) (h:xs[i]? = some x):(w.alloc (.cells (xs.map Value.string).toArray t)).cell? ⟨w.heap.size,i,none⟩=some (.string x):=by
 have:=lit_cells w (xs.map Value.string) t i (.string x) (by rw [List.getElem?_map,h]; rfl)
 rw [addr_add,Nat.zero_add] at this
 exact this
section
variable {w0 wc w w':World} {mb pb bb i m m':Nat} {vs:Nat→Value} {C:Nat→Nat} {st:PSt} {A:Nat→Addr}
theorem obey_none (line:ByteArray) (hE:EnvO w0 wc mb pb bb vs A) (h:PlO w0 wc w pb C st m) (hs:line.size≤1000) (hm':m≤m') (hc:cmdO (((wordsB line).map (·.data.toList)).headD [])=none) :
  Calls Tryz.prog 76 #[.map (some mb),.string line] w (RetO (RunR w0 wc w pb C A (lineP st ((wordsB line).map (·.data.toList))) m')):=by
 have hr:lineP st ((wordsB line).map (·.data.toList))=((1,[]),st):=by unfold lineP; rw [hc]
 rw [hr]
 have HS:=hid (split_any line w (by omega))
 obtain ⟨ws,Hws⟩:∃ ws,Hid (wordsB line=ws):=⟨_,rfl⟩
 have hw1:=words_pos line
 have hwl:∀ x,x∈ws→x.size≤line.size:=fun x hx=>words_len (by rw [Hws.out]; exact hx)
 rw [Hws.out] at HS hc hw1
 obtain ⟨x0,r,rfl⟩:∃ x0 r,ws=x0 :: r:=by
  cases ws with
  | nil=>simp at hw1
  | cons x r=>exact ⟨x,r,rfl⟩
 obtain ⟨n,Hn⟩:∃ n,Hid ((x0 :: r).length=n):=⟨_,rfl⟩
 obtain ⟨W1,HW1⟩:∃ W1,Hid (w.alloc (.cells ((x0 :: r).map Value.string).toArray 9)=W1):=⟨_,rfl⟩
 have hb1:Below w.heap.size w W1:=by rw [← HW1.out]; exact (Below.refl _ _).alloc (Nat.le_refl _) _
 have g0:W1.cell? ⟨w.heap.size,0,none⟩=some (.string x0):=by rw [← HW1.out]; exact lit_get w 9 (x0 :: r) 0 x0 rfl
 have HP1:=hid (h.later hb1)
 have hlk:=look_cmd (HP1.out.cmd hE) x0 (by have:=hwl x0 List.mem_cons_self; omega)
 have hc2:cmdO x0.data.toList=none:=hc
 unfold lookO at hlk
 rw [hc2] at hlk
 unfold zeroCmd at hlk
 have HB1:=hid hb1
 have HP:=hid h
 have hET:W1.cell? ⟨1,0,none⟩=some (.iface 318 (.pointer (some (A 0)))):=(hE.held.later HP1.out.bel).var 0 (by decide)
 rw [Hn.out,HW1.out] at HS
 rw [Hn.out] at hw1
 have hn1:(0:Int)<(n:Int):=by omega
 clear hc hwl hb1 hc2 h hE hr
 go_enter Tryz.func76,Tryz.ntmps76
 go_wp2_with fail
 refine HS.out.mono ?_
 rintro e w1 ⟨rfl,hx⟩
 subst w1
 go_wp2_with fail
 obtain ⟨W2,HW2⟩:∃ W2,Hid (W1.alloc (.cells #[.string ⟨#[]⟩,.bool false,.nilFunc] 84)=W2):=⟨_,rfl⟩
 have HB2:Hid (Below w.heap.size w W2):=by rw [← HW2.out]; exact HB1.out.alloc HB1.out.size _
 have hET2:W2.cell? ⟨1,0,none⟩=some (.iface 318 (.pointer (some (A 0)))):=by rw [← HW2.out]; exact cell_alloc _ hET
 rw [HW2.out]
 clear hET
 go_quiet (fail)
 go_wp2_with fail
 go_ret2
 exact ⟨_,rfl,_,_,rfl,⟨rfl,fun q=>by cases q⟩,NextO.of_below HP.out (below_drewN HB2.out _) hm'⟩
theorem form_small (hi:i<19):(formB i).size≤5∧((i == 0)=true→0<(formB i).size):=by
 have:∀ j,j<19→(formB j).size≤5∧((j == 0)=true→0<(formB j).size):=by decide +kernel
 exact this i hi
theorem slice_rest (b n:Nat) (h:1≤n) (hm:n≤1000000) (w:World):(Instr.slice 22 (.slice (some ⟨b,0,none⟩) n n) (some (.int .i64 1)) none none).run Tryz.prog w=.ok (.slice (some ⟨b,if n=1 then 0 else 1,none⟩) (n - 1) (n - 1)) w:=by
 have h1:(1:Int)≤(n:Int):=by omega
 by_cases h2:n=1
 ·subst h2
  rw [if_pos rfl]
  go_simp
 ·rw [if_neg h2]
  go_simp
theorem read_rng {f:Bs} {more:Bool} {ws:List Bs} {ns:List Int} (h:readO f more ws=some ns):ns.length=ws.length∧∀ y,y∈ns→0≤y∧y<100000:=by
 unfold readO at h
 split at h
 ·cases h
 ·exact readWO_small h
theorem read_form {f:Bs} {ws:List Bs} {ns:List Int} (h:readO f false ws=some ns):ns.length=f.length:=by
 have h1:=(read_rng h).1
 unfold readO at h
 split at h
 ·cases h
 ·rename_i hn
  simp only [and_true] at hn
  omega
theorem next_before {st':PSt} {w1:World} (hb:Below w.heap.size w w1) (h:NextO w0 wc w1 w' pb C st' m'):NextO w0 wc w w' pb C st' m':=by
 obtain ⟨C',h1,h2,h3⟩:=h
 refine ⟨C',h1,⟨h2.os.trans hb.os,h2.tape.trans hb.tape,h2.output.trans hb.output,Nat.le_trans hb.size h2.size,fun y hy hn=>(h2.block y (Nat.lt_of_lt_of_le hy hb.size) hn).trans (hb.block y hy)⟩,fun x hx hc=>h3 x (Nat.lt_of_lt_of_le hx hb.size) hc⟩
theorem obey_bad (line:ByteArray) (gg:Nat) (fs cs:Array Value) (hi:i<19) (hE:EnvO w0 wc mb pb bb vs A) (h:PlO w0 wc w pb C st m) (hs:line.size≤1000) (hm':m+672≤m') (hc:cmdO (((wordsB line).map (·.data.toList)).headD [])=some i) (hq:readO (formO.getD i []) (i == 0) (((wordsB line).map (·.data.toList)).tail)=none) (hv:vs i=.agg #[.string (formB i),.bool (i == 0),.func (.func gg) fs cs]) :
  Calls Tryz.prog 76 #[.map (some mb),.string line] w (RetO (RunR w0 wc w pb C A (lineP st ((wordsB line).map (·.data.toList))) m')):=by
 have hr:lineP st ((wordsB line).map (·.data.toList))=((1,[]),st):=by
  unfold lineP
  rw [hc]
  simp only
  rw [hq]
 rw [hr]
 have HS:=hid (split_any line w (by omega))
 obtain ⟨ws,Hws⟩:∃ ws,Hid (wordsB line=ws):=⟨_,rfl⟩
 have hw1:=words_pos line
 have hwn:(wordsB line).length≤1001:=by
  have hle:=Lib.countB_le blankO (by decide) line.size line (Nat.le_refl _)
  have hlen:=Lib.splitB_all blankO (by decide) 0 _ line rfl
  unfold wordsB
  rw [hlen]; omega
 have hwl:∀ x,x∈ws→x.size≤line.size:=fun x hx=>words_len (by rw [Hws.out]; exact hx)
 rw [Hws.out] at HS hc hw1 hwn hq
 obtain ⟨x0,r,rfl⟩:∃ x0 r,ws=x0 :: r:=by
  cases ws with
  | nil=>simp at hw1
  | cons x r=>exact ⟨x,r,rfl⟩
 have hc2:cmdO x0.data.toList=some i:=hc
 have hq2:readO (formO.getD i []) (i == 0) (r.map (·.data.toList))=none:=hq
 obtain ⟨n,Hn⟩:∃ n,Hid ((x0 :: r).length=n):=⟨_,rfl⟩
 have hrl:r.length=n - 1:=by have:=Hn.out; simp at this; omega
 obtain ⟨W1,HW1⟩:∃ W1,Hid (w.alloc (.cells ((x0 :: r).map Value.string).toArray 9)=W1):=⟨_,rfl⟩
 have hb1:Below w.heap.size w W1:=by rw [← HW1.out]; exact (Below.refl _ _).alloc (Nat.le_refl _) _
 have g0:W1.cell? ⟨w.heap.size,0,none⟩=some (.string x0):=by rw [← HW1.out]; exact lit_get w 9 (x0 :: r) 0 x0 rfl
 have HG:Hid (∀ j x,r[j]? = some x→W1.cell? ⟨w.heap.size,1+j,none⟩=some (.string x)):=fun j x hj=>by rw [← HW1.out,Nat.add_comm]; exact lit_get w 9 (x0 :: r) (j+1) x hj
 have HP1:=hid (h.later hb1)
 have hlk:=look_cmd (HP1.out.cmd hE) x0 (by have:=hwl x0 List.mem_cons_self; omega)
 unfold lookO at hlk
 rw [hc2] at hlk
 simp only [hv] at hlk
 have HB1:=hid hb1
 have HP:=hid h
 have HE:=hid hE
 rw [Hn.out] at hw1 hwn
 have hn1:(0:Int)<(n:Int):=by omega
 have hsl:=slice_rest w.heap.size n hw1 (by omega)
 rw [Hn.out,HW1.out] at HS
 obtain ⟨W2,HW2⟩:∃ W2,Hid (W1.alloc (.cells #[.string (formB i),.bool (i == 0),.func (.func gg) fs cs] 84)=W2):=⟨_,rfl⟩
 have hr2:=heap_alloc_new W1 (.cells #[.string (formB i),.bool (i == 0),.func (.func gg) fs cs] 84)
 have hb12:Below W1.heap.size W1 (W1.alloc (.cells #[.string (formB i),.bool (i == 0),.func (.func gg) fs cs] 84)):=(Below.refl _ _).alloc (Nat.le_refl _) _
 rw [HW2.out] at hr2 hb12
 have HB12:=hid hb12
 have HP2:=hid (HP1.out.later hb12)
 obtain ⟨o,Ho⟩:∃ o:Nat,Hid ((if n=1 then 0 else 1)=o):=⟨_,rfl⟩
 have hfs:(formB i).size≤5∧((i == 0)=true→0<(formB i).size):=form_small hi
 have hrd:=read_any (formB i) (i == 0) (.func (.func gg) fs cs) w.heap.size o (n - 1) r W2.drew hfs.1 hfs.2 (by omega) (fun j x hj=>by
  have h1:j<r.length:=by
   rcases Nat.lt_or_ge j r.length with q|q
   ·exact q
   ·rw [List.getElem?_eq_none q] at hj; cases hj
  rw [← Ho.out,if_neg (by omega)]
  have h2:=cell_later HB12.out (HG.out j x hj)
  exact h2)
 have hfd:(formB i).data.toList=formO.getD i []:=rfl
 rw [hfd,hrl,hq2] at hrd
 have HRd:=hid hrd
 rw [Ho.out] at hsl
 have d0:=cell_of_row _ _ 0 _ _ _ hr2
 have d1:=cell_of_row _ _ 1 _ _ _ hr2
 have d2:=cell_of_row _ _ 2 _ _ _ hr2
 have HD:=hid (And.intro d0 (And.intro d1 d2))
 have HC2:=hid hc2
 have HQ2:=hid hq2
 clear hc hwl hb1 hc2 h hE hrd hfs hb12 hrl hfd hr2 hr hq hq2
 go_enter Tryz.func76,Tryz.ntmps76
 go_wp2_with fail
 refine HS.out.mono ?_
 rintro e w1 ⟨rfl,hx⟩
 subst w1
 go_wp2_with fail
 rw [HW2.out]
 go_region_held3 (fun W=>W.cell? ⟨W1.heap.size,0,none⟩=some (.string (formB i))∧W.cell? ⟨W1.heap.size,1,none⟩=some (.bool (i == 0))∧W.cell? ⟨W1.heap.size,2,none⟩=some (.func (.func gg) fs cs)) (first|exact k3|go_keep) (first
  | (go_at_call 136; (with_reducible refine HRd.out.mono ?_); rintro e w3 ⟨v3,rfl,hro,hb3⟩; have hv3:v3=.tuple #[.slice none 0 0,.bool false]:=hro; subst hv3; have hbl:=below_of_drew hb3; have HB3:=hid hbl; have k3:=And.intro (cell_later hbl HD.out.1) (And.intro (cell_later hbl HD.out.2.1) (cell_later hbl HD.out.2.2)); clear hro hb3 hbl))
 have HP3:=hid (HP2.out.later HB3.out)
 have HBa:=hid (below_trans HB1.out (below_trans HB12.out HB3.out))
 have hET:w3.cell? ⟨1,0,none⟩=some (.iface 318 (.pointer (some (A 0)))):=(HE.out.held.later HP3.out.bel).var 0 (by decide)
 go_wp2_with fail
 go_quiet (fail)
 go_wp2_with fail
 go_ret2
 exact ⟨_,rfl,_,_,rfl,⟨rfl,fun q=>by cases q⟩,NextO.of_below HP.out (below_drewN HBa.out _) (by omega)⟩
theorem obey_open (line:ByteArray) (ns:List Int) (hE:EnvO w0 wc mb pb bb vs A) (h:PlO w0 wc w pb C st m) (hs:line.size≤1000) (hm':m+672≤m') (hc:cmdO (((wordsB line).map (·.data.toList)).headD [])=some 0) (hq:readO (formO.getD 0 []) true (((wordsB line).map (·.data.toList)).tail)=some ns) (hv:vs 0=.agg #[.string (formB 0),.bool true,.func (.func 36) #[ptrO pb] #[]]) :
  Calls Tryz.prog 76 #[.map (some mb),.string line] w (RetO (RunR w0 wc w pb C A (lineP st ((wordsB line).map (·.data.toList))) m')):=by
 have hr:lineP st ((wordsB line).map (·.data.toList))=resP st 0 ns:=by
  unfold lineP
  rw [hc]
  simp only
  rw [show ((0:Nat) == 0)=true from rfl,hq]
 rw [hr]
 have HS:=hid (split_any line w (by omega))
 obtain ⟨ws,Hws⟩:∃ ws,Hid (wordsB line=ws):=⟨_,rfl⟩
 have hw1:=words_pos line
 have hwn:(wordsB line).length≤1001:=by
  have hle:=Lib.countB_le blankO (by decide) line.size line (Nat.le_refl _)
  have hlen:=Lib.splitB_all blankO (by decide) 0 _ line rfl
  unfold wordsB
  rw [hlen]; omega
 have hwl:∀ x,x∈ws→x.size≤line.size:=fun x hx=>words_len (by rw [Hws.out]; exact hx)
 rw [Hws.out] at HS hc hw1 hwn hq
 obtain ⟨x0,r,rfl⟩:∃ x0 r,ws=x0 :: r:=by
  cases ws with
  | nil=>simp at hw1
  | cons x r=>exact ⟨x,r,rfl⟩
 have hc2:cmdO x0.data.toList=some 0:=hc
 have hq2:readO (formO.getD 0 []) true (r.map (·.data.toList))=some ns:=hq
 obtain ⟨n,Hn⟩:∃ n,Hid ((x0 :: r).length=n):=⟨_,rfl⟩
 have hrl:r.length=n - 1:=by have:=Hn.out; simp at this; omega
 obtain ⟨W1,HW1⟩:∃ W1,Hid (w.alloc (.cells ((x0 :: r).map Value.string).toArray 9)=W1):=⟨_,rfl⟩
 have hb1:Below w.heap.size w W1:=by rw [← HW1.out]; exact (Below.refl _ _).alloc (Nat.le_refl _) _
 have g0:W1.cell? ⟨w.heap.size,0,none⟩=some (.string x0):=by rw [← HW1.out]; exact lit_get w 9 (x0 :: r) 0 x0 rfl
 have HG:Hid (∀ j x,r[j]? = some x→W1.cell? ⟨w.heap.size,1+j,none⟩=some (.string x)):=fun j x hj=>by rw [← HW1.out,Nat.add_comm]; exact lit_get w 9 (x0 :: r) (j+1) x hj
 have HP1:=hid (h.later hb1)
 have hlk:=look_cmd (HP1.out.cmd hE) x0 (by have:=hwl x0 List.mem_cons_self; omega)
 unfold lookO at hlk
 rw [hc2] at hlk
 simp only [hv] at hlk
 have HB1:=hid hb1
 have HP:=hid h
 have HE:=hid hE
 rw [Hn.out] at hw1 hwn
 have hn1:(0:Int)<(n:Int):=by omega
 have hsl:=slice_rest w.heap.size n hw1 (by omega)
 rw [Hn.out,HW1.out] at HS
 obtain ⟨W2,HW2⟩:∃ W2,Hid (W1.alloc (.cells #[.string (formB 0),.bool true,.func (.func 36) #[ptrO pb] #[]] 84)=W2):=⟨_,rfl⟩
 have hr2:=heap_alloc_new W1 (.cells #[.string (formB 0),.bool true,.func (.func 36) #[ptrO pb] #[]] 84)
 have hb12:Below W1.heap.size W1 (W1.alloc (.cells #[.string (formB 0),.bool true,.func (.func 36) #[ptrO pb] #[]] 84)):=(Below.refl _ _).alloc (Nat.le_refl _) _
 rw [HW2.out] at hr2 hb12
 have HB12:=hid hb12
 have HP2:=hid (HP1.out.later hb12)
 obtain ⟨o,Ho⟩:∃ o:Nat,Hid ((if n=1 then 0 else 1)=o):=⟨_,rfl⟩
 have hfs:(formB 0).size≤5∧(true=true→0<(formB 0).size):=by decide
 have hrd:=read_any (formB 0) true (.func (.func 36) #[ptrO pb] #[]) w.heap.size o (n - 1) r W2.drew hfs.1 hfs.2 (by omega) (fun j x hj=>by
  have h1:j<r.length:=by
   rcases Nat.lt_or_ge j r.length with q|q
   ·exact q
   ·rw [List.getElem?_eq_none q] at hj; cases hj
  rw [← Ho.out,if_neg (by omega)]
  have h2:=cell_later HB12.out (HG.out j x hj)
  exact h2)
 have hfd:(formB 0).data.toList=formO.getD 0 []:=rfl
 rw [hfd,hrl,hq2] at hrd
 have HRd:=hid hrd
 rw [Ho.out] at hsl
 have d0:=cell_of_row _ _ 0 _ _ _ hr2
 have d1:=cell_of_row _ _ 1 _ _ _ hr2
 have d2:=cell_of_row _ _ 2 _ _ _ hr2
 have HD:=hid (And.intro d0 (And.intro d1 d2))
 have HC2:=hid hc2
 have HQ2:=hid hq2
 clear hc hwl hb1 hc2 h hE hrd hfs hb12 hrl hfd hr2 hr hq hq2
 go_enter Tryz.func76,Tryz.ntmps76
 go_wp2_with fail
 refine HS.out.mono ?_
 rintro e w1 ⟨rfl,hx⟩
 subst w1
 go_wp2_with fail
 rw [HW2.out]
 go_region_held3 (fun W=>W.cell? ⟨W1.heap.size,0,none⟩=some (.string (formB 0))∧W.cell? ⟨W1.heap.size,1,none⟩=some (.bool true)∧W.cell? ⟨W1.heap.size,2,none⟩=some (.func (.func 36) #[ptrO pb] #[])) (first|exact k3|go_keep) (first
  | (go_at_call 136; (with_reducible refine HRd.out.mono ?_); rintro e w3 ⟨v3,rfl,hro,hb3⟩; obtain ⟨u3,hv3,ho3⟩:=hro; subst hv3; have HO3:=hid ho3; clear ho3; have hbl:=below_of_drew hb3; have HB3:=hid hbl; have k3:=And.intro (cell_later hbl HD.out.1) (And.intro (cell_later hbl HD.out.2.1) (cell_later hbl HD.out.2.2)); clear hb3 hbl))
 have HP3:=hid (HP2.out.later HB3.out)
 have HBa:=hid (below_trans HB1.out (below_trans HB12.out HB3.out))
 have HNum:Hid (NumO w3 C u3 ns):=⟨⟨_,HO3.out⟩,fun g hg=>by
  have h1:=(HO3.out.lt g hg).1
  rcases Nat.lt_or_ge (C g) 2000 with q|q
  ·have h2:=HP2.out.top g q
   have h3:W2.heap.size≤g:=h1
   omega
  ·exact q,(read_rng HQ2.out).2⟩
 have HSl:Hid (IsSl w3 u3 ns):=IsSl.owned HO3.out (by have:=(read_rng HQ2.out).1; rw [List.length_map] at this; have:=Hn.out; simp at this; unfold maxLen; omega)
 have HRun:=hid (open_any u3 ns HP3.out HE.out.held HSl.out (show m≤m' by omega))
 go_wp2_with fail
 refine HRun.out.mono ?_
 rintro e w4 ⟨v4,rfl,hR⟩
 obtain ⟨s4,e4,hv4,he4,hn4⟩:=hR
 subst hv4
 have HX:=hid (And.intro he4 (next_before HBa.out hn4))
 clear he4 hn4
 go_wp2_with fail
 go_ret2
 exact ⟨_,rfl,_,_,rfl,HX.out⟩
theorem obey_tells (line:ByteArray) (ns:List Int) (x y:Nat) (hrun:∀ w3 u3,PlO w0 wc w3 pb C st m→NumO w3 C u3 ns→Calls Tryz.prog 128 #[u3,ptrO x,ptrO y] w3 (RetO (RunR w0 wc w3 pb C A (resP st i ns) m'))) (hi:i<19) (hE:EnvO w0 wc mb pb bb vs A) (h:PlO w0 wc w pb C st m) (hs:line.size≤1000) (_hm':m+672≤m') (hc:cmdO (((wordsB line).map (·.data.toList)).headD [])=some i) (hq:readO (formO.getD i []) (i == 0) (((wordsB line).map (·.data.toList)).tail)=some ns) (hv:vs i=.agg #[.string (formB i),.bool (i == 0),.func (.func 128) #[] #[ptrO x,ptrO y]]) :
  Calls Tryz.prog 76 #[.map (some mb),.string line] w (RetO (RunR w0 wc w pb C A (lineP st ((wordsB line).map (·.data.toList))) m')):=by
 have hr:lineP st ((wordsB line).map (·.data.toList))=resP st i ns:=by
  unfold lineP
  rw [hc]
  simp only
  rw [hq]
 rw [hr]
 have HS:=hid (split_any line w (by omega))
 obtain ⟨ws,Hws⟩:∃ ws,Hid (wordsB line=ws):=⟨_,rfl⟩
 have hw1:=words_pos line
 have hwn:(wordsB line).length≤1001:=by
  have hle:=Lib.countB_le blankO (by decide) line.size line (Nat.le_refl _)
  have hlen:=Lib.splitB_all blankO (by decide) 0 _ line rfl
  unfold wordsB
  rw [hlen]; omega
 have hwl:∀ x,x∈ws→x.size≤line.size:=fun x hx=>words_len (by rw [Hws.out]; exact hx)
 rw [Hws.out] at HS hc hw1 hwn hq
 obtain ⟨x0,r,rfl⟩:∃ x0 r,ws=x0 :: r:=by
  cases ws with
  | nil=>simp at hw1
  | cons x r=>exact ⟨x,r,rfl⟩
 have hc2:cmdO x0.data.toList=some i:=hc
 have hq2:readO (formO.getD i []) (i == 0) (r.map (·.data.toList))=some ns:=hq
 obtain ⟨n,Hn⟩:∃ n,Hid ((x0 :: r).length=n):=⟨_,rfl⟩
 have hrl:r.length=n - 1:=by have:=Hn.out; simp at this; omega
 obtain ⟨W1,HW1⟩:∃ W1,Hid (w.alloc (.cells ((x0 :: r).map Value.string).toArray 9)=W1):=⟨_,rfl⟩
 have hb1:Below w.heap.size w W1:=by rw [← HW1.out]; exact (Below.refl _ _).alloc (Nat.le_refl _) _
 have g0:W1.cell? ⟨w.heap.size,0,none⟩=some (.string x0):=by rw [← HW1.out]; exact lit_get w 9 (x0 :: r) 0 x0 rfl
 have HG:Hid (∀ j x,r[j]? = some x→W1.cell? ⟨w.heap.size,1+j,none⟩=some (.string x)):=fun j x hj=>by rw [← HW1.out,Nat.add_comm]; exact lit_get w 9 (x0 :: r) (j+1) x hj
 have HP1:=hid (h.later hb1)
 have hlk:=look_cmd (HP1.out.cmd hE) x0 (by have:=hwl x0 List.mem_cons_self; omega)
 unfold lookO at hlk
 rw [hc2] at hlk
 simp only [hv] at hlk
 have HB1:=hid hb1
 have HP:=hid h
 have HE:=hid hE
 have HRunO:=hid hrun
 rw [Hn.out] at hw1 hwn
 have hn1:(0:Int)<(n:Int):=by omega
 have hsl:=slice_rest w.heap.size n hw1 (by omega)
 rw [Hn.out,HW1.out] at HS
 obtain ⟨W2,HW2⟩:∃ W2,Hid (W1.alloc (.cells #[.string (formB i),.bool (i == 0),.func (.func 128) #[] #[ptrO x,ptrO y]] 84)=W2):=⟨_,rfl⟩
 have hr2:=heap_alloc_new W1 (.cells #[.string (formB i),.bool (i == 0),.func (.func 128) #[] #[ptrO x,ptrO y]] 84)
 have hb12:Below W1.heap.size W1 (W1.alloc (.cells #[.string (formB i),.bool (i == 0),.func (.func 128) #[] #[ptrO x,ptrO y]] 84)):=(Below.refl _ _).alloc (Nat.le_refl _) _
 rw [HW2.out] at hr2 hb12
 have HB12:=hid hb12
 have HP2:=hid (HP1.out.later hb12)
 obtain ⟨o,Ho⟩:∃ o:Nat,Hid ((if n=1 then 0 else 1)=o):=⟨_,rfl⟩
 have hfs:(formB i).size≤5∧((i == 0)=true→0<(formB i).size):=form_small hi
 have hrd:=read_any (formB i) (i == 0) (.func (.func 128) #[] #[ptrO x,ptrO y]) w.heap.size o (n - 1) r W2.drew hfs.1 hfs.2 (by omega) (fun j x hj=>by
  have h1:j<r.length:=by
   rcases Nat.lt_or_ge j r.length with q|q
   ·exact q
   ·rw [List.getElem?_eq_none q] at hj; cases hj
  rw [← Ho.out,if_neg (by omega)]
  have h2:=cell_later HB12.out (HG.out j x hj)
  exact h2)
 have hfd:(formB i).data.toList=formO.getD i []:=rfl
 rw [hfd,hrl,hq2] at hrd
 have HRd:=hid hrd
 rw [Ho.out] at hsl
 have d0:=cell_of_row _ _ 0 _ _ _ hr2
 have d1:=cell_of_row _ _ 1 _ _ _ hr2
 have d2:=cell_of_row _ _ 2 _ _ _ hr2
 have HD:=hid (And.intro d0 (And.intro d1 d2))
 have HC2:=hid hc2
 have HQ2:=hid hq2
 clear hrun hc hwl hb1 hc2 h hE hrd hfs hb12 hrl hfd hr2 hr hq hq2
 go_enter Tryz.func76,Tryz.ntmps76
 go_wp2_with fail
 refine HS.out.mono ?_
 rintro e w1 ⟨rfl,hx⟩
 subst w1
 go_wp2_with fail
 rw [HW2.out]
 go_region_held3 (fun W=>W.cell? ⟨W1.heap.size,0,none⟩=some (.string (formB i))∧W.cell? ⟨W1.heap.size,1,none⟩=some (.bool (i == 0))∧W.cell? ⟨W1.heap.size,2,none⟩=some (.func (.func 128) #[] #[ptrO x,ptrO y])) (first|exact k3|go_keep) (first
  | (go_at_call 136; (with_reducible refine HRd.out.mono ?_); rintro e w3 ⟨v3,rfl,hro,hb3⟩; obtain ⟨u3,hv3,ho3⟩:=hro; subst hv3; have HO3:=hid ho3; clear ho3; have hbl:=below_of_drew hb3; have HB3:=hid hbl; have k3:=And.intro (cell_later hbl HD.out.1) (And.intro (cell_later hbl HD.out.2.1) (cell_later hbl HD.out.2.2)); clear hb3 hbl))
 have HP3:=hid (HP2.out.later HB3.out)
 have HBa:=hid (below_trans HB1.out (below_trans HB12.out HB3.out))
 have HNum:Hid (NumO w3 C u3 ns):=⟨⟨_,HO3.out⟩,fun g hg=>by
  have h1:=(HO3.out.lt g hg).1
  rcases Nat.lt_or_ge (C g) 2000 with q|q
  ·have h2:=HP2.out.top g q
   have h3:W2.heap.size≤g:=h1
   omega
  ·exact q,(read_rng HQ2.out).2⟩
 have HRun:=hid (HRunO.out w3 u3 HP3.out HNum.out)
 go_wp2_with fail
 refine HRun.out.mono ?_
 rintro e w4 ⟨v4,rfl,hR⟩
 obtain ⟨s4,e4,hv4,he4,hn4⟩:=hR
 subst hv4
 have HX:=hid (And.intro he4 (next_before HBa.out hn4))
 clear he4 hn4
 go_wp2_with fail
 go_ret2
 exact ⟨_,rfl,_,_,rfl,HX.out⟩
theorem func2_inj {f g:Fn} {a b c d:Value} (h:Value.func f #[] #[a,b]=Value.func g #[] #[c,d]):a=c∧b=d:=by
 injection h with _ _ h
 simpa using h
theorem agg3_inj {a b c a' b' c':Value} (h:Value.agg #[a,b,c]=Value.agg #[a',b',c']):c=c':=by
 injection h with h
 simp at h
 exact h.2.2
theorem obey_any (line:ByteArray) (hE:EnvO w0 wc mb pb bb vs A) (h:PlO w0 wc w pb C st m) (hs:line.size≤1000) (hm:m<800000) (hm':m+672≤m') :
  Calls Tryz.prog 76 #[.map (some mb),.string line] w (RetO (RunR w0 wc w pb C A (lineP st ((wordsB line).map (·.data.toList))) m')):=by
 cases hc:cmdO (((wordsB line).map (·.data.toList)).headD []) with
 | none=>exact obey_none line hE h hs (by omega) hc
 | some i =>
  have hi:=(cmdO_lt hc).1
  obtain ⟨f,hv,hr⟩:=hE.cmd.ent i hi
  cases hq:readO (formO.getD i []) (i == 0) (((wordsB line).map (·.data.toList)).tail) with
  | none =>
   rcases hr with ⟨-,rfl⟩|⟨-,-,x,y,z,rfl,-⟩|⟨-,x,y,rfl,-⟩
   ·exact obey_bad line _ _ _ hi hE h hs hm' hc hq hv
   ·exact obey_bad line _ _ _ hi hE h hs hm' hc hq hv
   ·exact obey_bad line _ _ _ hi hE h hs hm' hc hq hv
  | some ns =>
   by_cases i0:i=0
   ·subst i0
    rcases hr with ⟨-,rfl⟩|⟨h1,-⟩|⟨h1,-⟩
    ·exact obey_open line ns hE h hs hm' hc hq hv
    ·omega
    ·omega
   ·have hi0:(i == 0)=false:=by simp; omega
    have hlen:ns.length=(formO.getD i []).length:=read_form (by rw [hi0] at hq; exact hq)
    have key:∀ x y,f=.func (.func 128) #[] #[ptrO x,ptrO y]→∀ w3 u3,PlO w0 wc w3 pb C st m→NumO w3 C u3 ns→Calls Tryz.prog 128 #[u3,ptrO x,ptrO y] w3 (RetO (RunR w0 wc w3 pb C A (resP st i ns) m')):=by
     intro x y hf w3 u3 hp hn
     obtain ⟨f',hf',hr'⟩:=(show EntO wc pb bb i (vs i) from hE.cmd.ent i hi).stay (w':=w3) (fun b v hb hbx=>hp.box hbx hb)
     rw [hv] at hf'
     have e1:=agg3_inj hf'
     rw [← e1] at hr'
     obtain ⟨x',y',hxy,hres⟩:=tells_res ⟨by omega,hi⟩ hE hp hn hlen hm hm' hr'
     rw [hf] at hxy
     have e4:=func2_inj hxy
     rw [e4.1,e4.2]
     exact hres
    rcases hr with ⟨h0,-⟩|⟨-,-,x,y,z,rfl,-⟩|⟨-,x,y,rfl,-⟩
    ·exact absurd h0 i0
    ·exact obey_tells line ns x y (key x y rfl) hi hE h hs hm' hc hq hv
    ·exact obey_tells line ns x y (key x y rfl) hi hE h hs hm' hc hq hv
end
def TxtO (w:World) (A:Nat→Addr):Prop:=∀ c,c<9∧c≠6→w.cell? (A c)=some (.string (bB (errO (c+1))))
def CodO (c:Nat):Prop:=c≤9∧c≠7
theorem cod0 {c:Nat} (h:c=0 ∨ c=1 ∨ c=4):CodO c:=by unfold CodO; omega
theorem cod_errW (ns:List Int):CodO (errW ns):=by
 unfold CodO errW
 repeat' split
 all_goals omega
theorem cod_op (zs:List Int) (V:PX) (i:Nat) (a b:Int):CodO (opP zs V i a b).1:=by
 unfold CodO opP
 split
 ·show cBeg zs.length V a b≤9∧cBeg zs.length V a b≠7
  unfold cBeg
  repeat' split
  all_goals omega
 ·show cRef zs.length V a b≤9∧cRef zs.length V a b≠7
  unfold cRef
  repeat' split
  all_goals omega
 ·show cUp zs.length V a≤9∧cUp zs.length V a≠7
  unfold cUp
  repeat' split
  all_goals omega
 ·split <;> simp
 ·split <;> simp
 ·split <;> simp
 ·split <;> simp
 ·split <;> simp
 ·show cCut zs.length V a b≤9∧cCut zs.length V a b≠7
  unfold cCut cC
  repeat' split
  all_goals omega
 ·show cUp zs.length V a≤9∧cUp zs.length V a≠7
  unfold cUp
  repeat' split
  all_goals omega
 ·show cWake zs.length V a≤9∧cWake zs.length V a≠7
  unfold cWake
  repeat' split
  all_goals omega
 ·simp
theorem cod_tell (zs:List Int) (V:PX) (i:Nat) (a b:Int):CodO (tellQ zs V i a b).1.1:=by
 unfold CodO tellQ
 split
 ·simp
 ·simp
 ·show (if _ then _ else _:Nat×Bs).1≤9∧(if _ then _ else _:Nat×Bs).1≠7
  split <;> simp
 ·show (if _ then _ else _:Nat×Bs).1≤9∧(if _ then _ else _:Nat×Bs).1≠7
  split <;> simp
 ·show (if _ then _ else _:Nat×Bs).1≤9∧(if _ then _ else _:Nat×Bs).1≠7
  split <;> simp
 ·simp
theorem cod_res (st:PSt) (i:Nat) (ns:List Int):CodO (resP st i ns).1.1:=by
 unfold resP
 split
 ·split
  ·exact cod0 (.inl rfl)
  ·exact cod_errW ns
 ·split
  ·exact cod0 (.inr (.inr rfl))
  ·split
   ·exact cod_op _ _ _ _ _
   ·exact cod_tell _ _ _ _ _
theorem cod_line (st:PSt) (ws:List Bs):CodO (lineP st ws).1.1:=by
 unfold lineP
 split
 ·exact cod0 (.inr (.inl rfl))
 ·split
  ·exact cod0 (.inr (.inl rfl))
  ·exact cod_res _ _ _
theorem methodError (v:Value) (w:World):(Go.method 448 318 v "Error").run Tryz.prog w=.ok (304,v) w:=by kernel_rfl
theorem errText_is (a:Addr) (s:ByteArray) (w:World) (h:w.cell? a=some (.string s)):Calls Tryz.prog 304 #[.pointer (some a)] w fun e w'=>e=.returned (.string s)∧w'=w:=by
 go_enter Tryz.func304,Tryz.ntmps304
 go_wp2_with fail
 go_ret
 exact ⟨rfl,rfl⟩
section
variable {w0 wc w w':World} {mb pb bb m m':Nat} {vs:Nat→Value} {C:Nat→Nat} {st:PSt} {A:Nat→Addr}
theorem answer_sc (line:ByteArray) (hE:EnvO w0 wc mb pb bb vs A) (hX:TxtO w0 A) (h:PlO w0 wc w pb C st m) (hs:line.size≤1000) (hm:m<800000) (hm':m+672≤m') :
  Calls Tryz.prog 18 #[.map (some mb),.string line] w fun e w'=>e=.returned (.string (bB (sayO (lineP st ((wordsB line).map (·.data.toList))).1)))∧NextO w0 wc w w' pb C (lineP st ((wordsB line).map (·.data.toList))).2 m':=by
 have HO:=hid (obey_any line hE h hs hm hm')
 have HX:=hid hX
 have hcd:=cod_line st ((wordsB line).map (·.data.toList))
 obtain ⟨r,Hr⟩:∃ r,Hid (lineP st ((wordsB line).map (·.data.toList))=r):=⟨_,rfl⟩
 rw [Hr.out] at HO hcd ⊢
 clear hE hX h
 obtain ⟨⟨c,t⟩,st'⟩:=r
 cases c with
 | zero =>
  go_enter Tryz.func18,Tryz.ntmps18
  go_wp2_with fail
  refine HO.out.mono ?_
  rintro e w1 ⟨v,rfl,s,e,rfl,⟨he,ht⟩,hn⟩
  have ht2:=ht rfl
  subst ht2
  have he2:e=.nilIface:=he
  subst he2
  have HN:=hid hn
  clear hn ht he
  go_wp2_with fail
  go_ret
  exact ⟨rfl,HN.out⟩
 | succ c =>
  have hc9:c<9∧c≠6:=by unfold CodO at hcd; simp at hcd; omega
  go_enter Tryz.func18,Tryz.ntmps18
  go_wp2_with fail
  refine HO.out.mono ?_
  rintro e w1 ⟨v,rfl,s,e,rfl,⟨he,ht⟩,hn⟩
  have he2:e=.iface 318 (.pointer (some (A c))):=he
  subst he2
  have hcell:w1.cell? (A c)=some (.string (bB (errO (c+1)))):=by
   obtain ⟨C',hp,-,-⟩:=hn
   exact cell_later hp.bel (HX.out c hc9)
  have HN:=hid hn
  have hme:=methodError
  have HT:=hid (errText_is (A c) _ w1 hcell)
  clear hn ht he hcell
  go_wp2_with fail
  refine HT.out.mono ?_
  rintro e w2 ⟨rfl,hx⟩
  subst w2
  go_wp2_with fail
  go_ret
  exact ⟨rfl,HN.out⟩
end
end Go.Proofs.YtaehdgemkafinaaGreatDoor
