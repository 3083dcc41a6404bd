/-
  On the way to SPlaysProof: O15 O16 O17 O22.
-/
import Derived.Test.YtaehdgemkafinaaGreatDoorBw34
set_option maxHeartbeats 8000000
set_option maxRecDepth 100000
namespace Go.Proofs.YtaehdgemkafinaaGreatDoor
open Go.RowKit
def StO (w0 w:World) (pb:Nat) (C:Nat→Nat) (st:PSt) (m:Nat):Prop:=match st with
 | none=>w.heap[pb]? = some (.cells #[.pointer none,.int .i64 0] 47 (0,0))
 | some (zs,V)=>∃ X k,w.heap[pb]? = some (.cells #[ptrO X.xb,.int .i64 (zs.length:Int)] 47 (0,0))∧WD w0 w C X zs V k∧AX zs V∧k+3 * pot zs V≤m
structure PlO (w0 wc w:World) (pb:Nat) (C:Nat→Nat) (st:PSt) (m:Nat):Prop where
 bel:Below w0.heap.size w0 w
 lo:w0.heap.size≤pb
 lp:pb<wc.heap.size
 fz:∀ x,x<wc.heap.size→x≠pb→w.heap[x]? = wc.heap[x]?
 far:∀ x,C x<2000→wc.heap.size≤x
 sz:wc.heap.size≤w.heap.size
 top:∀ x,C x<2000→x<w.heap.size
 st:StO w0 w pb C st m
def NextO (w0 wc w w':World) (pb:Nat) (C:Nat→Nat) (st':PSt) (m':Nat):Prop:=∃ C',PlO w0 wc w' pb C' st' m'∧Kept (fun x=>C x<2000 ∨ x=pb) w w'∧∀ x,x<w.heap.size→2000≤C x→2000≤C' x
section
variable {w0 wc w w':World} {pb:Nat} {C:Nat→Nat} {st st':PSt} {m m':Nat} {A:Nat→Addr}
theorem PlO.far2 (h:PlO w0 wc w pb C st m) {x:Nat} (hx:x<wc.heap.size):2000≤C x:=by
 rcases Nat.lt_or_ge (C x) 2000 with q|q
 ·have:=h.far x q; omega
 ·exact q
theorem StO.mono (h:StO w0 w pb C st m) (hm:m≤m'):StO w0 w pb C st m':=by
 unfold StO at *
 split
 ·exact h
 ·obtain ⟨X,k,h1,h2,h3,h4⟩:=h
  exact ⟨X,k,h1,h2,h3,Nat.le_trans h4 hm⟩
theorem PlO.later (h:PlO w0 wc w pb C st m) (hb:Below w.heap.size w w'):PlO w0 wc w' pb C st m:=by
 have hlt:pb<w.heap.size:=Nat.lt_of_lt_of_le h.lp h.sz
 refine ⟨h.bel.trans (hb.mono h.bel.size),h.lo,h.lp,fun x hx hn=>(hb.block x (Nat.lt_of_lt_of_le hx h.sz)).trans (h.fz x hx hn),h.far,Nat.le_trans h.sz hb.size,fun x hx=>Nat.lt_of_lt_of_le (h.top x hx) hb.size,?_⟩
 have h2:=h.st
 unfold StO at *
 split
 ·exact (hb.block _ hlt).trans h2
 ·obtain ⟨X,k,h1,h3,h4,h5⟩:=h2
  exact ⟨X,k,(hb.block _ hlt).trans h1,h3.later hb,h4,h5⟩
theorem NextO.of_below (h:PlO w0 wc w pb C st m) (hb:Below w.heap.size w w') (hm:m≤m'):NextO w0 wc w w' pb C st m':=by
 have:=h.later hb
 exact ⟨C,⟨this.bel,this.lo,this.lp,this.fz,this.far,this.sz,this.top,this.st.mono hm⟩,⟨hb.os,hb.tape,hb.output,hb.size,fun y hy _=>hb.block y hy⟩,fun _ _ h=>h⟩
theorem NextO.of_out {X:XB} {zs:List Int} {V':PX} {k':Nat} (h:PlO w0 wc w pb C st m) (hr:w.heap[pb]? = some (.cells #[ptrO X.xb,.int .i64 (zs.length:Int)] 47 (0,0))) (ho:WOut w0 w w' C X zs V' k') (hA:AX zs V') (hm:k'+3 * pot zs V'≤m'):NextO w0 wc w w' pb C (some (zs,V')) m':=by
 obtain ⟨C',X',o1,o2,o3,o4⟩:=ho
 have hpc:=h.far2 h.lp
 have hrow:w'.heap[pb]? = some (.cells #[ptrO X'.xb,.int .i64 (zs.length:Int)] 47 (0,0)):=by
  rw [key_xb o2]
  exact (o3.block pb (row_ltJ hr) (fun e=>by have h2:C pb<2000:=e; omega)).trans hr
 refine ⟨C',⟨o1.bel,h.lo,h.lp,fun x hx hn=>?_,fun x hx=>?_,Nat.le_trans h.sz o3.size,o1.lt,X',k',hrow,o1,hA,hm⟩,⟨o3.os,o3.tape,o3.output,o3.size,fun y hy hn=>o3.block y hy (fun e=>hn (.inl e))⟩,fun x hx hc=>by rw [o4 x hx]; exact hc⟩
 ·exact (o3.block x (Nat.lt_of_lt_of_le hx h.sz) (fun e=>by have h1:=h.far2 hx; have h2:C x<2000:=e; omega)).trans (h.fz x hx hn)
 ·rcases Nat.lt_or_ge x w.heap.size with q|q
  ·rw [o4 x q] at hx; exact h.far x hx
  ·have:=h.sz; omega
def ErrR (A:Nat→Addr) (r:Nat×Bs) (s:ByteArray) (e:Value):Prop:=e=ev A r.1∧(r.1=0→s=bB r.2)
def RunR (w0 wc w:World) (pb:Nat) (C:Nat→Nat) (A:Nat→Addr) (r:(Nat×Bs)×PSt) (m:Nat) (v:Value) (w':World):Prop:=∃ s e,v=.tuple #[.string s,e]∧ErrR A r.1 s e∧NextO w0 wc w w' pb C r.2 m
theorem potW_new (zs:List Int):pot zs newX≤0:=by
 show wtL []+_≤0
 have h:∀ n k,sumN (fun i=>potN n (newX.nd i)) k=0:=by
  intro n k
  induction k with
  | zero=>rfl
  | succ k ih=>unfold sumN; rw [ih]; rfl
 rw [h]; exact Nat.le_refl _
theorem open_any (nv:Value) (ns:List Int) (h:PlO w0 wc w pb C st m) (hE:Held9 w0 A) (hv:IsSl w nv ns) (hm:m≤m') :
  Calls Tryz.prog 36 #[ptrO pb,nv] w (RetO (RunR w0 wc w pb C A (resP st 0 ns) m')):=by
 obtain ⟨p0,k0,hrow⟩:∃ p0 k0,w.heap[pb]? = some (.cells #[.pointer p0,.int .i64 k0] 47 (0,0)):=by
  have h2:=h.st
  unfold StO at h2
  split at h2
  ·exact ⟨_,_,h2⟩
  ·obtain ⟨X,k,h1,-⟩:=h2; exact ⟨_,_,h1⟩
 have HP:=hid h
 by_cases he:errW ns=0
 ·have HN:=hid (wnew_ok nv hv (hE.later h.bel) he)
  have HR:Hid (resP st 0 ns=((0,[111,107]),some (ns,newX))):=by
   change _=_
   unfold resP
   rw [if_pos rfl,if_pos he]
  have HRow:=hid hrow
  obtain ⟨a,cp,rfl,-,-,-⟩:=hv
  obtain ⟨n,Hn⟩:∃ n,Hid (ns.length=n):=⟨_,rfl⟩
  rw [Hn.out] at HN ⊢
  clear h hE hrow
  go_enter Tryz.func36,Tryz.ntmps36
  go_wp2_with fail
  refine HN.out.mono ?_
  rintro e w1 ⟨C1,X1,rfl,h1⟩
  have H1:=hid h1
  have hr:=(h1.bel.block _ (row_ltJ HRow.out)).trans HRow.out
  have HR1:=hid hr
  have d0:=cell_of_row _ _ 0 _ _ _ hr
  have d1:=cell_of_row _ _ 1 _ _ _ hr
  have z0:=frozen_of_row _ _ 0 _ _ hr
  have z1:=frozen_of_row _ _ 1 _ _ hr
  clear h1 hr
  go_wp2_with fail
  go_ret2
  refine ⟨_,rfl,_,_,rfl,?_,?_⟩
  ·rw [HR.out]; exact ⟨rfl,fun _=>rfl⟩
  ·rw [HR.out]
   have hlp:=HP.out.lp
   have hsz:=HP.out.sz
   have hW:=H1.out.rebase (HP.out.bel.trans (H1.out.bel.mono HP.out.bel.size)) HP.out.bel.size
   have hfar:∀ x,C1 x<2000→w.heap.size≤x:=H1.out.low
   have hk:Kept (fun x=>x=pb) w1 ((w1.setCell ⟨pb,0,none⟩ (ptrO X1.xb)).setCell ⟨pb,1,none⟩ (.int .i64 (n:Int))):=by
    refine ⟨rfl,rfl,rfl,by simp [World.setCell],fun y hy hn=>?_⟩
    rw [Below.heap_setCell _ _ _ _ hn,Below.heap_setCell _ _ _ _ hn]
   have hpc:2000≤C1 pb:=by
    rcases Nat.lt_or_ge (C1 pb) 2000 with q|q
    ·have:=hfar pb q; omega
    ·exact q
   have hb:=H1.out.bel
   have hWf:=hW.far hk (fun x hx=>by rw [hx]; exact hpc) (fun x hx=>by rw [hx]; exact HP.out.lo)
   refine ⟨C1,⟨?_,HP.out.lo,hlp,fun x hx hn=>?_,fun x hx=>?_,?_,hWf.lt,X1,0,?_,hWf,AX.new,?_⟩,?_,fun x hx _=>?_⟩
   ·exact ((HP.out.bel.trans (hb.mono HP.out.bel.size)).setCell HP.out.lo _).setCell HP.out.lo _
   ·exact (hk.block x (by have:=hb.size; omega) hn).trans ((hb.block x (by omega)).trans (HP.out.fz x hx hn))
   ·have:=hfar x hx; omega
   ·exact Nat.le_trans hsz (Nat.le_trans hb.size hk.size)
   ·rw [Hn.out]; exact set2 HR1.out _ _
   ·have:=potW_new ns; omega
   ·exact ⟨hb.os,hb.tape,hb.output,Nat.le_trans hb.size hk.size,fun y hy hn=>(hk.block y (by have:=hb.size; omega) (fun e=>hn (.inr e))).trans (hb.block y hy)⟩
   ·rcases Nat.lt_or_ge (C1 x) 2000 with q|q
    ·have:=hfar x q; omega
    ·exact q
 ·obtain ⟨c,hc⟩:∃ c,errW ns=c+1:=⟨errW ns - 1,by omega⟩
  have HN:=hid (wnew_err nv c hv (hE.later h.bel) hc)
  have HR:Hid (resP st 0 ns=((c+1,[]),st)):=by
   change _=_
   unfold resP
   rw [if_pos rfl,if_neg he,hc]
  clear h hE hrow hv he hc
  go_enter Tryz.func36,Tryz.ntmps36
  go_wp2_with fail
  refine HN.out.mono ?_
  rintro e w1 ⟨rfl,hx⟩
  subst w1
  go_wp2_with fail
  go_ret2
  refine ⟨_,rfl,_,_,rfl,?_,?_⟩
  ·rw [HR.out]; exact ⟨rfl,fun h=>by cases h⟩
  ·rw [HR.out]; exact NextO.of_below HP.out (Below.refl _ _) hm
end
structure EnvO (w0 wc:World) (mb pb bb:Nat) (vs:Nat→Value) (A:Nat→Addr):Prop where
 cmd:CmdO wc mb pb bb vs
 held:Held9 w0 A
 tab:TabO w0
 lm:pb<mb
structure NumO (w:World) (C:Nat→Nat) (nv:Value) (ns:List Int):Prop where
 own:∃ B,w.ownsRow B 3 1 nv ns.length (ns.map (Value.int .i64))
 far:∀ g,nv.ownBlock=some g→2000≤C g
 rng:∀ y,y∈ns→0≤y∧y<100000
section
variable {w0 wc w w':World} {mb pb bb i m m':Nat} {vs:Nat→Value} {C:Nat→Nat} {st:PSt} {A:Nat→Addr} {nv:Value} {ns:List Int}
theorem PlO.box (h:PlO w0 wc w pb C st m) {b:Nat} {v:Value} (hb:BoxO wc b v) (hp:pb<b):BoxO w b v:=by
 have h1:=h.fz b (cell_lt hb) (by omega)
 show w.cell? ⟨b,0,none⟩=some v
 rw [show w.cell? ⟨b,0,none⟩=wc.cell? ⟨b,0,none⟩ by simp only [World.cell?,h1]]
 exact hb
theorem NumO.one (h:NumO w C nv ns) (hl:ns.length=1):∃ (g cap a:Nat),nv=.slice (some ⟨g,0,none⟩) 1 cap∧w.cell? ⟨g,0,none⟩=some (.int .i64 (a:Int))∧ns=[(a:Int)]∧a<100000∧2000≤C g:=by
 obtain ⟨B,ho⟩:=h.own
 obtain ⟨y,rfl⟩:∃ y,ns=[y]:=by
  match ns,hl with
  | [y],_=>exact ⟨y,rfl⟩
 obtain ⟨h0,h1⟩:=h.rng y (List.mem_singleton.2 rfl)
 obtain ⟨a,rfl⟩:=Int.eq_ofNat_of_zero_le h0
 have hc:=ho
 rcases ho.2 with ⟨e,q⟩|⟨g,cap,cur,e,-⟩
 ·cases q
 ·subst e
  have:=hc.cells rfl 0 (.int .i64 (a:Int)) rfl
  rw [addr_add] at this
  exact ⟨g,cap,a,rfl,this,rfl,by omega,h.far g rfl⟩
theorem NumO.two (h:NumO w C nv ns) (hl:ns.length=2):∃ (g cap a b:Nat),nv=.slice (some ⟨g,0,none⟩) 2 cap∧w.cell? ⟨g,0,none⟩=some (.int .i64 (a:Int))∧w.cell? ⟨g,1,none⟩=some (.int .i64 (b:Int))∧ns=[(a:Int),(b:Int)]∧a<100000∧b<100000∧2000≤C g:=by
 obtain ⟨B,ho⟩:=h.own
 obtain ⟨y,z,rfl⟩:∃ y z,ns=[y,z]:=by
  match ns,hl with
  | [y,z],_=>exact ⟨y,z,rfl⟩
 obtain ⟨h0,h1⟩:=h.rng y (by simp)
 obtain ⟨h2,h3⟩:=h.rng z (by simp)
 obtain ⟨a,rfl⟩:=Int.eq_ofNat_of_zero_le h0
 obtain ⟨b,rfl⟩:=Int.eq_ofNat_of_zero_le h2
 have hc:=ho
 rcases ho.2 with ⟨e,q⟩|⟨g,cap,cur,e,-⟩
 ·cases q
 ·subst e
  have e0:=hc.cells rfl 0 (.int .i64 (a:Int)) rfl
  have e1:=hc.cells rfl 1 (.int .i64 (b:Int)) rfl
  rw [addr_add] at e0 e1
  exact ⟨g,cap,a,b,rfl,e0,e1,rfl,by omega,by omega,h.far g rfl⟩
theorem good_le {s:St} (h:s.good):s.ph≤5∧s.pr≤1048576∧s.at_≤1048576:=⟨h.1,h.2.1,Nat.le_trans h.2.2 h.2.1⟩
def DoR (w0 wc w:World) (pb:Nat) (C:Nat→Nat) (A:Nat→Addr) (zs:List Int) (r:Nat×PX) (m:Nat) (v:Value) (w':World):Prop:=v=ev A r.1∧NextO w0 wc w w' pb C (some (zs,r.2)) m
theorem opR_do {X:XB} {zs:List Int} {V:PX} {k:Nat} {a b:Int} (h:PlO w0 wc w pb C (some (zs,V)) m) (hr:w.heap[pb]? = some (.cells #[ptrO X.xb,.int .i64 (zs.length:Int)] 47 (0,0))) (hX:XI zs V k) (hA:AX zs V) (hk:k+3 * pot zs V≤m) (hm:m<800000) (hm':m+672≤m') (ha:0≤a) (hb:0≤b) {v:Value} (ho:OpR w0 w C X zs A (opP zs V i a b) (k+42) v w'):DoR w0 wc w pb C A zs (opP zs V i a b) m' v w':=by
 have hs:Stp zs V (opP zs V i a b).2:=opP_stp ha hb
 have hp:=hs.pot hX
 exact ⟨ho.1,NextO.of_out h hr ho.2 (hs.ax hA hX (by omega)).1 (by omega)⟩
theorem do1_run {zs:List Int} {V:PX} (hE:EnvO w0 wc mb pb bb vs A) (h:PlO w0 wc w pb C (some (zs,V)) m) (hn:NumO w C nv ns) (hl:ns.length=2) (hm:m<800000) (hm':m+672≤m') :
  Calls Tryz.prog 38 #[nv,ptrO bb] w (RetO (DoR w0 wc w pb C A zs (opP zs V 1 (ns.getD 0 0) (ns.getD 1 0)) m')):=by
 obtain ⟨X,k,hr,hW,hA,hk⟩:=h.st
 have hbb:=h.box hE.cmd.box hE.cmd.lb
 have cb:2000≤C bb:=h.far2 (cell_lt hE.cmd.box)
 have cp:2000≤C pb:=h.far2 h.lp
 obtain ⟨g,cap,a,b,rfl,c0,c1,rfl,ha,hb,cg⟩:=hn.two hl
 exact (op1_any a b hW hE.held (by omega) hbb (cell_of_row _ _ 0 _ _ _ hr) c0 c1 cb cp cg).mono fun e w1 ⟨v,he,ho⟩=>⟨v,he,opR_do h hr hW.inv hA hk hm hm' (show (0:Int)≤(a:Int) from Int.natCast_nonneg a) (show (0:Int)≤(b:Int) from Int.natCast_nonneg b) ho⟩
theorem do2_run {zs:List Int} {V:PX} (hE:EnvO w0 wc mb pb bb vs A) (h:PlO w0 wc w pb C (some (zs,V)) m) (hn:NumO w C nv ns) (hl:ns.length=2) (hm:m<800000) (hm':m+672≤m') :
  Calls Tryz.prog 40 #[nv,ptrO bb] w (RetO (DoR w0 wc w pb C A zs (opP zs V 2 (ns.getD 0 0) (ns.getD 1 0)) m')):=by
 obtain ⟨X,k,hr,hW,hA,hk⟩:=h.st
 have hbb:=h.box hE.cmd.box hE.cmd.lb
 have cb:2000≤C bb:=h.far2 (cell_lt hE.cmd.box)
 have cp:2000≤C pb:=h.far2 h.lp
 obtain ⟨g,cap,a,b,rfl,c0,c1,rfl,ha,hb,cg⟩:=hn.two hl
 exact (op2_any a b hW hE.held (by omega) hbb (cell_of_row _ _ 0 _ _ _ hr) c0 c1 cb cp cg).mono fun e w1 ⟨v,he,ho⟩=>⟨v,he,opR_do h hr hW.inv hA hk hm hm' (show (0:Int)≤(a:Int) from Int.natCast_nonneg a) (show (0:Int)≤(b:Int) from Int.natCast_nonneg b) ho⟩
theorem do3_run {zs:List Int} {V:PX} (hE:EnvO w0 wc mb pb bb vs A) (h:PlO w0 wc w pb C (some (zs,V)) m) (hn:NumO w C nv ns) (hl:ns.length=1) (hm:m<800000) (hm':m+672≤m') :
  Calls Tryz.prog 42 #[nv,ptrO bb] w (RetO (DoR w0 wc w pb C A zs (opP zs V 3 (ns.getD 0 0) (ns.getD 1 0)) m')):=by
 obtain ⟨X,k,hr,hW,hA,hk⟩:=h.st
 have hbb:=h.box hE.cmd.box hE.cmd.lb
 have cb:2000≤C bb:=h.far2 (cell_lt hE.cmd.box)
 have cp:2000≤C pb:=h.far2 h.lp
 obtain ⟨g,cap,a,rfl,c0,rfl,ha,cg⟩:=hn.one hl
 exact (op3_any a 0 hW hE.held (by omega) hbb (cell_of_row _ _ 0 _ _ _ hr) c0 cb cp cg).mono fun e w1 ⟨v,he,ho⟩=>⟨v,he,opR_do h hr hW.inv hA hk hm hm' (show (0:Int)≤(a:Int) from Int.natCast_nonneg a) (show (0:Int)≤0 from Int.le_refl 0) ho⟩
theorem do4_run {zs:List Int} {V:PX} (hE:EnvO w0 wc mb pb bb vs A) (h:PlO w0 wc w pb C (some (zs,V)) m) (hn:NumO w C nv ns) (hl:ns.length=1) (hm:m<800000) (hm':m+672≤m') :
  Calls Tryz.prog 44 #[nv,ptrO bb] w (RetO (DoR w0 wc w pb C A zs (opP zs V 4 (ns.getD 0 0) (ns.getD 1 0)) m')):=by
 obtain ⟨X,k,hr,hW,hA,hk⟩:=h.st
 have hbb:=h.box hE.cmd.box hE.cmd.lb
 have cb:2000≤C bb:=h.far2 (cell_lt hE.cmd.box)
 have cp:2000≤C pb:=h.far2 h.lp
 obtain ⟨g,cap,a,rfl,c0,rfl,ha,cg⟩:=hn.one hl
 exact (op4_any a 0 hW hE.held (by omega) hbb (cell_of_row _ _ 0 _ _ _ hr) c0 cb cp cg).mono fun e w1 ⟨v,he,ho⟩=>⟨v,he,opR_do h hr hW.inv hA hk hm hm' (show (0:Int)≤(a:Int) from Int.natCast_nonneg a) (show (0:Int)≤0 from Int.le_refl 0) ho⟩
theorem do5_run {zs:List Int} {V:PX} (hE:EnvO w0 wc mb pb bb vs A) (h:PlO w0 wc w pb C (some (zs,V)) m) (hn:NumO w C nv ns) (hl:ns.length=1) (hm:m<800000) (hm':m+672≤m') :
  Calls Tryz.prog 46 #[nv,ptrO bb] w (RetO (DoR w0 wc w pb C A zs (opP zs V 5 (ns.getD 0 0) (ns.getD 1 0)) m')):=by
 obtain ⟨X,k,hr,hW,hA,hk⟩:=h.st
 have hbb:=h.box hE.cmd.box hE.cmd.lb
 have cb:2000≤C bb:=h.far2 (cell_lt hE.cmd.box)
 have cp:2000≤C pb:=h.far2 h.lp
 obtain ⟨g,cap,a,rfl,c0,rfl,ha,cg⟩:=hn.one hl
 exact (op5_any a 0 hW hE.held (by omega) hbb (cell_of_row _ _ 0 _ _ _ hr) c0 cb cp cg).mono fun e w1 ⟨v,he,ho⟩=>⟨v,he,opR_do h hr hW.inv hA hk hm hm' (show (0:Int)≤(a:Int) from Int.natCast_nonneg a) (show (0:Int)≤0 from Int.le_refl 0) ho⟩
theorem do6_run {zs:List Int} {V:PX} (hE:EnvO w0 wc mb pb bb vs A) (h:PlO w0 wc w pb C (some (zs,V)) m) (hn:NumO w C nv ns) (hl:ns.length=1) (hm:m<800000) (hm':m+672≤m') :
  Calls Tryz.prog 48 #[nv,ptrO bb] w (RetO (DoR w0 wc w pb C A zs (opP zs V 6 (ns.getD 0 0) (ns.getD 1 0)) m')):=by
 obtain ⟨X,k,hr,hW,hA,hk⟩:=h.st
 have hbb:=h.box hE.cmd.box hE.cmd.lb
 have cb:2000≤C bb:=h.far2 (cell_lt hE.cmd.box)
 have cp:2000≤C pb:=h.far2 h.lp
 obtain ⟨g,cap,a,rfl,c0,rfl,ha,cg⟩:=hn.one hl
 exact (op6_any a 0 hW hE.held (by omega) hbb (cell_of_row _ _ 0 _ _ _ hr) c0 cb cp cg).mono fun e w1 ⟨v,he,ho⟩=>⟨v,he,opR_do h hr hW.inv hA hk hm hm' (show (0:Int)≤(a:Int) from Int.natCast_nonneg a) (show (0:Int)≤0 from Int.le_refl 0) ho⟩
theorem do7_run {zs:List Int} {V:PX} (hE:EnvO w0 wc mb pb bb vs A) (h:PlO w0 wc w pb C (some (zs,V)) m) (hn:NumO w C nv ns) (hl:ns.length=2) (hm:m<800000) (hm':m+672≤m') :
  Calls Tryz.prog 50 #[nv,ptrO bb] w (RetO (DoR w0 wc w pb C A zs (opP zs V 7 (ns.getD 0 0) (ns.getD 1 0)) m')):=by
 obtain ⟨X,k,hr,hW,hA,hk⟩:=h.st
 have hbb:=h.box hE.cmd.box hE.cmd.lb
 have cb:2000≤C bb:=h.far2 (cell_lt hE.cmd.box)
 have cp:2000≤C pb:=h.far2 h.lp
 obtain ⟨g,cap,a,b,rfl,c0,c1,rfl,ha,hb,cg⟩:=hn.two hl
 exact (op7_any a b hW hE.held (by omega) hbb (cell_of_row _ _ 0 _ _ _ hr) c0 c1 cb cp cg).mono fun e w1 ⟨v,he,ho⟩=>⟨v,he,opR_do h hr hW.inv hA hk hm hm' (show (0:Int)≤(a:Int) from Int.natCast_nonneg a) (show (0:Int)≤(b:Int) from Int.natCast_nonneg b) ho⟩
theorem do8_run {zs:List Int} {V:PX} (hE:EnvO w0 wc mb pb bb vs A) (h:PlO w0 wc w pb C (some (zs,V)) m) (hn:NumO w C nv ns) (hl:ns.length=2) (hm:m<800000) (hm':m+672≤m') :
  Calls Tryz.prog 52 #[nv,ptrO bb] w (RetO (DoR w0 wc w pb C A zs (opP zs V 8 (ns.getD 0 0) (ns.getD 1 0)) m')):=by
 obtain ⟨X,k,hr,hW,hA,hk⟩:=h.st
 have hbb:=h.box hE.cmd.box hE.cmd.lb
 have cb:2000≤C bb:=h.far2 (cell_lt hE.cmd.box)
 have cp:2000≤C pb:=h.far2 h.lp
 obtain ⟨g,cap,a,b,rfl,c0,c1,rfl,ha,hb,cg⟩:=hn.two hl
 exact (op8_any a b hW hE.held (by omega) hbb (cell_of_row _ _ 0 _ _ _ hr) c0 c1 cb cp cg).mono fun e w1 ⟨v,he,ho⟩=>⟨v,he,opR_do h hr hW.inv hA hk hm hm' (show (0:Int)≤(a:Int) from Int.natCast_nonneg a) (show (0:Int)≤(b:Int) from Int.natCast_nonneg b) ho⟩
theorem do9_run {zs:List Int} {V:PX} (hE:EnvO w0 wc mb pb bb vs A) (h:PlO w0 wc w pb C (some (zs,V)) m) (hn:NumO w C nv ns) (hl:ns.length=2) (hm:m<800000) (hm':m+672≤m') :
  Calls Tryz.prog 53 #[nv,ptrO bb] w (RetO (DoR w0 wc w pb C A zs (opP zs V 9 (ns.getD 0 0) (ns.getD 1 0)) m')):=by
 obtain ⟨X,k,hr,hW,hA,hk⟩:=h.st
 have hbb:=h.box hE.cmd.box hE.cmd.lb
 have cb:2000≤C bb:=h.far2 (cell_lt hE.cmd.box)
 have cp:2000≤C pb:=h.far2 h.lp
 obtain ⟨g,cap,a,b,rfl,c0,c1,rfl,ha,hb,cg⟩:=hn.two hl
 exact (op9_any a b hW hE.held (by omega) hbb (cell_of_row _ _ 0 _ _ _ hr) c0 c1 cb cp cg hb).mono fun e w1 ⟨v,he,ho⟩=>⟨v,he,opR_do h hr hW.inv hA hk hm hm' (show (0:Int)≤(a:Int) from Int.natCast_nonneg a) (show (0:Int)≤(b:Int) from Int.natCast_nonneg b) ho⟩
theorem do10_run {zs:List Int} {V:PX} (hE:EnvO w0 wc mb pb bb vs A) (h:PlO w0 wc w pb C (some (zs,V)) m) (hn:NumO w C nv ns) (hl:ns.length=1) (hm:m<800000) (hm':m+672≤m') :
  Calls Tryz.prog 55 #[nv,ptrO bb] w (RetO (DoR w0 wc w pb C A zs (opP zs V 10 (ns.getD 0 0) (ns.getD 1 0)) m')):=by
 obtain ⟨X,k,hr,hW,hA,hk⟩:=h.st
 have hbb:=h.box hE.cmd.box hE.cmd.lb
 have cb:2000≤C bb:=h.far2 (cell_lt hE.cmd.box)
 have cp:2000≤C pb:=h.far2 h.lp
 obtain ⟨g,cap,a,rfl,c0,rfl,ha,cg⟩:=hn.one hl
 exact (op10_any a 0 hW hE.held (by omega) hbb (cell_of_row _ _ 0 _ _ _ hr) c0 cb cp cg).mono fun e w1 ⟨v,he,ho⟩=>⟨v,he,opR_do h hr hW.inv hA hk hm hm' (show (0:Int)≤(a:Int) from Int.natCast_nonneg a) (show (0:Int)≤0 from Int.le_refl 0) ho⟩
theorem do11_run {zs:List Int} {V:PX} (hE:EnvO w0 wc mb pb bb vs A) (h:PlO w0 wc w pb C (some (zs,V)) m) (hn:NumO w C nv ns) (hl:ns.length=1) (hm:m<800000) (hm':m+672≤m') :
  Calls Tryz.prog 57 #[nv,ptrO bb] w (RetO (DoR w0 wc w pb C A zs (opP zs V 11 (ns.getD 0 0) (ns.getD 1 0)) m')):=by
 obtain ⟨X,k,hr,hW,hA,hk⟩:=h.st
 have hbb:=h.box hE.cmd.box hE.cmd.lb
 have cb:2000≤C bb:=h.far2 (cell_lt hE.cmd.box)
 have cp:2000≤C pb:=h.far2 h.lp
 obtain ⟨g,cap,a,rfl,c0,rfl,ha,cg⟩:=hn.one hl
 exact (op11_any a 0 hW hE.held (by omega) hbb (cell_of_row _ _ 0 _ _ _ hr) c0 cb cp cg).mono fun e w1 ⟨v,he,ho⟩=>⟨v,he,opR_do h hr hW.inv hA hk hm hm' (show (0:Int)≤(a:Int) from Int.natCast_nonneg a) (show (0:Int)≤0 from Int.le_refl 0) ho⟩
theorem do12_run {zs:List Int} {V:PX} (hE:EnvO w0 wc mb pb bb vs A) (h:PlO w0 wc w pb C (some (zs,V)) m) (hm':m+672≤m') :
  Calls Tryz.prog 59 #[nv,ptrO bb] w (RetO (DoR w0 wc w pb C A zs (opP zs V 12 (ns.getD 0 0) (ns.getD 1 0)) m')):=by
 obtain ⟨X,k,hr,hW,hA,hk⟩:=h.st
 have hbb:=h.box hE.cmd.box hE.cmd.lb
 exact (c12_any hbb hW hE.held (cell_of_row _ _ 0 _ _ _ hr) (cell_of_row _ _ 1 _ _ _ hr) hA).mono fun e w1 ⟨he,hb⟩=>⟨_,he,rfl,NextO.of_below h hb (by omega)⟩
theorem tell_of {zs:List Int} {V:PX} {r:Nat×Bs} {s:ByteArray} {e:Value} (h:PlO w0 wc w pb C (some (zs,V)) m) (hb:Below w.heap.size w w') (hm:m≤m') (hr:ErrR A r s e):RunR w0 wc w pb C A (r,some (zs,V)) m' (.tuple #[.string s,e]) w':=⟨s,e,rfl,hr,NextO.of_below h hb hm⟩
theorem tell13_run {zs:List Int} {V:PX} (hE:EnvO w0 wc mb pb bb vs A) (h:PlO w0 wc w pb C (some (zs,V)) m) (hm:m<800000) (hm':m+672≤m') :
  Calls Tryz.prog 63 #[nv,ptrO bb] w (RetO (RunR w0 wc w pb C A (resP (some (zs,V)) 13 ns) m')):=by
 obtain ⟨X,k,hr,hW,hA,hk⟩:=h.st
 have hbb:=h.box hE.cmd.box hE.cmd.lb
 have hT:∀ w',Kept (OwnX C) w w'→TabO w':=fun w' hk=>by
  obtain ⟨t,fr,ht⟩:=hE.tab
  have hl:=row_ltJ ht
  have hw:=(h.bel.block _ hl).trans ht
  have hlo:=h.lo
  have hlp:=h.lp
  have hc:2000≤C 10:=h.far2 (by omega)
  exact ⟨t,fr,(hk.block _ (row_ltJ hw) (fun e=>by have h2:C 10<2000:=e; omega)).trans hw⟩
 refine (c13_any hbb hW hE.held hT (cell_of_row _ _ 0 _ _ _ hr) (h.far2 h.lp) (by omega)).mono fun e w1 ⟨he,hd,hq,ho⟩=>⟨_,he,_,_,rfl,⟨rfl,fun _=>rfl⟩,?_⟩
 exact NextO.of_out h hr ho (delX_ax 3000 V k hA hW.inv (by omega)) (by show _+3 * pot zs (delX zs 3000 V)≤_; omega)
theorem tell14_run {zs:List Int} {V:PX} (hE:EnvO w0 wc mb pb bb vs A) (h:PlO w0 wc w pb C (some (zs,V)) m) (hm:m<800000) (hm':m+672≤m') :
  Calls Tryz.prog 66 #[nv,ptrO bb] w (RetO (RunR w0 wc w pb C A (resP (some (zs,V)) 14 ns) m')):=by
 obtain ⟨X,k,hr,hW,hA,hk⟩:=h.st
 exact (c14_any (h.box hE.cmd.box hE.cmd.lb) hW (hE.tab.later h.bel) (cell_of_row _ _ 0 _ _ _ hr) (by omega)).mono fun e w1 ⟨he,hb⟩=>⟨_,he,tell_of h hb (by omega) ⟨rfl,fun _=>rfl⟩⟩
theorem tell18_run {zs:List Int} {V:PX} (hE:EnvO w0 wc mb pb bb vs A) (h:PlO w0 wc w pb C (some (zs,V)) m) (hm':m+672≤m') :
  Calls Tryz.prog 74 #[nv,ptrO bb] w (RetO (RunR w0 wc w pb C A (resP (some (zs,V)) 18 ns) m')):=by
 obtain ⟨X,k,hr,hW,hA,hk⟩:=h.st
 have n7:=hW.n7
 exact (c18_any (h.box hE.cmd.box hE.cmd.lb) hW (hE.tab.later h.bel) (cell_of_row _ _ 0 _ _ _ hr) (fun e he=>by obtain ⟨i,d,p,h1,h2,h3,-⟩:=hA.ex.at_ e he; exact ⟨i,d,p,h1,by omega,by omega⟩)).mono fun e w1 ⟨he,hb⟩=>⟨_,he,tell_of h hb (by omega) ⟨rfl,fun _=>rfl⟩⟩
theorem below_of_drew (h:Below w.drew.heap.size w.drew w'):Below w.heap.size w w':=⟨h.os,h.tape,h.output,h.size,h.block⟩
def TelR (w:World) (A:Nat→Addr) (r:Nat×Bs) (v:Value) (w':World):Prop:=(∃ s e,v=.tuple #[.string s,e]∧ErrR A r s e)∧Below w.heap.size w w'
theorem telR_run {zs:List Int} {V:PX} {r:Nat×Bs} {v:Value} (h:PlO w0 wc w pb C (some (zs,V)) m) (hm:m≤m') (ht:TelR w A r v w'):RunR w0 wc w pb C A (r,some (zs,V)) m' v w':=by
 obtain ⟨⟨s,e,rfl,he⟩,hb⟩:=ht
 exact tell_of h hb hm he
theorem tell15_run {zs:List Int} {V:PX} (hE:EnvO w0 wc mb pb bb vs A) (h:PlO w0 wc w pb C (some (zs,V)) m) (hn:NumO w C nv ns) (hl:ns.length=2) (hm':m+672≤m') :
  Calls Tryz.prog 68 #[nv,ptrO bb] w (RetO (RunR w0 wc w pb C A (resP (some (zs,V)) 15 ns) m')):=by
 obtain ⟨X,k,hr,hW,hA,hk⟩:=h.st
 obtain ⟨g,cap,a,b,rfl,c0,c1,rfl,ha,hb,cg⟩:=hn.two hl
 have hp:BoxO w.drew pb (ptrO X.xb):=cell_of_row _ _ 0 _ _ _ hr
 have hT0:TabO w:=hE.tab.later h.bel
 have hT:TabO w.drew:=hT0
 have hc:Calls Tryz.prog 69 #[ptrO pb,.int .i64 (a:Int),.int .i64 (b:Int)] w.drew (RetO fun v w'=>∃ s e,v=.tuple #[.string s,e]∧TelR w A (tellQ zs V 15 (a:Int) (b:Int)).1 v w'):=by
  by_cases hq:(a:Int)<zs.length∧(b:Int)<6
  ·have he:(tellQ zs V 15 (a:Int) (b:Int)).1=(0,stateO (stN (V.nd a) b).ph (stN (V.nd a) b).pr (stN (V.nd a) b).at_):=by
    show (if (a:Int)<zs.length∧(b:Int)<6 then _ else _)=_
    rw [if_pos hq,Int.toNat_natCast,Int.toNat_natCast]
   rw [he]
   have hgd:=(hW.inv.nd a (by omega)).gd b (by omega)
   obtain ⟨q1,q2,q3⟩:=good_le hgd
   exact (tellState_ok a b _ _ _ hW.drewn hE.held hT hp (by omega) (by omega) (show stN (V.nd a) b=⟨(stN (V.nd a) b).ph,(stN (V.nd a) b).pr,(stN (V.nd a) b).at_⟩ from rfl) (Nat.le_trans q2 (by decide)) (Nat.le_trans q3 (by decide))).mono fun e w1 ⟨he,hb⟩=>⟨_,he,_,_,rfl,⟨_,_,rfl,rfl,fun _=>rfl⟩,below_of_drew hb⟩
  ·have he:(tellQ zs V 15 (a:Int) (b:Int)).1=(2,[]):=by
    show (if (a:Int)<zs.length∧(b:Int)<6 then _ else _)=_
    rw [if_neg hq]
   rw [he]
   exact (tellState_no (a:Int) (b:Int) hW.drewn hE.held hp (by omega)).mono fun e w1 ⟨he,hb⟩=>⟨_,he,_,_,rfl,⟨_,_,rfl,rfl,fun h=>by cases h⟩,below_of_drew hb⟩
 refine (c15_any (h.box hE.cmd.box hE.cmd.lb) c0 c1 hc (fun v W hv=>hv.2)).mono fun e w1 ⟨v,he,s,e',hv,ht⟩=>⟨v,he,telR_run h (by omega) ht⟩
theorem tell16_run {zs:List Int} {V:PX} (hE:EnvO w0 wc mb pb bb vs A) (h:PlO w0 wc w pb C (some (zs,V)) m) (hn:NumO w C nv ns) (hl:ns.length=2) (hm':m+672≤m') :
  Calls Tryz.prog 70 #[nv,ptrO bb] w (RetO (RunR w0 wc w pb C A (resP (some (zs,V)) 16 ns) m')):=by
 obtain ⟨X,k,hr,hW,hA,hk⟩:=h.st
 obtain ⟨g,cap,a,b,rfl,c0,c1,rfl,ha,hb,cg⟩:=hn.two hl
 have hp:BoxO w pb (ptrO X.xb):=cell_of_row _ _ 0 _ _ _ hr
 have hc:Calls Tryz.prog 71 #[ptrO X.xb,.int .i64 (a:Int),.int .i64 (b:Int)] w.drew (RetO fun v w'=>∃ s e,v=.tuple #[.string s,e]∧TelR w A (tellQ zs V 16 (a:Int) (b:Int)).1 v w'):=by
  by_cases hq:(a:Int)<zs.length∧(b:Int)<6
  ·have he:(tellQ zs V 16 (a:Int) (b:Int)).1=(0,(leadT (V.nd a) b).data.toList):=by
    show (if (a:Int)<zs.length∧(b:Int)<6 then _ else _)=_
    rw [if_pos hq,Int.toNat_natCast,Int.toNat_natCast]
   rw [he]
   refine (lead_ok a b hW.drewn (by omega) (by omega)).mono fun e w1 ⟨he,hw⟩=>⟨_,he,_,_,rfl,⟨_,_,rfl,rfl,fun _=>rfl⟩,?_⟩
   subst hw
   exact below_of_drew (Below.refl _ _)
  ·have he:(tellQ zs V 16 (a:Int) (b:Int)).1=(2,[]):=by
    show (if (a:Int)<zs.length∧(b:Int)<6 then _ else _)=_
    rw [if_neg hq]
   rw [he]
   exact (lead_no (a:Int) (b:Int) hW.drewn hE.held (by omega)).mono fun e w1 ⟨he,hb⟩=>⟨_,he,_,_,rfl,⟨_,_,rfl,rfl,fun h=>by cases h⟩,below_of_drew hb⟩
 refine (c16_any (h.box hE.cmd.box hE.cmd.lb) hp c0 c1 hc (fun v W hv=>hv.2)).mono fun e w1 ⟨v,he,s,e',hv,ht⟩=>⟨v,he,telR_run h (by omega) ht⟩
theorem tell17_run {zs:List Int} {V:PX} (hE:EnvO w0 wc mb pb bb vs A) (h:PlO w0 wc w pb C (some (zs,V)) m) (hn:NumO w C nv ns) (hl:ns.length=1) (hm':m+672≤m') :
  Calls Tryz.prog 72 #[nv,ptrO bb] w (RetO (RunR w0 wc w pb C A (resP (some (zs,V)) 17 ns) m')):=by
 obtain ⟨X,k,hr,hW,hA,hk⟩:=h.st
 obtain ⟨g,cap,a,rfl,c0,rfl,ha,cg⟩:=hn.one hl
 have hp:BoxO w.drew pb (ptrO X.xb):=cell_of_row _ _ 0 _ _ _ hr
 have hc:Calls Tryz.prog 73 #[ptrO pb,.int .i64 (a:Int)] w.drew (RetO fun v w'=>∃ s e,v=.tuple #[.string s,e]∧TelR w A (tellQ zs V 17 (a:Int) 0).1 v w'):=by
  by_cases hq:(a:Int)<zs.length
  ·have he:(tellQ zs V 17 (a:Int) 0).1=(0,if upN (V.nd a)=true then [117,112] else [100,111,119,110]):=by
    show (if (a:Int)<zs.length then _ else _)=_
    rw [if_pos hq,Int.toNat_natCast]
   rw [he]
   exact (tellPower_ok a hW.drewn hp (by omega)).mono fun e w1 ⟨he,hb⟩=>⟨_,he,_,_,rfl,⟨_,_,rfl,rfl,fun _=>by split <;> rfl⟩,below_of_drew hb⟩
  ·have he:(tellQ zs V 17 (a:Int) 0).1=(2,[]):=by
    show (if (a:Int)<zs.length then _ else _)=_
    rw [if_neg hq]
   rw [he]
   exact (tellPower_no (a:Int) hW.drewn hE.held hp (by omega)).mono fun e w1 ⟨he,hb⟩=>⟨_,he,_,_,rfl,⟨_,_,rfl,rfl,fun h=>by cases h⟩,below_of_drew hb⟩
 refine (c17_any (h.box hE.cmd.box hE.cmd.lb) c0 hc (fun v W hv=>hv.2)).mono fun e w1 ⟨v,he,s,e',hv,ht⟩=>⟨v,he,telR_run h (by omega) ht⟩
end
def zeroCmd:Value:=.agg #[.string ⟨#[]⟩,.bool false,.nilFunc]
theorem zero_cmd (w:World):(zeroValue 84).run Tryz.prog w=.ok zeroCmd w:=by
 have:=Tryz.zeroValue84
 exact this w
def lookO (vs:Nat→Value) (s:Bs):Value:=match cmdO s with
 | none=>.tuple #[zeroCmd,.bool false]
 | some i=>.tuple #[vs i,.bool true]
theorem look_cmd {w:World} {mb pb bb:Nat} {vs:Nat→Value} (h:CmdO w mb pb bb vs) (s:ByteArray) (hs:s.size≤1000000):(Instr.lookup 48 (.map (some mb)) (.string s) true).run Tryz.prog w=.ok (lookO vs s.data.toList) w:=by
 obtain ⟨n,D,ho,hat⟩:=h.own
 obtain ⟨es,clock,hb,F,-,rfl⟩:=ho
 have hkey:=WideMaps.keyOf_string_mk (P:=Tryz.prog) (s:=s) Tryz.underlying9 (by unfold maxLen; omega)
 unfold lookO
 rcases Maps.fit_look true tStr_keyed Tryz.underlying48 (zero_cmd w) hb F hkey with ⟨hrun,-,hz⟩|⟨e0,y,-,-,hrun,hRv,hz,-⟩
 ·rw [hrun]
  cases hc:cmdO s.data.toList with
  | none=>rfl
  | some i =>
   have h1:=hat s.data.toList .nil
   rw [hz .nil,hc] at h1
   have h3:(DataW.nil:DataW Value)=.held (vs i):=h1
   injection h3
 ·rw [hrun]
  have h1:=hat s.data.toList .nil
  have h2:=hat s.data.toList (.lit (.bool true))
  rw [hz] at h1 h2
  cases hc:cmdO s.data.toList with
  | none =>
   rw [hc] at h1 h2
   have h3:(DataW.nil:DataW Value)=.lit (.bool true):=h1.symm.trans h2
   injection h3
  | some i =>
   rw [hc] at h1
   have h3:some ((DataW.held e0.val:DataW Value),([]:List MemPlace))=some y:=hRv
   have h4:=Option.some.inj h3
   rw [← h4] at h1
   have h6:(DataW.held e0.val:DataW Value)=.held (vs i):=h1
   have h5:e0.val=vs i:=by injection h6
   rw [h5]; rfl
structure SimO where
 st:Nat→St
 P:PL
 fly:List F9
 evs:List E3
def simO (zs:List Int) (d s:Nat) (x:SimO):SimO:=match x.fly with
 | []=>x
 | f :: rest=>if isAns f.k=true then { x with P:=(phear zs s d 0 x.P f).1,fly:=rest ++ outL s d 0 zs.length (phear zs s d 0 x.P f).2 } else
  let h:=hearL (x.st f.t.toNat) false f.k.toNat f.a.toNat f.ph.toNat
  { x with st:=upd x.st f.t.toNat h.st,fly:=rest ++ (if h.k≠0 then [ansF f.t.toNat f h] else []),evs:=noteE x.evs f.t.toNat d (x.st f.t.toNat).ph h.st.ph }
def simN (zs:List Int) (d s:Nat):Nat→SimO→SimO
 | 0,x=>x
 | k+1,x=>simN zs d s k (simO zs d s x)
def simOk (zs:List Int) (d s:Nat) (x:SimO):Bool:=match x.fly with
 | []=>false
 | f :: _=>decide (f.d=(d:Int)) && decide (0≤f.t) && (if isAns f.k=true then decide (f.t=(s:Int)) else decide (f.t<zs.length) && (!finB (hearL (x.st f.t.toNat) false f.k.toNat f.a.toNat f.ph.toNat).st.ph || decide ((hearL (x.st f.t.toNat) false f.k.toNat f.a.toNat f.ph.toNat).st.ph=2)))
def simAll (zs:List Int) (d s:Nat):Nat→SimO→Bool
 | 0,_=>true
 | k+1,x=>simOk zs d s x && simAll zs d s k (simO zs d s x)
section
variable {zs:List Int} {d s m:Nat} {V:PX} {x:SimO}
def SimW (zs:List Int) (d s:Nat) (V:PX) (m:Nat) (x:SimO):Prop:=CW zs d s 2 (fun _=>false) V m x.st x.P x.fly∧V.evs=x.evs
theorem SimW.step (h:SimW zs d s V m x) (hm:m<900000) (hs:s<zs.length) (ho:simOk zs d s x=true):∃ f rest,V.fly=f :: rest∧SimW zs d s (deliverX zs V 0 f) (m+2) (simO zs d s x):=by
 obtain ⟨hc,he⟩:=h
 obtain ⟨st,P,fly,evs⟩:=x
 cases fly with
 | nil=>cases ho
 | cons f rest =>
  refine ⟨f,rest,hc.fly,?_⟩
  simp only [simOk,Bool.and_eq_true,decide_eq_true_eq] at ho
  obtain ⟨⟨hd,ht0⟩,ho⟩:=ho
  by_cases hk:isAns f.k=true
  ·rw [if_pos hk] at ho
   have ht:=of_decide_eq_true ho
   have hcw:=hc.lead hd ht hs hk
   have hr:=hc.reach (show f.t.toNat<zs.length by rw [ht]; simpa using hs)
   refine ⟨?_,?_⟩
   ·have:simO zs d s ⟨st,P,f :: rest,evs⟩=⟨st,(phear zs s d 0 P f).1,rest ++ outL s d 0 zs.length (phear zs s d 0 P f).2,evs⟩:=by
     unfold simO; simp only; rw [if_pos hk]
    rw [this]
    exact ⟨hcw.xi.mono (by omega),hcw.l,hcw.r,hcw.ec,hcw.ev,hcw.st,hcw.ld,hcw.br,hcw.fly⟩
   ·have:(simO zs d s ⟨st,P,f :: rest,evs⟩).evs=evs:=by
     unfold simO; simp only; rw [if_pos hk]
    rw [this]
    unfold deliverX
    rw [if_pos hr]
    unfold arriveX
    rw [if_pos hk]
    show (leadX zs (takeX V 0) f.t.toNat f.d.toNat f).evs=evs
    unfold leadX
    split <;> exact he
  ·rw [if_neg hk] at ho
   simp only [Bool.and_eq_true,decide_eq_true_eq,Bool.or_eq_true,Bool.not_eq_true'] at ho
   obtain ⟨hi,hfin⟩:=ho
   have hkf:isAns f.k=false:=by simpa using hk
   have hti:f.t=(f.t.toNat:Int):=by omega
   have hil:f.t.toNat<zs.length:=by omega
   have hcw:=hc.site (by omega) hd hti hil hkf (fun hf=>by
    rcases hfin with q|q
    ·rw [q] at hf; cases hf
    ·exact q)
   have hr:=hc.reach hil
   have hsim:simO zs d s ⟨st,P,f :: rest,evs⟩=⟨upd st f.t.toNat (hearL (st f.t.toNat) false f.k.toNat f.a.toNat f.ph.toNat).st,P,rest ++ (if (hearL (st f.t.toNat) false f.k.toNat f.a.toNat f.ph.toNat).k≠0 then [ansF f.t.toNat f (hearL (st f.t.toNat) false f.k.toNat f.a.toNat f.ph.toNat)] else []),noteE evs f.t.toNat d (st f.t.toNat).ph (hearL (st f.t.toNat) false f.k.toNat f.a.toNat f.ph.toNat).st.ph⟩:=by
    unfold simO; simp only; rw [if_neg hk]
   rw [hsim]
   refine ⟨hcw,?_⟩
   have hdn:f.d.toNat=d:=by rw [hd]; exact Int.toNat_natCast d
   have e1:(deliverX zs V 0 f).evs=noteE V.evs f.t.toNat d (stN (V.nd f.t.toNat) d).ph (stN (hearN (V.nd f.t.toNat) f) d).ph:=by
    unfold deliverX
    rw [if_pos hr]
    unfold arriveX
    rw [if_neg hk]
    show noteE V.evs f.t.toNat f.d.toNat (stN (V.nd f.t.toNat) f.d.toNat).ph (stN (hearN (V.nd f.t.toNat) f) f.d.toNat).ph=_
    rw [hdn]
   have e2:stN (hearN (V.nd f.t.toNat) f) d=(hearL (st f.t.toNat) false f.k.toNat f.a.toNat f.ph.toNat).st:=by
    have h1:=hcw.st f.t.toNat hil
    have h2:(deliverX zs V 0 f).nd f.t.toNat=hearN (V.nd f.t.toNat) f:=by
     unfold deliverX
     rw [if_pos hr]
     unfold arriveX
     rw [if_neg hk]
     show (setNd (takeX V 0) f.t.toNat (hearN ((takeX V 0).nd f.t.toNat) f)).nd f.t.toNat=_
     unfold setNd
     simp only [if_true]
     rfl
    rw [h2] at h1
    rw [h1]
    unfold upd
    rw [if_pos rfl]
   rw [e1,e2,hc.st _ hil,he]
theorem sim_run:∀ (k:Nat) (V:PX) (m:Nat) (x:SimO),SimW zs d s V m x→m+2 * k<900000→s<zs.length→simAll zs d s k x=true→(simN zs d s k x).fly=[]→∀ K,k≤K→delN zs K V=k∧SimW zs d s (delX zs K V) (m+2 * k) (simN zs d s k x)
 | 0,V,m,x,h,_,_,_,hf,K,_=>by
  have hfl:V.fly=[]:=h.1.fly.trans hf
  rw [delN_nil hfl]
  have:delX zs K V=V:=by
   cases K with
   | zero=>rfl
   | succ K=>show (match V.fly with|[]=>V|f :: _=>delX zs K (deliverX zs V 0 f))=V; rw [hfl]
  rw [this]
  exact ⟨rfl,h⟩
 | k+1,V,m,x,h,hm,hs,ha,hf,K,hK=>by
  obtain ⟨K',rfl⟩:∃ K',K=K'+1:=⟨K - 1,by omega⟩
  simp only [simAll,Bool.and_eq_true] at ha
  obtain ⟨f,rest,hfl,hw⟩:=h.step (by omega) hs ha.1
  have hd:delX zs (K'+1) V=delX zs K' (deliverX zs V 0 f):=by
   show (match V.fly with|[]=>V|f :: _=>delX zs K' (deliverX zs V 0 f))=_
   rw [hfl]
  obtain ⟨h1,h2⟩:=sim_run k _ (m+2) _ hw (by omega) hs ha.2 hf K' (by omega)
  rw [delN_cons hfl,hd,h1]
  exact ⟨rfl,by rw [show m+2 * (k+1)=m+2+2 * k by omega]; exact h2⟩
end
def simStart:SimO:=⟨fun _=>⟨0,0,0⟩,P0,[askF 0 3 0,askF 0 3 1],[]⟩
theorem sim_ok:simAll [1,1] 3 0 10 simStart=true:=by decide +kernel
theorem sim_fly:(simN [1,1] 3 0 10 simStart).fly=[]:=by
 have:(simN [1,1] 3 0 10 simStart).fly.length=0:=by decide +kernel
 exact List.length_eq_zero_iff.1 this
theorem sim_evs:((simN [1,1] 3 0 10 simStart).evs.map fun e=>(e.s,e.d,e.p))=[(0,3,2),(1,3,2)]:=by decide +kernel
theorem sim_st:((simN [1,1] 3 0 10 simStart).st 1).ph=2∧((simN [1,1] 3 0 10 simStart).st 1).pr=0∧((simN [1,1] 3 0 10 simStart).st 1).at_=0:=by decide +kernel
theorem ni_new (n m:Nat):NI n (newN 512) m:=by
 have hz:∀ d,d<6→dlN (newN 512) d=(0,St.zero):=fun d hd=>by
  show dealL (zeroB 512).data.toList d=_
  rw [deal_zero 512 d (by omega)]
 refine ⟨fun d hd=>by rw [hz d hd]; exact ⟨by decide,by decide,by decide⟩,fun d hd=>by rw [hz d hd]; exact Nat.zero_le _,zeroB_size 512,fun _=>rfl,by decide,by decide,(fun d x h=>by cases h)⟩
theorem xi_new {zs:List Int} (he:errW zs=0):XI zs newX 0:=⟨he,fun i _=>ni_new zs.length 0,(fun f h=>by cases h),Nat.le_refl _,Nat.zero_le _⟩
theorem xi_hello:XI [1,1] (beginX [1,1] newX 0 3) 1:=by
 have h0:XI [1,1] newX 0:=xi_new (by decide)
 have h1:NI 2 (setLd (newX.nd 0) 3 (0,P0)) 0:=(ni_new 2 0).putLead (by decide) (by decide) (by decide) (by decide) ⟨by decide,by decide,by decide⟩
 have h2:=(h0.node (i:=0) h1 (Nat.le_refl _)).send (L:=toL 0 3 1 0 0 2) (fun f hf=>by
  have hl:toL 0 3 1 0 0 2=[askF 0 3 0,askF 0 3 1]:=by rw [toL_frs]; rfl
  rw [hl] at hf
  rcases List.mem_cons.1 hf with rfl|hf
  ·exact ⟨by decide,by decide,by decide,by decide,by decide⟩
  ·rcases List.mem_cons.1 hf with rfl|hf
   ·exact ⟨by decide,by decide,by decide,by decide,by decide⟩
   ·cases hf) (by rw [toL_frs]; decide)
 exact h2
theorem hello_world:delN [1,1] 3000 (beginX [1,1] newX 0 3)=10∧(delX [1,1] 3000 (beginX [1,1] newX 0 3)).evs=[⟨0,3,2⟩,⟨1,3,2⟩]∧stN ((delX [1,1] 3000 (beginX [1,1] newX 0 3)).nd 1) 3=⟨2,0,0⟩∧cBeg 2 newX 0 3=0:=by
 have hR:RfI [1,1] newX 3 (fun _=>false):=RfI.new (by decide)
 have hc:=hR.cw xi_hello 2
 have hw:SimW [1,1] 3 0 (beginX [1,1] newX 0 3) 1 simStart:=⟨hc,rfl⟩
 obtain ⟨h1,h2,h3⟩:=sim_run 10 _ 1 simStart hw (by omega) (by decide) sim_ok sim_fly 3000 (by omega)
 refine ⟨h1,?_,?_,hR.beg (by decide) (by decide)⟩
 ·rw [h3]
  have:=sim_evs
  revert this
  generalize (simN [1,1] 3 0 10 simStart).evs=L
  intro h
  have hl:L.length=2:=by have:=congrArg List.length h; simpa using this
  match L,hl,h with
  | [a,b],_,h =>
   simp only [List.map_cons,List.map_nil,List.cons.injEq,Prod.mk.injEq,and_true] at h
   obtain ⟨⟨a1,a2,a3⟩,b1,b2,b3⟩:=h
   obtain ⟨x1,x2,x3⟩:=a
   obtain ⟨y1,y2,y3⟩:=b
   simp_all
 ·rw [h2.st 1 (by decide)]
  have:=sim_st
  revert this
  generalize (simN [1,1] 3 0 10 simStart).st 1=t
  rintro ⟨e1,e2,e3⟩
  obtain ⟨t1,t2,t3⟩:=t
  simp_all
end Go.Proofs.YtaehdgemkafinaaGreatDoor
