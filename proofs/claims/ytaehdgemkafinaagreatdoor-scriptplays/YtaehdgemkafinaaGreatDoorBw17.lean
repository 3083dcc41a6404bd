/-
  On the way to SPlaysProof: VB VC VF YC RV S2.
-/
import Derived.Test.YtaehdgemkafinaaGreatDoorBw16
import Derived.Test.YtaehdgemkafinaaGreatDoorBw11
import Derived.Test.YtaehdgemkafinaaGreatDoorBw15
import Derived.DeepKeys4
set_option maxHeartbeats 8000000
set_option maxRecDepth 100000
namespace Go.Proofs.YtaehdgemkafinaaGreatDoor
open Go.RowKit
structure NB where
 nd:Nat
 s:Nat
 j:Nat
 mb:Nat
 p:Nat
 q:Nat
 lb:Nat→Nat
 b:Nat→Nat
 cap:Nat→Nat
def ldV (K:NB) (N:PN) (d:Nat):Value:=match N.ld d with
 | none=>.pointer none
 | some _=>.pointer (some ⟨K.lb d,0,none⟩)
theorem ldV_none {K:NB} {N:PN} {d:Nat} (h:N.ld d=none):ldV K N d=.pointer none:=by unfold ldV; rw [h]
theorem ldV_some {K:NB} {N:PN} {d:Nat} {x:Int×PL} (h:N.ld d=some x):ldV K N d=.pointer (some ⟨K.lb d,0,none⟩):=by unfold ldV; rw [h]
def ndC (K:NB) (N:PN):List Value:=[.pointer (some ⟨K.s,0,none⟩),ldV K N 0,ldV K N 1,ldV K N 2,ldV K N 3,ldV K N 4,ldV K N 5]
structure ND (w0 w:World) (C:Nat→Nat) (K:NB) (i:Nat) (zs:List Int) (N:PN) (m:Nat):Prop where
 row:w.heap[K.nd]? = some (.cells (ndC K N).toArray 152 (0,0))
 sp:SP w0 w K.s K.j K.mb K.p K.q i N.R m (dlN N) N.over N.B N.l
 lds:∀ d,d<6→∀ x,N.ld d=some x→LD w (K.lb d) (K.b d) (K.cap d) i d x.1 zs x.2
 cn:C K.nd=100 * i+1
 cs:C K.s=100 * i+2
 cj:C K.j=100 * i+3
 cm:C K.mb=100 * i+4
 cp:C K.p=100 * i+5
 cq:C K.q=100 * i+6
 cl:∀ d,d<6→∀ x,N.ld d=some x→C (K.lb d)=100 * i+10+d∧C (K.b d)=100 * i+20+d
 n0:w0.heap.size≤K.nd
section
variable {w0 w w':World} {C C':Nat→Nat} {K:NB} {i m:Nat} {zs:List Int} {N:PN}
theorem ND.kept {S:Nat→Prop} (h:ND w0 w C K i zs N m) (k:Kept S w w') (hS:∀ x,x<w.heap.size→C x / 100=i→¬ S x) (hb:∀ x,S x→w0.heap.size≤x):ND w0 w' C K i zs N m:=by
 obtain ⟨l1,l2,l3,l4,l5⟩:=h.sp.lts
 have e1:=h.cs; have e2:=h.cj; have e3:=h.cm; have e4:=h.cp; have e5:=h.cq; have e6:=h.cn
 refine ⟨k.row h.row (hS _ (row_ltJ h.row) (by omega)),h.sp.far k hb ?_ (hS _ l1 (by omega)) (hS _ l2 (by omega)),fun d hd x hx=>?_,h.cn,h.cs,h.cj,h.cm,h.cp,h.cq,h.cl,h.n0⟩
 ·rintro x (rfl|rfl|rfl)
  ·exact hS _ l3 (by omega)
  ·exact hS _ l4 (by omega)
  ·exact hS _ l5 (by omega)
 ·have g:=h.cl d hd x hx
  have r:=h.lds d hd x hx
  have r1:=row_ltJ r.row
  exact r.kept k (hS _ r1 (by omega)) (hS _ (Nat.lt_trans r.bl r1) (by omega))
theorem ND.later (h:ND w0 w C K i zs N m) (hb:Below w.heap.size w w'):ND w0 w' C K i zs N m :=
 h.kept (S:=fun _=>False) (Kept.of_below hb) (fun _ _ _ x=>x) (fun _ x=>x.elim)
theorem ND.col (h:ND w0 w C K i zs N m) (hC:∀ x,x<w.heap.size→C' x=C x):ND w0 w C' K i zs N m:=by
 obtain ⟨l1,l2,l3,l4,l5⟩:=h.sp.lts
 refine ⟨h.row,h.sp,h.lds,(hC _ (row_ltJ h.row)).trans h.cn,(hC _ l1).trans h.cs,(hC _ l3).trans h.cj,(hC _ l2).trans h.cm,(hC _ l4).trans h.cp,(hC _ l5).trans h.cq,fun d hd x hx=>?_,h.n0⟩
 have g:=h.cl d hd x hx
 have r:=h.lds d hd x hx
 have r1:=row_ltJ r.row
 exact ⟨(hC _ r1).trans g.1,(hC _ (Nat.lt_trans r.bl r1)).trans g.2⟩
theorem ND.mono {k:Nat} (h:ND w0 w C K i zs N m) (hk:m≤k):ND w0 w C K i zs N k:=⟨h.row,h.sp.mono hk,h.lds,h.cn,h.cs,h.cj,h.cm,h.cp,h.cq,h.cl,h.n0⟩
theorem ND.cell (h:ND w0 w C K i zs N m) (j:Nat):w.cell? ⟨K.nd,j,none⟩=(ndC K N)[j]?:=by
 rw [cell_of_row w K.nd j _ _ _ h.row,List.getElem?_toArray]
theorem ND.site (h:ND w0 w C K i zs N m):w.cell? ⟨K.nd,0,none⟩=some (.pointer (some ⟨K.s,0,none⟩)):=h.cell 0
theorem ND.lead (h:ND w0 w C K i zs N m) {d:Nat} (hd:d<6):w.cell? ⟨K.nd,1+d,none⟩=some (ldV K N d):=by
 rw [h.cell]
 rcases six hd with rfl|rfl|rfl|rfl|rfl|rfl <;> rfl
theorem ND.fz (h:ND w0 w C K i zs N m) (j:Nat):w.frozen? ⟨K.nd,j,none⟩=false:=frozen_of_row w K.nd j _ _ h.row
theorem ND.way (h:ND w0 w C K i zs N m):w.cell? ⟨K.nd,0,none⟩=some (.pointer (some ⟨K.s,0,none⟩))∧w.cell? ⟨K.s,0,none⟩=some (.pointer (some ⟨K.j,0,none⟩))∧w.cell? ⟨K.j,0,none⟩=some (.pointer (some ⟨K.p,0,none⟩)) :=
 ⟨h.site,h.sp.sr.cells.1,h.sp.jp.jr.plate⟩
end
structure XB where
 xb:Nat
 wb:Nat
 wc:Nat
 nb:Nat
 nc:Nat
 mb:Nat
 fv:Value
 ev:Value
 K:Nat→NB
def wdC (X:XB) (n:Nat):List Value:=[.slice (some ⟨X.wb,0,none⟩) n X.wc,.slice (some ⟨X.nb,0,none⟩) n X.nc,.map (some X.mb),X.fv,X.ev]
def pairV (a b:Nat):Value:=.agg #[.int .i64 (a:Int),.int .i64 (b:Int)]
structure WD (w0 w:World) (C:Nat→Nat) (X:XB) (zs:List Int) (V:PX) (m:Nat):Prop where
 bel:Below w0.heap.size w0 w
 row:w.heap[X.xb]? = some (.cells (wdC X zs.length).toArray 148 (0,0))
 ws:∀ i,i<zs.length→w.cell? ⟨X.wb,0+i,none⟩=some (.int .i64 (zs.getD i 0))
 ns:∀ i,i<zs.length→w.cell? ⟨X.nb,i,none⟩=some (.pointer (some ⟨(X.K i).nd,0,none⟩))
 nds:∀ i,i<zs.length→ND w0 w C (X.K i) i zs (V.nd i) m
 brk:∃ D:DataW Unit,w.ownsMap Tryz.prog 172 unitElem X.mb m D∧∀ a b,a<7→b<7→∀ l,keyOf Tryz.prog 172 (pairV a b)=some l→Maps.has D l=V.br a b
 fly:OwnF w w0.heap.size X.fv V.fly
 evs:w.ownsRow w0.heap.size 180 3 X.ev V.evs.length (evCells V.evs)
 cx:C X.xb=1001
 cw:C X.wb=1002
 cn:C X.nb=1003
 cm:C X.mb=1004
 cf:∀ g,X.fv.ownBlock=some g→C g=1005
 ce:∀ g,X.ev.ownBlock=some g→C g=1006
 lt:∀ x,C x<2000→x<w.heap.size
 low:∀ x,C x<2000→w0.heap.size≤x
 inv:XI zs V m
theorem own_kept {S:Nat→Prop} {w w':World} {e:TypeId} {size n base:Nat} {v:Value} {xs:List Value} (h:w.ownsRow base e size v n xs) (k:Kept S w w') (hs:∀ g,v.ownBlock=some g→¬ S g):w'.ownsRow base e size v n xs:=by
 refine ⟨h.1,?_⟩
 rcases h.2 with hn|⟨g,cap,cur,rfl,hb',hgg,rest⟩
 ·exact .inl hn
 ·exact .inr ⟨g,cap,cur,rfl,hb',k.row hgg (hs g rfl),rest⟩
theorem cell_kept {S:Nat→Prop} {w w':World} {a:Addr} {v:Value} (h:w.cell? a=some v) (k:Kept S w w') (hs:¬ S a.block):w'.cell? a=some v:=by
 have hb:=cell_lt h
 unfold World.cell? at h ⊢
 rw [k.block _ hb hs]
 exact h
section
variable {w0 w w':World} {C C':Nat→Nat} {X:XB} {m:Nat} {zs:List Int} {V V':PX}
theorem WD.n7 (h:WD w0 w C X zs V m):1≤zs.length∧zs.length≤7:=⟨(errW_zero h.inv.he).1,(errW_zero h.inv.he).2.1⟩
theorem WD.later (h:WD w0 w C X zs V m) (hb:Below w.heap.size w w'):WD w0 w' C X zs V m:=by
 have k:Kept (fun _=>False) w w':=Kept.of_below hb
 obtain ⟨D,hD,hh⟩:=h.brk
 exact ⟨h.bel.trans (hb.mono h.bel.size),k.row h.row (fun x=>x),fun i hi=>cell_kept (h.ws i hi) k (fun x=>x),fun i hi=>cell_kept (h.ns i hi) k (fun x=>x),fun i hi=>(h.nds i hi).later hb,
  ⟨D,ownsMap_kept hD k (fun x=>x),hh⟩,h.fly.kept k (fun _ _ x=>x),own_kept h.evs k (fun _ _ x=>x),h.cx,h.cw,h.cn,h.cm,h.cf,h.ce,fun x hx=>Nat.lt_of_lt_of_le (h.lt x hx) hb.size,h.low,h.inv⟩
theorem WD.drew (h:WD w0 w C X zs V m):WD w0 w.drew C X zs V m:=h.later (Below.refl _ _).drew
theorem WD.cell (h:WD w0 w C X zs V m) (j:Nat):w.cell? ⟨X.xb,j,none⟩=(wdC X zs.length)[j]?:=by
 rw [cell_of_row w X.xb j _ _ _ h.row,List.getElem?_toArray]
theorem WD.cells (h:WD w0 w C X zs V m):w.cell? ⟨X.xb,0,none⟩=some (.slice (some ⟨X.wb,0,none⟩) zs.length X.wc)∧w.cell? ⟨X.xb,1,none⟩=some (.slice (some ⟨X.nb,0,none⟩) zs.length X.nc)∧w.cell? ⟨X.xb,2,none⟩=some (.map (some X.mb))∧w.cell? ⟨X.xb,3,none⟩=some X.fv∧w.cell? ⟨X.xb,4,none⟩=some X.ev :=
 ⟨h.cell 0,h.cell 1,h.cell 2,h.cell 3,h.cell 4⟩
theorem WD.fz (h:WD w0 w C X zs V m) (j:Nat):w.frozen? ⟨X.xb,j,none⟩=false:=frozen_of_row w X.xb j _ _ h.row
def OwnX (C:Nat→Nat) (x:Nat):Prop:=C x<2000
theorem WD.held {A:Nat→Addr} (h:WD w0 w C X zs V m) (hE:Held9 w0 A):Held9 w A:=hE.later h.bel
theorem WD.node {S:Nat→Prop} {i m':Nat} {N:PN} {K:NB} (h:WD w0 w C X zs V m) (k:Kept S w w') (hi:i<zs.length) (hS:∀ x,S x→C x / 100=i) (hC:∀ x,x<w.heap.size→C' x=C x) (hl:∀ x,w.heap.size≤x→C' x<2000→x<w'.heap.size) (hN:ND w0 w' C' K i zs N m') (hK:K.nd=(X.K i).nd) (hm:m≤m') (hI:XI zs (setNd V i N) m') :
  WD w0 w' C' { X with K:=fun e=>if e=i then K else X.K e } zs (setNd V i N) m':=by
 have n7:=h.n7.2
 have hs0:=h.bel.size
 have hlow:∀ x,S x→w0.heap.size≤x:=fun x hx=>h.low x (by have:=hS x hx; omega)
 have nS:∀ x,C x / 100≠i→¬ S x:=fun x hx hs=>hx (hS x hs)
 obtain ⟨D,hD,hh⟩:=h.brk
 have cx:=h.cx; have cw:=h.cw; have cn:=h.cn; have cm:=h.cm
 have o:∀ {x c:Nat},C x=c→c<2000→C' x=c:=fun {x c} e hc=>(hC x (h.lt x (by omega))).trans e
 refine ⟨k.below h.bel.size hlow h.bel,k.row h.row (nS X.xb (by omega)),fun e he=>cell_kept (h.ws e he) k (nS _ (by show C X.wb / 100≠i; omega)),fun e he=>?_,fun e he=>?_,
  ⟨D,(ownsMap_kept hD k (nS X.mb (by omega))).mono hm,hh⟩,h.fly.kept k (fun g hg=>nS g (by have:=h.cf g hg; omega)),own_kept h.evs k (fun g hg=>nS g (by have:=h.ce g hg; omega)),o h.cx (by omega),o h.cw (by omega),o h.cn (by omega),o h.cm (by omega),fun g hg=>o (h.cf g hg) (by omega),fun g hg=>o (h.ce g hg) (by omega),fun x hx=>?_,fun x hx=>?_,hI⟩
 ·have:=cell_kept (h.ns e he) k (nS _ (by show C X.nb / 100≠i; omega))
  rw [this]
  by_cases g:e=i
  ·subst g; simp [hK]
  ·simp [g]
 ·by_cases g:e=i
  ·subst g
   simpa [setNd] using hN
  ·have:=(((h.nds e he).col hC).kept k (fun x hlt hx=>nS x (by rw [← hC x hlt]; omega)) hlow).mono hm
   simpa [setNd,g] using this
 ·rcases Nat.lt_or_ge x w.heap.size with q|q
  ·exact Nat.lt_of_lt_of_le q k.size
  ·exact hl x q hx
 ·rcases Nat.lt_or_ge x w.heap.size with q|q
  ·exact h.low x (by rw [← hC x q]; exact hx)
  ·omega
theorem WD.grow (h:WD w0 w C X zs V m) (hb:Below w.heap.size w w') (hC:∀ x,x<w.heap.size→C' x=C x) (hl:∀ x,w.heap.size≤x→C' x<2000→x<w'.heap.size):WD w0 w' C' X zs V m:=by
 have g:=h.later hb
 obtain ⟨D,hD,hh⟩:=g.brk
 have hs:=h.bel.size
 have o:∀ {x c:Nat},C x=c→c<2000→C' x=c:=fun {x c} e hc=>(hC x (h.lt x (by omega))).trans e
 refine ⟨g.bel,g.row,g.ws,g.ns,fun i hi=>((h.nds i hi).col hC).later hb,⟨D,hD,hh⟩,g.fly,g.evs,o h.cx (by omega),o h.cw (by omega),o h.cn (by omega),o h.cm (by omega),fun g hg=>o (h.cf g hg) (by omega),fun g hg=>o (h.ce g hg) (by omega),fun x hx=>?_,fun x hx=>?_,h.inv⟩
 ·rcases Nat.lt_or_ge x w.heap.size with q|q
  ·exact Nat.lt_of_lt_of_le q hb.size
  ·exact hl x q hx
 ·rcases Nat.lt_or_ge x w.heap.size with q|q
  ·exact h.low x (by rw [← hC x q]; exact hx)
  ·omega
def paint (C:Nat→Nat) (x c:Nat):Nat→Nat:=fun y=>if y=x then c else C y
theorem paint_at (C:Nat→Nat) (x c:Nat):paint C x c x=c:=if_pos rfl
theorem paint_ne {C:Nat→Nat} {x c y:Nat} (h:y≠x):paint C x c y=C y:=if_neg h
theorem WD.own {fv ev:Value} {F:List F9} {E:List E3} {m':Nat} {S:Nat→Prop} (h:WD w0 w C X zs V m) (k:Kept S w w') (hS:∀ x,S x→C x=1001 ∨ C x=1005 ∨ C x=1006) (hC:∀ x,x<w.heap.size→C' x=C x) (hl:∀ x,w.heap.size≤x→C' x<2000→x<w'.heap.size) (hr:w'.heap[X.xb]? = some (.cells (wdC { X with fv:=fv,ev:=ev } zs.length).toArray 148 (0,0)))
  (hf:OwnF w' w0.heap.size fv F) (he:w'.ownsRow w0.heap.size 180 3 ev E.length (evCells E)) (cf:∀ g,fv.ownBlock=some g→C' g=1005) (ce:∀ g,ev.ownBlock=some g→C' g=1006) (hm:m≤m') (hI:XI zs { V with fly:=F,evs:=E } m') :
  WD w0 w' C' { X with fv:=fv,ev:=ev } zs { V with fly:=F,evs:=E } m':=by
 have n7:=h.n7.2
 have hs0:=h.bel.size
 have hlow:∀ x,S x→w0.heap.size≤x:=fun x hx=>h.low x (by rcases hS x hx with g|g|g <;> omega)
 have nS:∀ x,C x≠1001→C x≠1005→C x≠1006→¬ S x:=fun x h1 h2 h3 hs=>by rcases hS x hs with g|g|g <;> omega
 obtain ⟨D,hD,hh⟩:=h.brk
 have cx:=h.cx; have cw:=h.cw; have cn:=h.cn; have cm:=h.cm
 have o:∀ {x c:Nat},C x=c→c<2000→C' x=c:=fun {x c} e hc=>(hC x (h.lt x (by omega))).trans e
 refine ⟨k.below h.bel.size hlow h.bel,hr,fun e he=>cell_kept (h.ws e he) k (nS _ (by show C X.wb≠_; omega) (by show C X.wb≠_; omega) (by show C X.wb≠_; omega)),fun e he=>cell_kept (h.ns e he) k (nS _ (by show C X.nb≠_; omega) (by show C X.nb≠_; omega) (by show C X.nb≠_; omega)),fun e he=>(((h.nds e he).col hC).kept k (fun x hlt hx=>by rw [hC x hlt] at hx; exact nS x (by omega) (by omega) (by omega)) hlow).mono hm,
  ⟨D,(ownsMap_kept hD k (nS X.mb (by omega) (by omega) (by omega))).mono hm,hh⟩,hf,he,o h.cx (by omega),o h.cw (by omega),o h.cn (by omega),o h.cm (by omega),cf,ce,fun x hx=>?_,fun x hx=>?_,hI⟩
 ·rcases Nat.lt_or_ge x w.heap.size with q|q
  ·exact Nat.lt_of_lt_of_le q k.size
  ·exact hl x q hx
 ·rcases Nat.lt_or_ge x w.heap.size with q|q
  ·exact h.low x (by rw [← hC x q]; exact hx)
  ·omega
end
section
variable {w0 w:World} {C:Nat→Nat} {X:XB} {m:Nat} {zs:List Int} {V:PX} {A:Nat→Addr}
theorem has_is (s:Int) (b:Bool) (h:WD w0 w C X zs V m) (hb:decide (0≤s∧s<zs.length)=b) :
  Calls Tryz.prog 118 #[.pointer (some ⟨X.xb,0,none⟩),.int .i64 s] w fun e w'=>e=.returned (.bool b)∧w'=w:=by
 obtain ⟨-,c1,-,-,-⟩:=h.cells
 have n7:=h.n7
 obtain ⟨n,hn⟩:∃ n,zs.length=n:=⟨_,rfl⟩
 rw [hn] at c1 n7 hb
 clear h hn
 subst hb
 by_cases h0:0≤s
 ·by_cases h1:s<n
  ·have e:decide (0≤s∧s<n)=true:=decide_eq_true ⟨h0,h1⟩
   rw [e]
   clear e
   go_enter Tryz.func118,Tryz.ntmps118
   go_wp2_with fail
   go_ret
   exact ⟨rfl,rfl⟩
  ·have e:decide (0≤s∧s<n)=false:=decide_eq_false (fun g=>h1 g.2)
   rw [e]
   clear e
   go_enter Tryz.func118,Tryz.ntmps118
   go_wp2_with fail
   go_ret
   exact ⟨rfl,rfl⟩
 ·have e:decide (0≤s∧s<n)=false:=decide_eq_false (fun g=>h0 g.1)
  have h2:decide (0≤s)=false:=decide_eq_false h0
  rw [e]
  clear e
  go_enter Tryz.func118,Tryz.ntmps118
  go_wp2_with fail
  go_ret
  exact ⟨rfl,rfl⟩
theorem find_no (s:Int) (h:WD w0 w C X zs V m) (hE:Held9 w0 A) (hs:¬ (0≤s∧s<zs.length)) :
  Calls Tryz.prog 107 #[.pointer (some ⟨X.xb,0,none⟩),.int .i64 s] w fun e w'=>e=.returned (.tuple #[.pointer none,.iface 318 (.pointer (some (A 1)))])∧Below w.heap.size w w':=by
 have H:=hid h
 have hb:=decide_eq_false hs
 have g1:=(h.held hE).g1
 clear h hE hs
 have HB:=hid hb
 clear hb
 go_enter Tryz.func107,Tryz.ntmps107
 go_wp2_with fail
 refine (has_is s false H.out HB.out).mono ?_
 rintro e w1 ⟨rfl,hx⟩
 subst w1
 go_wp2_with fail
 go_quiet (fail)
 go_wp2
 go_ret2
 exact ⟨rfl,below_drewN (Below.refl _ _) _⟩
theorem find_ok (s:Nat) (h:WD w0 w C X zs V m) (hs:s<zs.length) :
  Calls Tryz.prog 107 #[.pointer (some ⟨X.xb,0,none⟩),.int .i64 (s:Int)] w fun e w'=>e=.returned (.tuple #[.pointer (some ⟨(X.K s).nd,0,none⟩),.nilIface])∧w'=w:=by
 have H:=hid h
 have HB:Hid (decide (0≤(s:Int)∧(s:Int)<zs.length)=true):=decide_eq_true (by omega)
 obtain ⟨-,c1,-,-,-⟩:=h.cells
 have c2:=h.ns s hs
 have n7:=h.n7
 obtain ⟨n,hn⟩:∃ n,Hid (zs.length=n):=⟨_,rfl⟩
 rw [hn.out] at c1 n7 hs
 clear h
 go_enter Tryz.func107,Tryz.ntmps107
 go_wp2_with fail
 refine (has_is (s:Int) true H.out HB.out).mono ?_
 rintro e w1 ⟨rfl,hx⟩
 subst w1
 go_wp2_with fail
 go_ret2
 exact ⟨rfl,rfl⟩
theorem findDeal_no (s d:Int) (h:WD w0 w C X zs V m) (hE:Held9 w0 A) (hs:¬ ((0≤s∧s<zs.length)∧0≤d∧d<6)) :
  Calls Tryz.prog 101 #[.pointer (some ⟨X.xb,0,none⟩),.int .i64 s,.int .i64 d] w fun e w'=>e=.returned (.tuple #[.pointer none,.iface 318 (.pointer (some (A 1)))])∧Below w.heap.size w w':=by
 have H:=hid h
 have HE:=hid hE
 have g1:=(h.held hE).g1
 by_cases d0:0≤d
 ·by_cases d6:d<6
  ·have HS:Hid (¬ (0≤s∧s<zs.length)):=fun g=>hs ⟨g,d0,d6⟩
   clear h hs hE
   go_enter Tryz.func101,Tryz.ntmps101
   go_wp2_with fail
   refine (find_no s H.out HE.out HS.out).mono ?_
   rintro e w1 ⟨rfl,hx⟩
   have HX:=hid hx
   clear hx
   go_wp2_with fail
   go_ret2
   exact ⟨rfl,HX.out⟩
  ·clear h hs hE
   go_enter Tryz.func101,Tryz.ntmps101
   go_wp2_with fail
   go_quiet (fail)
   go_wp2
   go_ret2
   exact ⟨rfl,below_drewN (Below.refl _ _) _⟩
 ·have h0:d<0:=by omega
  clear h hs hE
  go_enter Tryz.func101,Tryz.ntmps101
  go_wp2_with fail
  go_quiet (fail)
  go_wp2
  go_ret2
  exact ⟨rfl,below_drewN (Below.refl _ _) _⟩
theorem findDeal_ok (s d:Nat) (h:WD w0 w C X zs V m) (hs:s<zs.length) (hd:d<6) :
  Calls Tryz.prog 101 #[.pointer (some ⟨X.xb,0,none⟩),.int .i64 (s:Int),.int .i64 (d:Int)] w fun e w'=>e=.returned (.tuple #[.pointer (some ⟨(X.K s).nd,0,none⟩),.nilIface])∧w'=w:=by
 have H:=hid h
 have HS:=hid hs
 have d0:¬ (d:Int)<0:=by omega
 have d6:¬ 6≤(d:Int):=by omega
 clear h hs
 go_enter Tryz.func101,Tryz.ntmps101
 go_wp2_with fail
 refine (find_ok s H.out HS.out).mono ?_
 rintro e w1 ⟨rfl,hx⟩
 subst w1
 go_wp2_with fail
 go_ret2
 exact ⟨rfl,rfl⟩
theorem powered_err (v:Value) (a:Addr) :
  Calls Tryz.prog 100 #[v,.iface 318 (.pointer (some a))] w fun e w'=>e=.returned (.tuple #[.pointer none,.iface 318 (.pointer (some a))])∧w'=w:=by
 go_enter Tryz.func100,Tryz.ntmps100
 go_wp2_with fail
 go_ret2
 exact ⟨rfl,rfl⟩
theorem powered_is {K:NB} {i:Nat} {N:PN} (b:Bool) (h:ND w0 w C K i zs N m) (hE:Held9 w A) (hb:(N.l != -2)=b) :
  Calls Tryz.prog 100 #[.pointer (some ⟨K.nd,0,none⟩),.nilIface] w fun e w'=>e=.returned (.tuple #[if b=true then .pointer (some ⟨K.nd,0,none⟩) else .pointer none,if b=true then .nilIface else .iface 318 (.pointer (some (A 5)))])∧Below w.heap.size w w':=by
 have H:=hid h.sp.jp.pl
 obtain ⟨c0,c1,c2⟩:=h.way
 have g5:=hE.g5
 have HB:=hid hb
 clear h hE hb
 cases b with
 | true =>
  go_enter Tryz.func100,Tryz.ntmps100
  go_wp2_with fail
  refine (power_any K.p K.q N.B N.l w H.out).mono ?_
  rintro e w1 ⟨rfl,hx⟩
  subst w1
  rw [HB.out]
  go_wp2_with fail
  go_ret2
  exact ⟨rfl,Below.refl _ _⟩
 | false =>
  go_enter Tryz.func100,Tryz.ntmps100
  go_wp2_with fail
  refine (power_any K.p K.q N.B N.l w H.out).mono ?_
  rintro e w1 ⟨rfl,hx⟩
  subst w1
  rw [HB.out]
  go_wp2_with fail
  go_quiet (fail)
  go_wp2
  go_ret2
  exact ⟨rfl,below_drewN (Below.refl _ _) _⟩
theorem flies_is (s:Int) (b:Bool) (h:WD w0 w C X zs V m) (hb:decide (0≤s∧s<V.fly.length)=b) :
  Calls Tryz.prog 113 #[.pointer (some ⟨X.xb,0,none⟩),.int .i64 s] w fun e w'=>e=.returned (.bool b)∧w'=w:=by
 obtain ⟨-,-,-,c3,-⟩:=h.cells
 obtain ⟨n,hn⟩:∃ n,V.fly.length=n:=⟨_,rfl⟩
 have hv:∃ ad cap,X.fv=.slice ad n cap:=by
  rw [← hn]
  exact h.fly.form
 obtain ⟨ad,cap,hv⟩:=hv
 rw [hv] at c3
 rw [hn] at hb
 clear h hn
 subst hb
 by_cases h0:0≤s
 ·by_cases h1:s<n
  ·have e:decide (0≤s∧s<n)=true:=decide_eq_true ⟨h0,h1⟩
   rw [e]
   clear e
   go_enter Tryz.func113,Tryz.ntmps113
   go_wp2_with fail
   go_ret
   exact ⟨rfl,rfl⟩
  ·have e:decide (0≤s∧s<n)=false:=decide_eq_false (fun g=>h1 g.2)
   rw [e]
   clear e
   go_enter Tryz.func113,Tryz.ntmps113
   go_wp2_with fail
   go_ret
   exact ⟨rfl,rfl⟩
 ·have e:decide (0≤s∧s<n)=false:=decide_eq_false (fun g=>h0 g.1)
  have h2:decide (0≤s)=false:=decide_eq_false h0
  rw [e]
  clear e
  go_enter Tryz.func113,Tryz.ntmps113
  go_wp2_with fail
  go_ret
  exact ⟨rfl,rfl⟩
end
theorem wisEnd_is (p:Nat) (b:Bool) (w:World) (hb:finB p=b) :
  Calls Tryz.prog 109 #[.int .i64 (p:Int)] w fun e w'=>e=.returned (.bool b)∧w'=w:=by
 subst hb
 unfold finB
 by_cases h2:p=2
 ·subst h2
  go_enter Tryz.func109,Tryz.ntmps109
  go_wp2_with fail
  go_ret
  exact ⟨rfl,rfl⟩
 ·by_cases h3:p=3
  ·subst h3
   go_enter Tryz.func109,Tryz.ntmps109
   go_wp2_with fail
   go_ret
   exact ⟨rfl,rfl⟩
  ·have e:decide (p=2 ∨ p=3)=false:=decide_eq_false (by omega)
   have i2:¬ (p:Int)=2:=by omega
   have i3:¬ (p:Int)=3:=by omega
   rw [e]
   clear e
   have b2:((p:Int) == 2)=false:=beq_eq_false_iff_ne.2 i2
   have b3:((p:Int) == 3)=false:=beq_eq_false_iff_ne.2 i3
   go_enter Tryz.func109,Tryz.ntmps109
   go_wp2_with fail
   go_ret
   exact ⟨rfl,rfl⟩
theorem known_is {w:World} {s j mb p n:Nat} {id:Int} {R:Nat→Bool} {E:Nat→Nat×St} {over:Bool} (d h1 h2 h3:Nat) (hj:JR w j p E over) (h:SR w s j mb id R n) (hd:d<6) (hs:(E d).2=⟨h1,h2,h3⟩) :
  Calls Tryz.prog 108 #[.pointer (some ⟨s,0,none⟩),.int .i64 (d:Int)] w fun e w'=>e=.returned (agS h1 h2 h3)∧Below w.heap.size w w':=by
 obtain ⟨W,HW⟩:∃ W,Hid (w.alloc (.cells #[.int .i64 0,.int .i64 0,.int .i64 0] 80)=W):=⟨_,rfl⟩
 have HB:Hid (Below w.heap.size w W):=by rw [← HW.out]; exact (Below.refl _ _).alloc (Nat.le_refl _) _
 have HR:Hid (W.heap[w.heap.size]? = some (.cells #[.int .i64 0,.int .i64 0,.int .i64 0] 80 (0,0))):=by rw [← HW.out]; exact heap_alloc_new w _
 have HJ:=hid (hj.later HB.out hj.lt)
 have HS2:=hid (h.later HB.out)
 have HS:=hid hs
 have hW:=HW.out
 clear hj h hs
 go_enter Tryz.func108,Tryz.ntmps108
 go_wp2_with (go_at_call 161; (with_reducible refine (sstate_is d h1 h2 h3 HJ.out HS2.out hd HS.out).mono ?_); rintro e w1 ⟨rfl,hb1⟩; have HR1:=hid ((hb1.block _ (row_ltJ HR.out)).trans HR.out); have HB1:=hid (HB.out.trans (hb1.mono HB.out.size)); clear hb1; obtain ⟨W2,HW2⟩:∃ W2,Hid (w1.alloc (.cells #[.int .i64 (h1:Int),.int .i64 (h2:Int),.int .i64 (h3:Int)] 80)=W2):=⟨_,rfl⟩; have hW2:=HW2.out; have HR2:Hid (W2.heap[w.heap.size]? = some (.cells #[.int .i64 0,.int .i64 0,.int .i64 0] 80 (0,0))):=hid (by rw [← HW2.out]; exact (Below.heap_alloc w1 _ _ (row_ltJ HR1.out)).trans HR1.out); have HN2:Hid (W2.heap[w1.heap.size]? = some (.cells #[.int .i64 (h1:Int),.int .i64 (h2:Int),.int .i64 (h3:Int)] 80 (0,0))):=hid (by rw [← HW2.out]; exact heap_alloc_new w1 _); have HB2:Hid (Below w.heap.size w W2):=hid (by rw [← HW2.out]; exact HB1.out.alloc HB1.out.size _); have c0:W2.cell? ⟨w.heap.size,0,none⟩=some (.int .i64 0):=(cell_of_row _ _ 0 _ _ _ HR2.out); have c1:W2.cell? ⟨w.heap.size,1,none⟩=some (.int .i64 0):=(cell_of_row _ _ 1 _ _ _ HR2.out); have c2:W2.cell? ⟨w.heap.size,2,none⟩=some (.int .i64 0):=(cell_of_row _ _ 2 _ _ _ HR2.out); have z0:=frozen_of_row _ _ 0 _ _ HR2.out; have z1:=frozen_of_row _ _ 1 _ _ HR2.out; have z2:=frozen_of_row _ _ 2 _ _ HR2.out; have d0:W2.cell? ⟨w1.heap.size,0,none⟩=some (.int .i64 (h1:Int)):=(cell_of_row _ _ 0 _ _ _ HN2.out); have d1:W2.cell? ⟨w1.heap.size,1,none⟩=some (.int .i64 (h2:Int)):=(cell_of_row _ _ 1 _ _ _ HN2.out); have d2:W2.cell? ⟨w1.heap.size,2,none⟩=some (.int .i64 (h3:Int)):=(cell_of_row _ _ 2 _ _ _ HN2.out))
 refine bodyPost_ret (results_cell_row rfl _ _ w.heap.size 80 _ (0,0) _ rfl (set3 HR2.out _ _ _) Tryz.underlying80 rfl sizeState) rfl ?_
 exact ⟨rfl,((HB2.out.setCell (Nat.le_refl _) _).setCell (Nat.le_refl _) _).setCell (Nat.le_refl _) _⟩
structure Z3 (w W:World) (g:Nat):Prop where
 r:W.heap[g]? = some (.cells #[.int .i64 0,.int .i64 0,.int .i64 0] 80 (0,0))
 b:Below w.heap.size w W
theorem Z3.later {w W W':World} {g:Nat} (h:Z3 w W g) (hb:Below W.heap.size W W'):Z3 w W' g:=⟨(hb.block _ (row_ltJ h.r)).trans h.r,h.b.trans (hb.mono h.b.size)⟩
theorem Z3.cells {w W:World} {g:Nat} (h:Z3 w W g):W.cell? ⟨g,0,none⟩=some (.int .i64 0)∧W.cell? ⟨g,1,none⟩=some (.int .i64 0)∧W.cell? ⟨g,2,none⟩=some (.int .i64 0)∧W.frozen? ⟨g,0,none⟩=false∧W.frozen? ⟨g,1,none⟩=false∧W.frozen? ⟨g,2,none⟩=false :=
 ⟨cell_of_row _ _ 0 _ _ _ h.r,cell_of_row _ _ 1 _ _ _ h.r,cell_of_row _ _ 2 _ _ _ h.r,frozen_of_row _ _ 0 _ _ h.r,frozen_of_row _ _ 1 _ _ h.r,frozen_of_row _ _ 2 _ _ h.r⟩
theorem z3 (w:World):Z3 w (w.alloc (.cells #[.int .i64 0,.int .i64 0,.int .i64 0] 80)) w.heap.size:=⟨heap_alloc_new w _,(Below.refl _ _).alloc (Nat.le_refl _) _⟩
section
variable {w0 w:World} {C:Nat→Nat} {K:NB} {X:XB} {i m:Nat} {zs:List Int} {N:PN} {V:PX} {A:Nat→Addr}
theorem kept_up (d h1 h2 h3:Nat) (h:ND w0 w C K i zs N m) (hu:(N.l != -2)=true) (hd:d<6) (hs:stN N d=⟨h1,h2,h3⟩) :
  Calls Tryz.prog 156 #[.pointer (some ⟨K.nd,0,none⟩),.int .i64 (d:Int)] w fun e w'=>e=.returned (agS h1 h2 h3)∧Below w.heap.size w w':=by
 obtain ⟨W,HW⟩:∃ W,Hid (w.alloc (.cells #[.int .i64 0,.int .i64 0,.int .i64 0] 80)=W):=⟨_,rfl⟩
 have HZ:Hid (Z3 w W w.heap.size):=by rw [← HW.out]; exact z3 w
 have H:=hid (h.later HZ.out.b)
 obtain ⟨c0,c1,c2⟩:=(h.later HZ.out.b).way
 have HU:=hid hu
 have HS:=hid hs
 have hW:=HW.out
 clear h hu hs
 go_enter Tryz.func156,Tryz.ntmps156
 go_wp2_with fail
 refine (power_any K.p K.q N.B N.l W H.out.sp.jp.pl).mono ?_
 rintro e w1 ⟨rfl,hx⟩
 subst w1
 rw [HU.out]
 go_wp2_with fail
 refine (known_is d h1 h2 h3 H.out.sp.jp.jr H.out.sp.sr hd HS.out).mono ?_
 rintro e w1 ⟨rfl,hb1⟩
 have HZ1:=hid (HZ.out.later hb1)
 obtain ⟨d0,d1,d2,z0,z1,z2⟩:=HZ1.out.cells
 clear hb1
 go_wp2_with fail
 refine bodyPost_ret (results_cell_row rfl _ _ w.heap.size 80 _ (0,0) _ rfl (set3 HZ1.out.r _ _ _) Tryz.underlying80 rfl sizeState) rfl ?_
 exact ⟨rfl,((HZ1.out.b.setCell (Nat.le_refl _) _).setCell (Nat.le_refl _) _).setCell (Nat.le_refl _) _⟩
theorem kept_down (d h1 h2 h3:Nat) (h:ND w0 w C K i zs N m) (hE:Held9 w A) (hz:N.B.size=512) (hu:(N.l != -2)=false) (hd:d<6) (hs:stN N d=⟨h1,h2,h3⟩) :
  Calls Tryz.prog 156 #[.pointer (some ⟨K.nd,0,none⟩),.int .i64 (d:Int)] w fun e w'=>e=.returned (agS h1 h2 h3)∧Below w.heap.size w w':=by
 obtain ⟨W,HW⟩:∃ W,Hid (w.alloc (.cells #[.int .i64 0,.int .i64 0,.int .i64 0] 80)=W):=⟨_,rfl⟩
 have HZ:Hid (Z3 w W w.heap.size):=by rw [← HW.out]; exact z3 w
 have H:=hid (h.later HZ.out.b)
 have HE:=hid (hE.later HZ.out.b)
 obtain ⟨c0,c1,c2⟩:=(h.later HZ.out.b).way
 have HU:=hid hu
 have HS:=hid hs
 have HSZ:=hid hz
 have hW:=HW.out
 clear h hu hs hE hz
 go_enter Tryz.func156,Tryz.ntmps156
 go_wp2_with fail
 refine (power_any K.p K.q N.B N.l W H.out.sp.jp.pl).mono ?_
 rintro e w1 ⟨rfl,hx⟩
 subst w1
 rw [HU.out]
 go_wp2_with (go_at_call 187; refine (pbytes_any K.p K.q N.B N.l W H.out.sp.jp.pl).mono ?_; rintro e w1 ⟨rfl,hx⟩; subst w1)
 refine (pfrom_ok N.B W (by rw [HSZ.out]; decide)).mono ?_
 rintro e w1 ⟨rfl,hp,hb1,-⟩
 have HP:=hid hp
 have HZ1:=hid (HZ.out.later hb1)
 have HE1:=hid (HE.out.later hb1)
 clear hp hb1
 go_wp2_with fail
 refine (open_ok A _ _ N.B (-1) w1 HP.out HE1.out.toE (by rw [HSZ.out]; decide) (by rw [HSZ.out]; decide) (by decide)).mono ?_
 rintro e w2 ⟨j2,rfl,hj,hb2,-⟩
 have HJ:=hid hj
 have HZ2:=hid (HZ1.out.later hb2)
 clear hj hb2
 go_wp2_with fail
 refine (get_is j2 _ d _ false h1 h2 h3 _ HJ.out hd HS.out).mono ?_
 rintro e w3 ⟨rfl,hb3⟩
 have HZ3:=hid (HZ2.out.later hb3)
 obtain ⟨W4,HW4⟩:∃ W4,Hid (w3.alloc (.cells #[.int .i64 (h1:Int),.int .i64 (h2:Int),.int .i64 (h3:Int)] 80)=W4):=⟨_,rfl⟩
 have hW4:=HW4.out
 have HZ4:Hid (Z3 w W4 w.heap.size):=by rw [← HW4.out]; exact HZ3.out.later ((Below.refl _ _).alloc (Nat.le_refl _) _)
 have HN4:Hid (W4.heap[w3.heap.size]? = some (.cells #[.int .i64 (h1:Int),.int .i64 (h2:Int),.int .i64 (h3:Int)] 80 (0,0))):=by rw [← HW4.out]; exact heap_alloc_new w3 _
 obtain ⟨d0,d1,d2,z0,z1,z2⟩:=HZ4.out.cells
 have e0:W4.cell? ⟨w3.heap.size,0,none⟩=some (.int .i64 (h1:Int)):=(cell_of_row _ _ 0 _ _ _ HN4.out)
 have e1:W4.cell? ⟨w3.heap.size,1,none⟩=some (.int .i64 (h2:Int)):=(cell_of_row _ _ 1 _ _ _ HN4.out)
 have e2:W4.cell? ⟨w3.heap.size,2,none⟩=some (.int .i64 (h3:Int)):=(cell_of_row _ _ 2 _ _ _ HN4.out)
 clear hb3
 go_wp2_with fail
 refine bodyPost_ret (results_cell_row rfl _ _ w.heap.size 80 _ (0,0) _ rfl (set3 HZ4.out.r _ _ _) Tryz.underlying80 rfl sizeState) rfl ?_
 exact ⟨rfl,((HZ4.out.b.setCell (Nat.le_refl _) _).setCell (Nat.le_refl _) _).setCell (Nat.le_refl _) _⟩
theorem kept_is (d h1 h2 h3:Nat) (h:ND w0 w C K i zs N m) (hE:Held9 w A) (hz:N.B.size=512) (hd:d<6) (hs:stN N d=⟨h1,h2,h3⟩) :
  Calls Tryz.prog 156 #[.pointer (some ⟨K.nd,0,none⟩),.int .i64 (d:Int)] w fun e w'=>e=.returned (agS h1 h2 h3)∧Below w.heap.size w w':=by
 cases hu:N.l != -2 with
 | true=>exact kept_up d h1 h2 h3 h hu hd hs
 | false=>exact kept_down d h1 h2 h3 h hE hz hu hd hs
theorem wstate_no (s d:Int) (h:WD w0 w C X zs V m) (hE:Held9 w0 A) (hs:¬ ((0≤s∧s<zs.length)∧0≤d∧d<6)) :
  Calls Tryz.prog 130 #[.pointer (some ⟨X.xb,0,none⟩),.int .i64 s,.int .i64 d] w fun e w'=>e=.returned (.tuple #[.agg #[.int .i64 0,.int .i64 0,.int .i64 0],ev A 2])∧Below w.heap.size w w':=by
 obtain ⟨W,HW⟩:∃ W,Hid (w.alloc (.cells #[.int .i64 0,.int .i64 0,.int .i64 0] 80)=W):=⟨_,rfl⟩
 have HZ:Hid (Z3 w W w.heap.size):=by rw [← HW.out]; exact z3 w
 have H:=hid (h.later HZ.out.b)
 have HE:=hid hE
 have HS:=hid hs
 have hW:=HW.out
 clear h hE hs
 go_enter Tryz.func130,Tryz.ntmps130
 go_wp2_with fail
 refine (findDeal_no s d H.out HE.out HS.out).mono ?_
 rintro e w1 ⟨rfl,hb1⟩
 have HZ1:=hid (HZ.out.later hb1)
 obtain ⟨d0,d1,d2,z0,z1,z2⟩:=HZ1.out.cells
 clear hb1
 go_wp2_with fail
 refine bodyPost_ret (results_row2 rfl _ _ w.heap.size 80 _ (0,0) _ rfl (set3 HZ1.out.r _ _ _) Tryz.underlying80 rfl sizeState) rfl ?_
 exact ⟨rfl,((HZ1.out.b.setCell (Nat.le_refl _) _).setCell (Nat.le_refl _) _).setCell (Nat.le_refl _) _⟩
theorem wstate_ok (s d h1 h2 h3:Nat) (h:WD w0 w C X zs V m) (hE:Held9 w0 A) (hs:s<zs.length) (hd:d<6) (hst:stN (V.nd s) d=⟨h1,h2,h3⟩) :
  Calls Tryz.prog 130 #[.pointer (some ⟨X.xb,0,none⟩),.int .i64 (s:Int),.int .i64 (d:Int)] w fun e w'=>e=.returned (.tuple #[agS h1 h2 h3,.nilIface])∧Below w.heap.size w w':=by
 obtain ⟨W,HW⟩:∃ W,Hid (w.alloc (.cells #[.int .i64 0,.int .i64 0,.int .i64 0] 80)=W):=⟨_,rfl⟩
 have HZ:Hid (Z3 w W w.heap.size):=by rw [← HW.out]; exact z3 w
 have H:=hid (h.later HZ.out.b)
 have HE:=hid ((h.held hE).later HZ.out.b)
 have HS:=hid hst
 have HL:=hid hs
 have hW:=HW.out
 clear h hE hst hs
 go_enter Tryz.func130,Tryz.ntmps130
 go_wp2_with fail
 refine (findDeal_ok s d H.out HL.out hd).mono ?_
 rintro e w1 ⟨rfl,hx⟩
 subst w1
 go_wp2_with fail
 refine (kept_is d h1 h2 h3 (H.out.nds s HL.out) HE.out (H.out.inv.nd s HL.out).sz hd HS.out).mono ?_
 rintro e w1 ⟨rfl,hb1⟩
 have HZ1:=hid (HZ.out.later hb1)
 obtain ⟨d0,d1,d2,z0,z1,z2⟩:=HZ1.out.cells
 clear hb1
 go_wp2_with fail
 refine bodyPost_ret (results_row2 rfl _ _ w.heap.size 80 _ (0,0) _ rfl (set3 HZ1.out.r _ _ _) Tryz.underlying80 rfl sizeState) rfl ?_
 exact ⟨rfl,((HZ1.out.b.setCell (Nat.le_refl _) _).setCell (Nat.le_refl _) _).setCell (Nat.le_refl _) _⟩
end
def stD (V:PX) (d:Nat):Nat→St:=fun i=>stN (V.nd i) d
structure GX (zs:List Int) (V:PX) (d:Nat) (g:Gh):Prop where
 co:Co zs (stD V d) g
 fr:∀ f,f∈V.fly→f.d=(d:Int)→Fr zs (stD V d) g f
 le:∀ i x,i<zs.length→(V.nd i).ld d=some x→Le zs (stD V d) g i x.1 x.2
structure EX (zs:List Int) (V:PX):Prop where
 at_:∀ e,e∈V.evs→∃ i d p:Nat,e=⟨i,d,p⟩∧i<zs.length∧d<6∧(p=2 ∨ p=3)∧(stN (V.nd i) d).ph=p
 once:V.evs.Pairwise fun a b=>¬ (a.s=b.s∧a.d=b.d)
structure AX (zs:List Int) (V:PX):Prop where
 gx:∀ d,d<6→∃ g,GX zs V d g
 ex:EX zs V
def Mo (zs:List Int) (V V':PX):Prop:=∀ i d,i<zs.length→d<6→mayN (stN (V.nd i) d).ph (stN (V'.nd i) d).ph
theorem mayN_trans {a b c:Nat} (h:mayN a b) (g:mayN b c):mayN a c:=by
 unfold mayN at *
 omega
section
variable {zs:List Int} {V V':PX} {m:Nat} {g g':Gh}
theorem Mo.trans {V'':PX} (h:Mo zs V V') (k:Mo zs V' V''):Mo zs V V'':=fun i d hi hd=>mayN_trans (h i d hi hd) (k i d hi hd)
theorem Mo.same (hX:XI zs V m) (hs:∀ i d,stN (V'.nd i) d=stN (V.nd i) d):Mo zs V V':=fun i d hi hd=>by
 rw [hs i d]
 have h5:=((hX.nd i hi).gd d hd).1
 exact ⟨h5,h5,.inl rfl⟩
theorem GX.quiet {d:Nat} (h:GX zs V d g) (hs:∀ i,stN (V'.nd i) d=stN (V.nd i) d) (hl:∀ i x,i<zs.length→(V'.nd i).ld d=some x→(V.nd i).ld d=some x) (hf:∀ f,f∈V'.fly→f∈V.fly):GX zs V' d g:=by
 have e:stD V' d=stD V d:=funext hs
 refine ⟨by rw [e]; exact h.co,fun f x y=>by rw [e]; exact h.fr f (hf f x) y,fun i x hi hx=>by rw [e]; exact h.le i x hi (hl i x hi hx)⟩
theorem EX.same (h:EX zs V) (hs:∀ i d,stN (V'.nd i) d=stN (V.nd i) d) (he:V'.evs=V.evs):EX zs V':=by
 refine ⟨fun e hm=>?_,by rw [he]; exact h.once⟩
 rw [he] at hm
 obtain ⟨i,d,p,h1,h2,h3,h4,h5⟩:=h.at_ e hm
 exact ⟨i,d,p,h1,h2,h3,h4,by rw [hs]; exact h5⟩
theorem AX.quiet (h:AX zs V) (hs:∀ i d,stN (V'.nd i) d=stN (V.nd i) d) (hl:∀ i d x,i<zs.length→(V'.nd i).ld d=some x→(V.nd i).ld d=some x) (hf:∀ f,f∈V'.fly→f∈V.fly) (he:V'.evs=V.evs):AX zs V' :=
 ⟨fun d hd=>by obtain ⟨g,hg⟩:=h.gx d hd; exact ⟨g,hg.quiet (fun i=>hs i d) (fun i x hi hx=>hl i d x hi hx) hf⟩,h.ex.same hs he⟩
theorem GX.send {d:Nat} {L:List F9} (h:GX zs V d g) (hL:∀ f,f∈L→f.d=(d:Int)→Fr zs (stD V d) g f):GX zs (sendX V L) d g:=by
 refine ⟨h.co,fun f hf hd=>?_,h.le⟩
 rcases List.mem_append.1 hf with x|x
 ·exact h.fr f x hd
 ·exact hL f x hd
theorem nd_at (V:PX) (i:Nat) (N:PN):(setNd V i N).nd i=N:=if_pos rfl
theorem nd_ne (V:PX) (i:Nat) (N:PN) {k:Nat} (h:k≠i):(setNd V i N).nd k=V.nd k:=if_neg h
theorem ld_at (N:PN) (d:Nat) (x:Int×PL):(setLd N d x).ld d=some x:=if_pos rfl
theorem ld_ne (N:PN) (d:Nat) (x:Int×PL) {e:Nat} (h:e≠d):(setLd N d x).ld e=N.ld e:=if_neg h
theorem hearX_st0 {n:Nat} {i:Nat} {f:F9} (hh:HF n (V.nd i) f m) (hc:(oHN (V.nd i) f).c=6):∀ k d,stN ((hearX V i f).nd k) d=stN (V.nd k) d:=by
 intro k d
 show stN ((setNd V i (hearN (V.nd i) f)).nd k) d=_
 by_cases e:k=i
 ·subst e
  rw [nd_at]
  unfold stN
  by_cases e2:d=f.d.toNat
  ·rw [e2,hh.no hc]
  ·rw [hh.other d e2]
 ·rw [nd_ne _ _ _ e]
theorem hearX_st {n:Nat} {i:Nat} {f:F9} (hh:HF n (V.nd i) f m) (hc:(oHN (V.nd i) f).c=0):stD (hearX V i f) f.d.toNat=upd (stD V f.d.toNat) i (gHN (V.nd i) f).st:=by
 funext k
 show stN ((setNd V i (hearN (V.nd i) f)).nd k) f.d.toNat=_
 unfold upd
 by_cases e:k=i
 ·subst e
  rw [nd_at,if_pos rfl,hh.yes hc]
 ·rw [nd_ne _ _ _ e,if_neg e]
  rfl
theorem hearX_ne {n:Nat} {i:Nat} {f:F9} (hh:HF n (V.nd i) f m) {d:Nat} (hd:d≠f.d.toNat):∀ k,stN ((hearX V i f).nd k) d=stN (V.nd k) d:=by
 intro k
 show stN ((setNd V i (hearN (V.nd i) f)).nd k) d=_
 by_cases e:k=i
 ·subst e
  rw [nd_at]
  unfold stN
  rw [hh.other d hd]
 ·rw [nd_ne _ _ _ e]
theorem hearX_ld {n:Nat} {i:Nat} {f:F9} (hh:HF n (V.nd i) f m):∀ k d x,((hearX V i f).nd k).ld d=some x→(V.nd k).ld d=some x:=by
 intro k d x hx
 have hx2:((setNd V i (hearN (V.nd i) f)).nd k).ld d=some x:=hx
 by_cases e:k=i
 ·subst e
  rw [nd_at] at hx2
  rcases hh.c with hc|hc
  ·rw [hh.ld hc] at hx2; exact hx2
  ·unfold hearN at hx2
   rw [if_pos hc] at hx2
   cases hx2
 ·rw [nd_ne _ _ _ e] at hx2; exact hx2
theorem hear_gx {i d:Nat} {f:F9} (h:GX zs V d g) (hN:NI zs.length (V.nd i) m) (hu:(V.nd i).l≠-2) (hF:FI zs.length f) (hm:m<4000000000) (hi:i<zs.length) (hff:∀ a,a∈V.fly→FI zs.length a) (hfr:f.d=(d:Int)→Fr zs (stD V d) g f) :
  ∃ g',GX zs (hearX V i f) d g'∧Gr zs (stD V d) g (stD (hearX V i f) d) g'∧g'.val=g.val∧∀ a,a∈ansN i (V.nd i) f→a.d=(d:Int)→Fr zs (stD (hearX V i f) d) g' a:=by
 have hh:=hearN_hf hN hu hF hm
 have hd6:0≤f.d∧f.d≤5:=hF.ok.2.2.1
 have hp5:=hF.ok.2.2.2.2.2.1
 rcases hh.c with hc|hc
 ·by_cases e:d=f.d.toNat
  ·have ed:f.d=(d:Int):=by omega
   have hgood:(stD V d i).good:=by show (dlN (V.nd i) d).2.good; rw [e]; exact hN.gd _ (by omega)
   obtain ⟨g',k1,k2,k3,k4⟩:=hear_co h.co hi hgood ((V.nd i).R d) f (hfr ed) (by omega)
   have est:(hearL (stD V d i) ((V.nd i).R d) f.k.toNat f.a.toNat f.ph.toNat)=gHN (V.nd i) f:=by unfold gHN; rw [← e]; rfl
   have esd:=hearX_st (i:=i) hh hc
   rw [← e] at esd
   rw [est,← esd] at k1 k2 k4
   refine ⟨g',⟨k1,fun a ha hda=>?_,fun j x hj hx=>?_⟩,k2,k3,fun a ha _=>?_⟩
   ·have ha2:a∈V.fly:=ha
    have h0:=(hff a ha2).f0
    have h1:=(hff a ha2).f1
    exact (h.fr a ha2 hda).grow (by omega) k2
   ·have hx2:=hearX_ld hh j d x hx
    exact (h.le j x hj hx2).grow k2 (fun e1 e2=>by rw [k3]; exact (h.le j x hj hx2).tv e1 e2)
   ·unfold ansN at ha
    split at ha
    ·rename_i hcc
     rw [List.mem_singleton] at ha
     subst ha
     exact k4 hcc.2
    ·cases ha
  ·have hs:=hearX_ne (i:=i) hh e
   have es:stD (hearX V i f) d=stD V d:=funext hs
   refine ⟨g,h.quiet hs (fun j x _ hx=>hearX_ld hh j d x hx) (fun _ x=>x),by rw [es]; exact Gr.refl _ _ _,rfl,fun a ha hda=>?_⟩
   unfold ansN at ha
   split at ha
   ·rw [List.mem_singleton] at ha
    subst ha
    have:f.d=(d:Int):=hda
    omega
   ·cases ha
 ·have hs:=hearX_st0 (i:=i) hh hc
  have es:stD (hearX V i f) d=stD V d:=funext fun k=>hs k d
  refine ⟨g,h.quiet (fun k=>hs k d) (fun j x _ hx=>hearX_ld hh j d x hx) (fun _ x=>x),by rw [es]; exact Gr.refl _ _ _,rfl,fun a ha _=>?_⟩
  unfold ansN at ha
  rw [if_neg (fun x=>by rw [hc] at x; cases x.1)] at ha
  cases ha
theorem hear_ex {i:Nat} {f:F9} (h:EX zs V) (hN:NI zs.length (V.nd i) m) (hu:(V.nd i).l≠-2) (hF:FI zs.length f) (hm:m<4000000000) (hi:i<zs.length) (hX:XI zs V m) :
  EX zs (hearX V i f)∧Mo zs V (hearX V i f):=by
 have hh:=hearN_hf hN hu hF hm
 have hd6:0≤f.d∧f.d≤5:=hF.ok.2.2.1
 rcases hh.c with hc|hc
 ·have hmay:=hh.may
  have hmo:Mo zs V (hearX V i f):=by
   intro k d hk hd
   by_cases e:d=f.d.toNat
   ·have es:stN ((hearX V i f).nd k) d=upd (stD V f.d.toNat) i (gHN (V.nd i) f).st k:=by
     rw [e]; exact congrFun (hearX_st (i:=i) hh hc) k
    rw [es]
    unfold upd
    split
    ·rename_i e2; rw [e2,e]; exact hmay
    ·have h5:=((hX.nd k hk).gd d hd).1
     rw [← e]
     exact ⟨h5,h5,.inl rfl⟩
   ·rw [hearX_ne hh e k]
    have h5:=((hX.nd k hk).gd d hd).1
    exact ⟨h5,h5,.inl rfl⟩
  refine ⟨?_,hmo⟩
  have hold:∀ e,e∈V.evs→∃ k d p:Nat,e=⟨k,d,p⟩∧k<zs.length∧d<6∧(p=2 ∨ p=3)∧(stN ((hearX V i f).nd k) d).ph=p:=by
   intro e he
   obtain ⟨k,d,p,h1,h2,h3,h4,h5⟩:=h.at_ e he
   refine ⟨k,d,p,h1,h2,h3,h4,?_⟩
   have:=hmo k d h2 h3
   unfold mayN at this
   omega
  have hnow:(hearX V i f).evs=noteE V.evs i f.d.toNat (stN (V.nd i) f.d.toNat).ph (stN (hearN (V.nd i) f) f.d.toNat).ph:=rfl
  have hst:stN ((hearX V i f).nd i) f.d.toNat=stN (hearN (V.nd i) f) f.d.toNat:=by
   show stN ((setNd V i (hearN (V.nd i) f)).nd i) f.d.toNat=_
   rw [nd_at]
  unfold noteE at hnow
  split at hnow
  ·rename_i hcnd
   obtain ⟨n1,n2,-⟩:=hcnd
   have hfin:=of_decide_eq_true n2
   refine ⟨fun e he=>?_,?_⟩
   ·rw [hnow,List.mem_append] at he
    rcases he with he|he
    ·exact hold e he
    ·rw [List.mem_singleton] at he
     exact ⟨i,f.d.toNat,_,he,hi,by omega,hfin,by rw [hst]⟩
   ·rw [hnow,List.pairwise_append]
    refine ⟨h.once,List.pairwise_singleton _ _,fun a ha b hb=>?_⟩
    rw [List.mem_singleton] at hb
    subst hb
    rintro ⟨x1,x2⟩
    obtain ⟨k,d,p,h1,h2,h3,h4,h5⟩:=h.at_ a ha
    subst h1
    simp only at x1 x2
    have e1:k=i:=by omega
    have e2:d=f.d.toNat:=by omega
    subst e1
    subst e2
    have hmy:=hmo k f.d.toNat h2 h3
    rw [hst] at hmy
    unfold mayN at hmy
    omega
  ·exact ⟨fun e he=>hold e (by rw [hnow] at he; exact he),by rw [hnow]; exact h.once⟩
 ·have hs:=hearX_st0 (i:=i) hh hc
  refine ⟨h.same hs ?_,Mo.same hX hs⟩
  show noteE V.evs i f.d.toNat (stN (V.nd i) f.d.toNat).ph (stN (hearN (V.nd i) f) f.d.toNat).ph=V.evs
  have e:stN (hearN (V.nd i) f) f.d.toNat=stN (V.nd i) f.d.toNat:=by
   unfold stN; rw [hh.no hc]
  unfold noteE
  rw [if_neg (fun x=>x.1 (by rw [e]))]
theorem lead_gx {i d:Nat} {x:Int×PL} {f:F9} (h:GX zs V d g) (he:errW zs=0) (hx:(V.nd i).ld d=some x) (hw:PW zs.length x.2) (hi:i<zs.length) (hff:∀ a,a∈V.fly→FI zs.length a) (hfr:Fr zs (stD V d) g f) :
  ∃ g',GX zs (setNd V i (setLd (V.nd i) d (x.1,(phear zs i d x.1 x.2 f).1))) d g'∧∀ o,o∈outL i d x.1 zs.length (phear zs i d x.1 x.2 f).2→Fr zs (stD (setNd V i (setLd (V.nd i) d (x.1,(phear zs i d x.1 x.2 f).1))) d) g' o:=by
 have hl:=h.le i x hi hx
 obtain ⟨g',k1,k2,k3,k4,k5⟩:=lead_co (deal:=(d:Int)) h.co he hl hw f hfr
 have es:stD (setNd V i (setLd (V.nd i) d (x.1,(phear zs i d x.1 x.2 f).1))) d=stD V d:=by
  funext k
  show stN ((setNd V i _).nd k) d=stN (V.nd k) d
  by_cases e:k=i
  ·subst e; rw [nd_at]; rfl
  ·rw [nd_ne _ _ _ e]
 refine ⟨g',⟨by rw [es]; exact k1,fun a ha hda=>?_,fun j y hj hy=>?_⟩,by rw [es]; exact k5⟩
 ·rw [es]
  have ha2:a∈V.fly:=ha
  have h0:=(hff a ha2).f0
  have h1:=(hff a ha2).f1
  exact (h.fr a ha2 hda).grow (by omega) k2
 ·rw [es]
  by_cases e:j=i
  ·subst e
   rw [nd_at,ld_at] at hy
   cases hy
   exact k4
  ·rw [nd_ne _ _ _ e] at hy
   have hly:=h.le j y hj hy
   refine hly.grow k2 fun e1 e2=>?_
   have hv:=hly.tv e1 e2
   by_cases ec:g'.val y.1.toNat=g.val y.1.toNat
   ·rw [ec]; exact hv
   ·obtain ⟨c1,-⟩:=k3 _ ec
    have h1:=(hly.ow e2).1
    have h2:=(hl.ow (by omega)).1
    rw [c1,h2] at h1
    exact absurd h1.symm e
theorem setLd_st (V:PX) (i d:Nat) (x:Int×PL):∀ k e,stN ((setNd V i (setLd (V.nd i) d x)).nd k) e=stN (V.nd k) e:=by
 intro k e
 by_cases c:k=i
 ·subst c; rw [nd_at]; rfl
 ·rw [nd_ne _ _ _ c]
theorem GX.other {i d e:Nat} {x:Int×PL} (h:GX zs V e g) (hne:e≠d):GX zs (setNd V i (setLd (V.nd i) d x)) e g:=by
 refine h.quiet (fun k=>setLd_st V i d x k e) (fun k y _ hy=>?_) (fun _ y=>y)
 by_cases c:k=i
 ·subst c; rw [nd_at,ld_ne _ _ _ hne] at hy; exact hy
 ·rw [nd_ne _ _ _ c] at hy; exact hy
theorem GX.newLead {i d:Nat} {a:Int} (h:GX zs V d g) (hl:Le zs (stD V d) g i a P0):GX zs (setNd V i (setLd (V.nd i) d (a,P0))) d g:=by
 have es:stD (setNd V i (setLd (V.nd i) d (a,P0))) d=stD V d:=funext fun k=>setLd_st V i d _ k d
 refine ⟨by rw [es]; exact h.co,fun f hf hd=>by rw [es]; exact h.fr f hf hd,fun k y hk hy=>?_⟩
 rw [es]
 by_cases c:k=i
 ·subst c; rw [nd_at,ld_at] at hy; cases hy; exact hl
 ·rw [nd_ne _ _ _ c] at hy; exact h.le k y hk hy
theorem le_new0 (s:Nat→St) (g:Gh) (i:Nat):Le zs s g i 0 P0 :=
 ⟨Int.le_refl _,fun _ _ k _ hb=>(by have hb2:bit 0 k=true:=hb; rw [bit_zero] at hb2; cases hb2),fun _ e=>(by omega),fun _ e=>(by omega),fun _ e=>(by omega),fun e=>(by omega),fun e=>(by cases e),fun e=>(by cases e)⟩
theorem P0_told (i:Nat) (t:S3) (h:P0.told[i]? = some t):t.p=0:=by
 have hm:=List.mem_iff_getElem?.2 ⟨i,h⟩
 simp [P0] at hm
 rw [hm]
theorem le_new1 {s:Nat→St} {g:Gh} {i:Nat} {a:Int} (h0:0<a) (hv:g.val a.toNat=0) (ho:a.toNat % zs.length=i) (hp:a.toNat≤(s i).pr):Le zs s g i a P0 :=
 ⟨(by omega),fun _ e=>(by omega),fun _ _=>hv,fun _ _ k _ hb=>(by have hb2:bit 0 k=true:=hb; rw [bit_zero] at hb2; cases hb2),fun _ _ k t ht=>.inl (P0_told k t ht),fun _=>⟨ho,hp⟩,fun e=>(by cases e),fun e=>(by cases e)⟩
end
end Go.Proofs.YtaehdgemkafinaaGreatDoor
namespace Go.Proofs.YtaehdgemkafinaaGreatDoor
open Go.RowKit
section
variable {w0 w w':World} {j p q m gn gs r:Nat} {E:Nat→Nat×St} {over dead:Bool} {B:ByteArray} {l:Int} {A:Nat→Addr}
theorem rput_any (dl ph pr a:Int) (o:POut) (ho:pOut E over B l dl ph pr a=o) (h:RK w m gn gs r E over B l) (hn:∀ d,d<6→(E d).1<4294967296) :
  Calls Tryz.prog 182 #[.pointer (some ⟨m,0,none⟩),.int .i64 dl,.agg #[.int .i64 ph,.int .i64 pr,.int .i64 a]] w fun e w'=>e=.returned (.int .i64 (o.c:Int))∧RK w' m gn gs r o.e o.over o.b o.l∧Kept (In4 m gn gs r) w w':=by
 subst ho
 unfold pOut
 cases over with
 | true =>
  rw [if_pos rfl]
  refine (rput_over dl ph pr a h).mono ?_
  rintro e w' ⟨rfl,hb⟩
  exact ⟨rfl,h.later hb,Kept.of_below hb⟩
 | false =>
  rw [if_neg (by decide)]
  by_cases hb:(0≤dl∧dl<6)∧fitsB ph pr a=true
  ·rw [if_pos hb]
   obtain ⟨d,h1,h2,h3,rfl,rfl,rfl,rfl⟩:=in_nat hb
   simp only [Int.toNat_natCast]
   exact rput_in d h1 h2 h3 h (by omega) hb.2 (hn d (by omega))
  ·rw [if_neg hb]
   refine (rput_bound dl ph pr a h hb).mono ?_
   rintro e w' ⟨rfl,hb'⟩
   exact ⟨rfl,h.later hb',Kept.of_below hb'⟩
end
structure RSt (w:World) (t m gb:Nat) (id:Int) (R:Nat→Bool):Prop where
 row:w.heap[t]? = some (.cells #[.int .i64 id,.pointer (some ⟨m,0,none⟩),.slice (some ⟨gb,0,none⟩) 6 6] 110 (0,0))
 refs:w.heap[gb]? = some (.cells #[.bool (R 0),.bool (R 1),.bool (R 2),.bool (R 3),.bool (R 4),.bool (R 5)] 4 (0,0))
section
variable {w w':World} {t m gb:Nat} {id:Int} {R:Nat→Bool}
theorem RSt.kept {S:Nat→Prop} (h:RSt w t m gb id R) (k:Kept S w w') (h1:¬ S t) (h2:¬ S gb):RSt w' t m gb id R:=⟨k.row h.row h1,k.row h.refs h2⟩
theorem RSt.later (h:RSt w t m gb id R) (hb:Below w.heap.size w w'):RSt w' t m gb id R:=h.kept (S:=fun _=>False) (Kept.of_below hb) (fun x=>x) (fun x=>x)
theorem RSt.cells (h:RSt w t m gb id R):w.cell? ⟨t,0,none⟩=some (.int .i64 id)∧w.cell? ⟨t,1,none⟩=some (.pointer (some ⟨m,0,none⟩))∧w.cell? ⟨t,2,none⟩=some (.slice (some ⟨gb,0,none⟩) 6 6):=by
 refine ⟨?_,?_,?_⟩ <;> rw [cell_of_row _ _ _ _ _ _ h.row] <;> rfl
theorem RSt.ref (h:RSt w t m gb id R) {d:Nat} (hd:d<6):w.cell? ⟨gb,d,none⟩=some (.bool (R d)):=by
 rw [cell_of_row _ _ _ _ _ _ h.refs]
 rcases six hd with rfl|rfl|rfl|rfl|rfl|rfl <;> rfl
end
end Go.Proofs.YtaehdgemkafinaaGreatDoor
