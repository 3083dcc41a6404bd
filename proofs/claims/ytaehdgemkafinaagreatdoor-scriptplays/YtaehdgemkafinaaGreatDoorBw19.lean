/-
  On the way to SPlaysProof: VG VH VJ VK O10 VE.
-/
import Derived.Test.YtaehdgemkafinaaGreatDoorBw17
import Derived.Lib.ItoaLen
set_option maxHeartbeats 8000000
set_option maxRecDepth 100000
namespace Go.Proofs.YtaehdgemkafinaaGreatDoor
open Go.RowKit
def heldN (N:PN) (d:Nat):Bool:=(N.ld d).isSome || !(decide ((stN N d).ph=0∧(stN N d).pr=0∧(stN N d).at_=0))
theorem heldX_any {n:Nat} {V:PX} {d i:Nat} (hi:i<n) (h:heldN (V.nd i) d=true):heldX n V d=true:=by
 unfold heldX
 rw [List.any_eq_true]
 exact ⟨i,List.mem_range.2 hi,h⟩
theorem heldX_none {n:Nat} {V:PX} {d:Nat} (h:∀ i,i<n→heldN (V.nd i) d=false):heldX n V d=false:=by
 unfold heldX
 rw [List.any_eq_false]
 intro i hi
 rw [show (((V.nd i).ld d).isSome || !(decide ((stN (V.nd i) d).ph=0∧(stN (V.nd i) d).pr=0∧(stN (V.nd i) d).at_=0)))=false from h i (List.mem_range.1 hi)]
 decide
theorem st_neI (x0 x1 x2 y0 y1 y2:Int) (w:World):(binOp .neq 80 (.agg #[.int .i64 x0,.int .i64 x1,.int .i64 x2]) (.agg #[.int .i64 y0,.int .i64 y1,.int .i64 y2])).run Tryz.prog w=.ok (.bool (!decide (x0=y0∧x1=y1∧x2=y2))) w:=by
 by_cases h0:x0=y0 <;> by_cases h1:x1=y1 <;> by_cases h2:x2=y2
 all_goals
  simp only [h0,h1,h2,and_true,and_self,and_false,decide_true,decide_false]
  go_simp
theorem st_ne0 (h1 h2 h3:Nat) (w:World):(binOp .neq 80 (agS h1 h2 h3) (.agg #[.int .i64 0,.int .i64 0,.int .i64 0])).run Tryz.prog w=.ok (.bool (!decide (h1=0∧h2=0∧h3=0))) w:=by
 rw [st_neI]
 congr 4
 exact propext (by omega)
section
variable {w0 w:World} {C:Nat→Nat} {K:NB} {X:XB} {i m:Nat} {zs:List Int} {N:PN} {V:PX} {A:Nat→Addr}
theorem isHeld_is (d:Nat) (h:WD w0 w C X zs V m) (hE:Held9 w0 A) (hd:d<6) :
  Calls Tryz.prog 102 #[.pointer (some ⟨X.xb,0,none⟩),.int .i64 (d:Int)] w fun e w'=>e=.returned (.bool (heldX zs.length V d))∧Below w.heap.size w w':=by
 obtain ⟨-,c1,-,-,-⟩:=h.cells
 have n7:=h.n7
 have H:=hid h
 have HE:=hid hE
 obtain ⟨n,hn⟩:∃ n,Hid (zs.length=n):=⟨_,rfl⟩
 rw [hn.out] at c1 n7 ⊢
 clear h hE
 go_enter Tryz.func102,Tryz.ntmps102
 go_wp2_with fail
 go_loopw [12] (fun v wr=>∃ k:Nat,k≤n∧v=.int .i64 (k:Int)∧Below w.heap.size w wr∧∀ j,j<k→heldN (V.nd j) d=false) (fun v _=>n - (intOf v).toNat)
 case atStart=>exact ⟨0,Nat.zero_le _,rfl,Below.refl _ _,fun j hj=>absurd hj (Nat.not_lt_zero _)⟩
 case round =>
  obtain ⟨k,hk,rfl,hb,hno⟩:=hrel
  rename_i wr _
  have HNo:=hid hno
  have HB:=hid hb
  have H1:=hid (H.out.later hb)
  clear hno hb
  by_cases hlt:k<n
  ·have c2:=H1.out.ns k (by rw [hn.out]; exact hlt)
   have HN:=hid (H1.out.nds k (by rw [hn.out]; exact hlt))
   have c3:=HN.out.lead hd
   have hinv:=hid (H1.out.inv.nd k (by rw [hn.out]; exact hlt))
   cases hl:(V.nd k).ld d with
   | some x =>
    rw [ldV_some hl] at c3
    have HH:Hid (heldN (V.nd k) d=true):=by unfold heldN; rw [hl]; rfl
    clear hl
    go_wp2_with fail
    go_ret
    exact ⟨by rw [heldX_any hlt HH.out]; rfl,HB.out⟩
   | none =>
    rw [ldV_none hl] at c3
    obtain ⟨⟨h1,h2,h3⟩,HS⟩:∃ x,Hid (stN (V.nd k) d=x):=⟨_,rfl⟩
    obtain ⟨b,HBn⟩:∃ b,Hid ((!decide (h1=0∧h2=0∧h3=0))=b):=⟨_,rfl⟩
    have HH:Hid (heldN (V.nd k) d=b):=by unfold heldN; rw [hl,HS.out,← HBn.out]; rfl
    have hcmp:∀ w,(binOp .neq 80 (agS h1 h2 h3) (.agg #[.int .i64 0,.int .i64 0,.int .i64 0])).run Tryz.prog w=.ok (.bool b) w:=fun w=>by rw [← HBn.out]; exact st_ne0 h1 h2 h3 w
    clear hl
    cases b with
    | true =>
     go_wp2_with (go_at_call 156; refine (kept_is d h1 h2 h3 HN.out (H1.out.held HE.out) hinv.out.sz hd HS.out).mono ?_; rintro e w2 ⟨rfl,hb2⟩; have HB2:=hid (HB.out.trans (hb2.mono HB.out.size)); clear hb2)
     go_ret
     exact ⟨by rw [heldX_any hlt HH.out]; rfl,HB2.out⟩
    | false =>
     go_wp2_with (go_at_call 156; refine (kept_is d h1 h2 h3 HN.out (H1.out.held HE.out) hinv.out.sz hd HS.out).mono ?_; rintro e w2 ⟨rfl,hb2⟩; have HB2:=hid (HB.out.trans (hb2.mono HB.out.size)); clear hb2)
     go_roundw
     case rel =>
      refine ⟨k+1,by omega,by go_num,HB2.out,fun j hj=>?_⟩
      by_cases e:j=k
      ·subst e; exact HH.out
      ·exact HNo.out j (by omega)
     case measure=>simp [intOf]; omega
  ·obtain rfl:k=n:=by omega
   have HH:=hid (heldX_none HNo.out)
   go_wp2_with fail
   go_ret
   exact ⟨by rw [HH.out]; rfl,HB.out⟩
end
section
variable {w0 w w':World} {C:Nat→Nat} {K:NB} {X:XB} {i m:Nat} {zs:List Int} {N:PN} {V:PX} {A:Nat→Addr}
theorem ND.power {l:Int} (h:ND w0 w C K i zs N m) (hk:Kept (In2 K.p K.q) w w') (hp:Pl w' K.p K.q N.B l) (h0:-2≤l) (h1:l≤9223372036854775807):ND w0 w' C K i zs { N with l:=l } m:=by
 have e1:=h.cs; have e2:=h.cj; have e3:=h.cm; have e4:=h.cp; have e5:=h.cq; have e6:=h.cn
 have nS:∀ x,C x≠100 * i+5→C x≠100 * i+6→¬ In2 K.p K.q x:=fun x g1 g2 hx=>by
  rcases hx with rfl|rfl
  ·exact g1 e4
  ·exact g2 e5
 refine ⟨hk.row h.row (nS _ (by omega) (by omega)),h.sp.turn (h.sp.jp.plate hk hp h0 h1 rfl) (hk.mono (fun x hx=>.inr hx)),fun d hd x hx=>?_,h.cn,h.cs,h.cj,h.cm,h.cp,h.cq,h.cl,h.n0⟩
 have g:=h.cl d hd x hx
 exact (h.lds d hd x hx).kept hk (nS _ (by omega) (by omega)) (nS _ (by omega) (by omega))
theorem ND.in2 (h:ND w0 w C K i zs N m):∀ x,In2 K.p K.q x→C x / 100=i:=fun x hx=>by
 have e4:=h.cp; have e5:=h.cq
 rcases hx with rfl|rfl <;> omega
theorem ND.in3 (h:ND w0 w C K i zs N m):∀ x,In3 K.j K.p K.q x→C x / 100=i:=fun x hx=>by
 have e3:=h.cj; have e4:=h.cp; have e5:=h.cq
 rcases hx with rfl|rfl|rfl <;> omega
theorem set6 {w:World} {g:Nat} {a b0 b1 b2 b3 b4 b5:Value} {t:TypeId} (h:w.heap[g]? = some (.cells #[a,b0,b1,b2,b3,b4,b5] t (0,0))) (x0 x1 x2 x3 x4 x5:Value) :
  ((((((w.setCell ⟨g,1,none⟩ x0).setCell ⟨g,2,none⟩ x1).setCell ⟨g,3,none⟩ x2).setCell ⟨g,4,none⟩ x3).setCell ⟨g,5,none⟩ x4).setCell ⟨g,6,none⟩ x5).heap[g]? = some (.cells #[a,x0,x1,x2,x3,x4,x5] t (0,0)):=by
 have h0:=heap_setCell_same w g 1 _ _ x0 h
 have h1:=heap_setCell_same _ g 2 _ _ x1 h0
 have h2:=heap_setCell_same _ g 3 _ _ x2 h1
 have h3:=heap_setCell_same _ g 4 _ _ x3 h2
 have h4:=heap_setCell_same _ g 5 _ _ x4 h3
 have h5:=heap_setCell_same _ g 6 _ _ x5 h4
 rw [h5]
 rfl
theorem ND.noLeads (h:ND w0 w C K i zs N m) (hl:N.l=-2) :
  ND w0 ((((((w.setCell ⟨K.nd,1,none⟩ (.pointer none)).setCell ⟨K.nd,2,none⟩ (.pointer none)).setCell ⟨K.nd,3,none⟩ (.pointer none)).setCell ⟨K.nd,4,none⟩ (.pointer none)).setCell ⟨K.nd,5,none⟩ (.pointer none)).setCell ⟨K.nd,6,none⟩ (.pointer none)) C K i zs (fallN N) m ∧
  Kept (fun x=>C x / 100=i) w ((((((w.setCell ⟨K.nd,1,none⟩ (.pointer none)).setCell ⟨K.nd,2,none⟩ (.pointer none)).setCell ⟨K.nd,3,none⟩ (.pointer none)).setCell ⟨K.nd,4,none⟩ (.pointer none)).setCell ⟨K.nd,5,none⟩ (.pointer none)).setCell ⟨K.nd,6,none⟩ (.pointer none)):=by
 have e1:=h.cs; have e2:=h.cj; have e3:=h.cm; have e4:=h.cp; have e5:=h.cq; have e6:=h.cn
 have hk:Kept (In1 K.nd) w ((((((w.setCell ⟨K.nd,1,none⟩ (.pointer none)).setCell ⟨K.nd,2,none⟩ (.pointer none)).setCell ⟨K.nd,3,none⟩ (.pointer none)).setCell ⟨K.nd,4,none⟩ (.pointer none)).setCell ⟨K.nd,5,none⟩ (.pointer none)).setCell ⟨K.nd,6,none⟩ (.pointer none)) :=
  ((((((Kept.refl _ w).set1 1 _).set1 2 _).set1 3 _).set1 4 _).set1 5 _).set1 6 _
 have nS:∀ x,C x≠100 * i+1→¬ In1 K.nd x:=fun x g hx=>by rw [show x=K.nd from hx] at g; exact g e6
 have hlo:∀ x,In1 K.nd x→w0.heap.size≤x:=fun x hx=>by rw [show x=K.nd from hx]; exact h.n0
 refine ⟨⟨set6 h.row _ _ _ _ _ _,?_,fun d hd x hx=>(by cases hx),h.cn,h.cs,h.cj,h.cm,h.cp,h.cq,fun d hd x hx=>(by cases hx),h.n0⟩,hk.mono (fun x hx=>by rw [show x=K.nd from hx]; show C K.nd / 100=i; omega)⟩
 have:=h.sp.far hk hlo (fun x hx=>nS x (by rcases hx with rfl|rfl|rfl <;> omega)) (nS _ (by omega)) (nS _ (by omega))
 rw [hl] at this
 exact this
theorem fall_any (h:ND w0 w C K i zs N m) :
  Calls Tryz.prog 121 #[.pointer (some ⟨K.nd,0,none⟩)] w fun e w'=>e=.returned (.tuple #[])∧ND w0 w' C K i zs (fallN N) m∧Kept (fun x=>C x / 100=i) w w':=by
 obtain ⟨c0,c1,c2⟩:=h.way
 have H:=hid h
 clear h
 go_enter Tryz.func121,Tryz.ntmps121
 go_wp2_with fail
 refine (poff_any K.p K.q N.B N.l w H.out.sp.jp.pl).mono ?_
 rintro e w1 ⟨rfl,hp,hk⟩
 have HK:=hid (hk.mono H.out.in2)
 have H1:=hid (H.out.power hk hp (by decide) (by decide))
 clear hp hk
 have d1:=H1.out.cell 1
 have d2:=H1.out.cell 2
 have d3:=H1.out.cell 3
 have d4:=H1.out.cell 4
 have d5:=H1.out.cell 5
 have d6:=H1.out.cell 6
 have z1:=H1.out.fz 1
 have z2:=H1.out.fz 2
 have z3:=H1.out.fz 3
 have z4:=H1.out.fz 4
 have z5:=H1.out.fz 5
 have z6:=H1.out.fz 6
 simp only [ndC,List.getElem?_cons_succ,List.getElem?_cons_zero] at d1 d2 d3 d4 d5 d6
 go_wp2_with fail
 go_end0
 obtain ⟨g1,g2⟩:=H1.out.noLeads rfl
 exact ⟨rfl,g1,HK.out.trans g2⟩
end
section
variable {n m m' i:Nat} {zs:List Int} {N:PN} {V:PX}
theorem NI.mono (h:NI n N m) (hm:m≤m'):NI n N m':=⟨h.gd,fun d hd=>Nat.le_trans (h.nm d hd) hm,h.sz,h.up,h.l0,h.l1,h.ld⟩
theorem XI.mono (h:XI zs V m) (hm:m≤m'):XI zs V m':=⟨h.he,fun i hi=>(h.nd i hi).mono hm,h.fr,by have:=h.fl; omega,h.ev⟩
theorem XI.node (h:XI zs V m) (hN:NI zs.length N m') (hm:m≤m'):XI zs (setNd V i N) m':=by
 refine ⟨h.he,fun k hk=>?_,h.fr,by have:=h.fl; show V.fly.length≤_; omega,h.ev⟩
 show NI zs.length (if k=i then N else V.nd k) m'
 split
 ·exact hN
 ·exact (h.nd k hk).mono hm
theorem NI.fall (h:NI n N m):NI n (fallN N) m:=⟨h.gd,h.nm,h.sz,fun g=>(g rfl).elim,by show (-2:Int)≤-2; omega,by show (-2:Int)≤_; omega,fun d x hx=>by cases hx⟩
theorem cL_on {l x:Int} (h:l≠-2):cL l x≠-2:=by
 unfold cL
 rw [if_neg h]
 split <;> omega
theorem NI.cut {x:Int} (h:NI n N m) (hx:x≤9223372036854775807):NI n { N with l:=cL N.l x } m:=by
 have h0:=h.l0
 have h1:=h.l1
 refine ⟨h.gd,h.nm,h.sz,fun g=>h.up (fun e=>g ?_),?_,?_,fun d y hy=>?_⟩
 ·show cL N.l x=-2
  unfold cL; rw [if_pos e]; split <;> exact e
 ·show -2≤cL N.l x
  unfold cL
  split
  ·omega
  ·split <;> omega
 ·show cL N.l x≤_
  unfold cL
  split
  ·omega
  ·split <;> omega
 ·have:=h.ld d y hy
  exact ⟨cL_on this.1,this.2⟩
theorem NI.refuse {R:Nat→Bool} (h:NI n N m):NI n { N with R:=R } m:=⟨h.gd,h.nm,h.sz,h.up,h.l0,h.l1,h.ld⟩
end
section
variable {w0 w w' w'':World} {C:Nat→Nat} {K:NB} {X:XB} {i m m':Nat} {zs:List Int} {N:PN} {V V':PX} {A:Nat→Addr}
theorem WD.mono (h:WD w0 w C X zs V m) (hm:m≤m'):WD w0 w C X zs V m':=by
 obtain ⟨D,hD,hh⟩:=h.brk
 exact ⟨h.bel,h.row,h.ws,h.ns,fun i hi=>(h.nds i hi).mono hm,⟨D,hD.mono hm,hh⟩,h.fly,h.evs,h.cx,h.cw,h.cn,h.cm,h.cf,h.ce,h.lt,h.low,h.inv.mono hm⟩
def key (X:XB):Nat×(Nat→Nat):=(X.xb,fun e=>(X.K e).nd)
theorem key_xb {X X':XB} (h:key X'=key X):X'.xb=X.xb:=congrArg Prod.fst h
theorem key_nd {X X':XB} (h:key X'=key X) (e:Nat):(X'.K e).nd=(X.K e).nd:=congrFun (congrArg Prod.snd h) e
theorem key_K {X:XB} {i:Nat} {K:NB} (h:K.nd=(X.K i).nd):key { X with K:=fun e=>if e=i then K else X.K e }=key X:=by
 unfold key
 refine Prod.ext rfl ?_
 funext e
 show (if e=i then K else X.K e).nd=(X.K e).nd
 split
 ·rename_i g; rw [g]; exact h
 ·rfl
def WOut (w0 w w':World) (C:Nat→Nat) (X:XB) (zs:List Int) (V':PX) (m':Nat):Prop :=
 ∃ C' X',WD w0 w' C' X' zs V' m'∧key X'=key X∧Kept (OwnX C) w w'∧∀ x,x<w.heap.size→C' x=C x
theorem WD.out (h:WD w0 w C X zs V m) (hb:Below w.heap.size w w') (hm:m≤m'):WOut w0 w w' C X zs V m' :=
 ⟨C,X,(h.later hb).mono hm,rfl,Kept.of_below hb,fun _ _=>rfl⟩
theorem WD.nodeOut (h:WD w0 w C X zs V m) (hi:i<zs.length) (k:Kept (fun x=>C x / 100=i) w w') (hN:ND w0 w' C (X.K i) i zs N m') (hm:m≤m') (hI:NI zs.length N m'):WOut w0 w w' C X zs (setNd V i N) m':=by
 have n7:=h.n7.2
 refine ⟨C,_,h.node k hi (fun x hx=>hx) (fun _ _=>rfl) (fun x hx hc=>by have:=h.lt x hc; omega) hN rfl hm (h.inv.node hI hm),key_K rfl,k.mono (fun x hx=>by show C x<2000; omega),fun _ _=>rfl⟩
theorem WOut.step {w1 w2:World} {C1:Nat→Nat} {X1:XB} (hx:key X1=key X) (hk:Kept (OwnX C) w w1) (hc:∀ x,x<w.heap.size→C1 x=C x) (h2:WOut w0 w1 w2 C1 X1 zs V' m'):WOut w0 w w2 C X zs V' m':=by
 obtain ⟨C',X',g1,g2,g3,g4⟩:=h2
 refine ⟨C',X',g1,g2.trans hx,?_,fun x hx=>(g4 x (Nat.lt_of_lt_of_le hx hk.size)).trans (hc x hx)⟩
 refine ⟨g3.os.trans hk.os,g3.tape.trans hk.tape,g3.output.trans hk.output,Nat.le_trans hk.size g3.size,fun y hy hn=>?_⟩
 refine (g3.block y (Nat.lt_of_lt_of_le hy hk.size) (fun e=>hn ?_)).trans (hk.block y hy hn)
 show C y<2000
 rw [← hc y hy]
 exact e
def cUp (n:Nat) (V:PX) (s:Int):Nat:=if 0≤s∧s<n then (if upN (V.nd s.toNat)=true then 0 else 6) else 2
theorem down_any (s:Int) (c:Nat) (h:WD w0 w C X zs V m) (hE:Held9 w0 A) (hc:cUp zs.length V s=c) :
  Calls Tryz.prog 56 #[.pointer (some ⟨X.xb,0,none⟩),.int .i64 s] w fun e w'=>e=.returned (ev A c)∧WOut w0 w w' C X zs (if c=0 then downX V s.toNat else V) (m+1):=by
 have H:=hid h
 have HE:=hid hE
 have HE1:=hid (h.held hE)
 clear h hE
 subst hc
 by_cases hs:0≤s∧s<zs.length
 ·obtain ⟨k,rfl⟩:=Int.eq_ofNat_of_zero_le hs.1
  have hk:k<zs.length:=by omega
  have HK:=hid hk
  obtain ⟨b,HB⟩:∃ b,Hid (((V.nd k).l != -2)=b):=⟨_,rfl⟩
  have HU:Hid (upN (V.nd k)=b):=HB.out
  cases b with
  | true =>
   have e:cUp zs.length V k=0:=by unfold cUp; rw [if_pos hs,Int.toNat_natCast,HU.out,if_pos rfl]
   rw [e]
   clear e hs hk
   go_enter Tryz.func56,Tryz.ntmps56
   go_wp2_with fail
   refine (find_ok k H.out HK.out).mono ?_
   rintro e w1 ⟨rfl,hx⟩
   subst w1
   go_wp2_with fail
   refine (powered_is true (H.out.nds k HK.out) HE1.out HB.out).mono ?_
   rintro e w1 ⟨rfl,hb⟩
   simp only [if_true]
   have H1:=hid (H.out.later hb)
   have HB1:=hid hb
   clear hb
   go_wp2_with fail
   refine (fall_any (H1.out.nds k HK.out)).mono ?_
   rintro e w2 ⟨rfl,hN,hk2⟩
   have HN:=hid (And.intro hN hk2)
   clear hN hk2
   go_wp2_with fail
   go_ret
   refine ⟨rfl,?_⟩
   exact WOut.step rfl (Kept.of_below HB1.out) (fun _ _=>rfl) (H1.out.nodeOut HK.out HN.out.2 (HN.out.1.mono (Nat.le_succ _)) (Nat.le_succ _) ((H1.out.inv.nd k HK.out).fall.mono (Nat.le_succ _)))
  | false =>
   have e:cUp zs.length V k=6:=by unfold cUp; rw [if_pos hs,Int.toNat_natCast,HU.out,if_neg (by decide)]
   rw [e]
   clear e hs hk
   go_enter Tryz.func56,Tryz.ntmps56
   go_wp2_with fail
   refine (find_ok k H.out HK.out).mono ?_
   rintro e w1 ⟨rfl,hx⟩
   subst w1
   go_wp2_with fail
   refine (powered_is false (H.out.nds k HK.out) HE1.out HB.out).mono ?_
   rintro e w1 ⟨rfl,hb⟩
   rw [if_neg (by decide),if_neg (by decide)]
   have HB1:=hid hb
   clear hb
   go_wp2_with fail
   go_ret
   refine ⟨rfl,?_⟩
   exact H.out.out HB1.out (Nat.le_succ _)
 ·have e:cUp zs.length V s=2:=by unfold cUp; rw [if_neg hs]
  rw [e]
  have HS:=hid hs
  clear e hs
  go_enter Tryz.func56,Tryz.ntmps56
  go_wp2_with fail
  refine (find_no s H.out HE.out HS.out).mono ?_
  rintro e w1 ⟨rfl,hb⟩
  have HB1:=hid hb
  clear hb
  go_wp2_with fail
  refine (powered_err _ _).mono ?_
  rintro e w2 ⟨rfl,hx⟩
  subst w2
  go_wp2_with fail
  go_ret
  refine ⟨rfl,?_⟩
  exact H.out.out HB1.out (Nat.le_succ _)
end
section
variable {w0 w w':World} {C:Nat→Nat} {K:NB} {X:XB} {i m m':Nat} {zs:List Int} {N:PN} {V V':PX} {A:Nat→Addr}
theorem is_no (s:Int) (h:WD w0 w C X zs V m) (hE:Held9 w0 A) (hs:¬ (0≤s∧s<zs.length)) :
  Calls Tryz.prog 134 #[.pointer (some ⟨X.xb,0,none⟩),.int .i64 s] w fun e w'=>e=.returned (.tuple #[.bool false,.iface 318 (.pointer (some (A 1)))])∧Below w.heap.size w w':=by
 have H:=hid h
 have HE:=hid hE
 have HS:=hid hs
 clear h hE hs
 go_enter Tryz.func134,Tryz.ntmps134
 go_wp2_with fail
 refine (find_no s H.out HE.out HS.out).mono ?_
 rintro e w1 ⟨rfl,hb⟩
 have HB:=hid hb
 clear hb
 go_wp2_with fail
 go_ret2
 exact ⟨rfl,HB.out⟩
theorem is_ok (s:Nat) (h:WD w0 w C X zs V m) (hs:s<zs.length) :
  Calls Tryz.prog 134 #[.pointer (some ⟨X.xb,0,none⟩),.int .i64 (s:Int)] w fun e w'=>e=.returned (.tuple #[.bool (upN (V.nd s)),.nilIface])∧w'=w:=by
 have H:=hid h
 have HS:=hid hs
 obtain ⟨c0,c1,c2⟩:=(h.nds s hs).way
 obtain ⟨b,HB⟩:∃ b,Hid (((V.nd s).l != -2)=b):=⟨_,rfl⟩
 rw [show upN (V.nd s)=b from HB.out]
 clear h hs
 go_enter Tryz.func134,Tryz.ntmps134
 go_wp2_with fail
 refine (find_ok s H.out HS.out).mono ?_
 rintro e w1 ⟨rfl,hx⟩
 subst w1
 go_wp2_with fail
 refine (power_any _ _ _ _ w (H.out.nds s HS.out).sp.jp.pl).mono ?_
 rintro e w1 ⟨rfl,hx⟩
 subst w1
 rw [HB.out]
 go_wp2_with fail
 go_ret2
 exact ⟨rfl,rfl⟩
def leadT (N:PN) (d:Nat):ByteArray:=match N.ld d with
 | none=>⟨#[110,111,110,101]⟩
 | some x=>stP x.2.stt
theorem lead_no (s d:Int) (h:WD w0 w C X zs V m) (hE:Held9 w0 A) (hs:¬ ((0≤s∧s<zs.length)∧0≤d∧d<6)) :
  Calls Tryz.prog 71 #[.pointer (some ⟨X.xb,0,none⟩),.int .i64 s,.int .i64 d] w fun e w'=>e=.returned (.tuple #[.string ⟨#[]⟩,.iface 318 (.pointer (some (A 1)))])∧Below w.heap.size w w':=by
 have H:=hid h
 have HE:=hid hE
 have HS:=hid hs
 clear h hE hs
 go_enter Tryz.func71,Tryz.ntmps71
 go_wp2_with fail
 refine (findDeal_no s d H.out HE.out HS.out).mono ?_
 rintro e w1 ⟨rfl,hb⟩
 have HB:=hid hb
 clear hb
 go_wp2_with fail
 go_ret2
 exact ⟨rfl,HB.out⟩
theorem lead_ok (s d:Nat) (h:WD w0 w C X zs V m) (hs:s<zs.length) (hd:d<6) :
  Calls Tryz.prog 71 #[.pointer (some ⟨X.xb,0,none⟩),.int .i64 (s:Int),.int .i64 (d:Int)] w fun e w'=>e=.returned (.tuple #[.string (leadT (V.nd s) d),.nilIface])∧w'=w:=by
 have H:=hid h
 have HS:=hid hs
 have c3:=(h.nds s hs).lead hd
 clear h hs
 cases hl:(V.nd s).ld d with
 | none =>
  have e:leadT (V.nd s) d=⟨#[110,111,110,101]⟩:=by unfold leadT; rw [hl]
  rw [ldV_none hl] at c3
  rw [e]
  clear hl e
  go_enter Tryz.func71,Tryz.ntmps71
  go_wp2_with fail
  refine (findDeal_ok s d H.out HS.out hd).mono ?_
  rintro e w1 ⟨rfl,hx⟩
  subst w1
  go_wp2_with fail
  go_ret2
  exact ⟨rfl,rfl⟩
 | some x =>
  have e:leadT (V.nd s) d=stP x.2.stt:=by unfold leadT; rw [hl]
  rw [ldV_some hl] at c3
  rw [e]
  have HL:=hid ((H.out.nds s HS.out).lds d hd x hl)
  clear hl e
  go_enter Tryz.func71,Tryz.ntmps71
  go_wp2_with fail
  refine (findDeal_ok s d H.out HS.out hd).mono ?_
  rintro e w1 ⟨rfl,hx⟩
  subst w1
  go_wp2_with fail
  refine (ldState_any HL.out).mono ?_
  rintro e w1 ⟨rfl,hx⟩
  subst w1
  go_wp2_with fail
  go_ret2
  exact ⟨rfl,rfl⟩
def cCut (n:Nat) (V:PX) (s x:Int):Nat:=if 0≤s∧s<n then cC (V.nd s.toNat).l x else 2
theorem cut_any (s x:Int) (c:Nat) (h:WD w0 w C X zs V m) (hE:Held9 w0 A) (hx:x≤9223372036854775807) (hc:cCut zs.length V s x=c) :
  Calls Tryz.prog 54 #[.pointer (some ⟨X.xb,0,none⟩),.int .i64 s,.int .i64 x] w fun e w'=>e=.returned (ev A c)∧WOut w0 w w' C X zs (if 0≤s∧s<zs.length then cutX V s.toNat x else V) (m+1):=by
 have H:=hid h
 have HE:=hid hE
 have HE1:=hid (h.held hE)
 have HC:=hid hc
 clear h hE hc
 by_cases hs:0≤s∧s<zs.length
 ·rw [if_pos hs]
  obtain ⟨k,rfl⟩:=Int.eq_ofNat_of_zero_le hs.1
  have hk:k<zs.length:=by omega
  have HK:=hid hk
  have HCC:Hid (cC (V.nd k).l x=c):=by rw [← HC.out]; unfold cCut; rw [if_pos hs,Int.toNat_natCast]; exact rfl
  have HX:=hid hx
  obtain ⟨c0,c1,c2⟩:=(H.out.nds k hk).way
  clear hs hk hx HC
  rw [Int.toNat_natCast]
  obtain ⟨r,HR⟩:∃ r,Hid (ev A c=r):=⟨_,rfl⟩
  rw [HR.out]
  go_enter Tryz.func54,Tryz.ntmps54
  go_wp2_with fail
  refine (find_ok k H.out HK.out).mono ?_
  rintro e w1 ⟨rfl,hx⟩
  subst w1
  go_wp2_with fail
  refine (cut_pl A _ _ _ _ x w (H.out.nds k HK.out).sp.jp.pl HE1.out.toE).mono ?_
  rintro e w1 ⟨rfl,hp,hk2⟩
  have HN:=hid ((H.out.nds k HK.out).power hk2 hp ((H.out.inv.nd k HK.out).cut HX.out).l0 ((H.out.inv.nd k HK.out).cut HX.out).l1)
  have HK2:=hid (hk2.mono (H.out.nds k HK.out).in2)
  clear hp hk2
  rw [HCC.out,HR.out]
  go_wp2_with fail
  go_ret
  exact ⟨rfl,H.out.nodeOut HK.out HK2.out (HN.out.mono (Nat.le_succ _)) (Nat.le_succ _) (((H.out.inv.nd k HK.out).cut HX.out).mono (Nat.le_succ _))⟩
 ·rw [if_neg hs]
  obtain rfl:c=2:=by rw [← HC.out]; unfold cCut; rw [if_neg hs]
  have HS:=hid hs
  clear hs
  go_enter Tryz.func54,Tryz.ntmps54
  go_wp2_with fail
  refine (find_no s H.out HE.out HS.out).mono ?_
  rintro e w1 ⟨rfl,hb⟩
  have HB1:=hid hb
  clear hb
  go_wp2_with fail
  go_ret
  exact ⟨rfl,H.out.out HB1.out (Nat.le_succ _)⟩
theorem ND.refuse {d:Nat} (h:ND w0 w C K i zs N m) (hs:SR w' K.s K.j K.mb i (updR N.R d) (m+1)) (hk:Kept (In1 K.mb) w w'):ND w0 w' C K i zs { N with R:=updR N.R d } (m+1):=by
 have e1:=h.cs; have e2:=h.cj; have e3:=h.cm; have e4:=h.cp; have e5:=h.cq; have e6:=h.cn
 have nS:∀ x,C x≠100 * i+4→¬ In1 K.mb x:=fun x g hx=>by rw [show x=K.mb from hx] at g; exact g e3
 have hlo:∀ x,In1 K.mb x→w0.heap.size≤x:=fun x hx=>by rw [show x=K.mb from hx]; exact h.sp.m0
 refine ⟨hk.row h.row (nS _ (by omega)),⟨h.sp.jp.far hk hlo (fun x hx=>nS x (by rcases hx with rfl|rfl|rfl <;> omega)),hs,h.sp.ns,h.sp.nm,h.sp.sm,h.sp.s0,h.sp.m0⟩,fun d hd x hx=>?_,h.cn,h.cs,h.cj,h.cm,h.cp,h.cq,h.cl,h.n0⟩
 have g:=h.cl d hd x hx
 exact (h.lds d hd x hx).kept hk (nS _ (by omega)) (nS _ (by omega))
def cRef (n:Nat) (V:PX) (s d:Int):Nat:=if (0≤s∧s<n)∧0≤d∧d<6 then (if upN (V.nd s.toNat)=true then 0 else 6) else 2
theorem refuse_any (s d:Int) (c:Nat) (h:WD w0 w C X zs V m) (hE:Held9 w0 A) (hm:m≤1000000) (hc:cRef zs.length V s d=c) :
  Calls Tryz.prog 41 #[.pointer (some ⟨X.xb,0,none⟩),.int .i64 s,.int .i64 d] w fun e w'=>e=.returned (ev A c)∧WOut w0 w w' C X zs (if c=0 then refuseX V s.toNat d.toNat else V) (m+1):=by
 have H:=hid h
 have HE:=hid hE
 have HE1:=hid (h.held hE)
 clear h hE
 subst hc
 by_cases hs:(0≤s∧s<zs.length)∧0≤d∧d<6
 ·obtain ⟨k,rfl⟩:=Int.eq_ofNat_of_zero_le hs.1.1
  obtain ⟨dn,rfl⟩:=Int.eq_ofNat_of_zero_le hs.2.1
  have hk:k<zs.length:=by omega
  have hd:dn<6:=by omega
  have HK:=hid hk
  obtain ⟨b,HB⟩:∃ b,Hid (((V.nd k).l != -2)=b):=⟨_,rfl⟩
  have HU:Hid (upN (V.nd k)=b):=HB.out
  cases b with
  | true =>
   have e:cRef zs.length V k dn=0:=by unfold cRef; rw [if_pos hs,Int.toNat_natCast,HU.out,if_pos rfl]
   rw [e]
   clear e hs hk
   go_enter Tryz.func41,Tryz.ntmps41
   go_wp2_with fail
   refine (findDeal_ok k dn H.out HK.out hd).mono ?_
   rintro e w1 ⟨rfl,hx⟩
   subst w1
   go_wp2_with fail
   refine (powered_is true (H.out.nds k HK.out) HE1.out HB.out).mono ?_
   rintro e w1 ⟨rfl,hb⟩
   simp only [if_true]
   have H1:=hid (H.out.later hb)
   have HB1:=hid hb
   have c0:=(H1.out.nds k HK.out).site
   clear hb
   go_wp2_with fail
   refine (srefuse_ok dn (H1.out.nds k HK.out).sp.jp.jr (H1.out.nds k HK.out).sp.sr hd hm).mono ?_
   rintro e w2 ⟨rfl,hs2,hk2,-⟩
   have HN:=hid ((H1.out.nds k HK.out).refuse hs2 hk2)
   have HK2:Hid (Kept (fun x=>C x / 100=k) w1 w2):=hk2.mono (fun x hx=>by rw [show x=_ from hx]; have:=(H1.out.nds k HK.out).cm; show _ / 100=k; omega)
   clear hs2 hk2
   go_wp2_with fail
   go_ret
   refine ⟨rfl,?_⟩
   exact WOut.step rfl (Kept.of_below HB1.out) (fun _ _=>rfl) (H1.out.nodeOut HK.out HK2.out HN.out (Nat.le_succ _) ((H1.out.inv.nd k HK.out).refuse.mono (Nat.le_succ _)))
  | false =>
   have e:cRef zs.length V k dn=6:=by unfold cRef; rw [if_pos hs,Int.toNat_natCast,HU.out,if_neg (by decide)]
   rw [e]
   clear e hs hk
   go_enter Tryz.func41,Tryz.ntmps41
   go_wp2_with fail
   refine (findDeal_ok k dn H.out HK.out hd).mono ?_
   rintro e w1 ⟨rfl,hx⟩
   subst w1
   go_wp2_with fail
   refine (powered_is false (H.out.nds k HK.out) HE1.out HB.out).mono ?_
   rintro e w1 ⟨rfl,hb⟩
   rw [if_neg (by decide),if_neg (by decide)]
   have HB1:=hid hb
   clear hb
   go_wp2_with fail
   go_ret
   exact ⟨rfl,H.out.out HB1.out (Nat.le_succ _)⟩
 ·have e:cRef zs.length V s d=2:=by unfold cRef; rw [if_neg hs]
  rw [e]
  have HS:=hid hs
  clear e hs
  go_enter Tryz.func41,Tryz.ntmps41
  go_wp2_with fail
  refine (findDeal_no s d H.out HE.out HS.out).mono ?_
  rintro e w1 ⟨rfl,hb⟩
  have HB1:=hid hb
  clear hb
  go_wp2_with fail
  refine (powered_err _ _).mono ?_
  rintro e w2 ⟨rfl,hx⟩
  subst w2
  go_wp2_with fail
  go_ret
  exact ⟨rfl,H.out.out HB1.out (Nat.le_succ _)⟩
end
def phaseO (p:Int):Bs:=if p=1 then [118,111,116,101,100] else if p=2 then [99,111,109,109,105,116,116,101,100] else if p=3 then [97,98,111,114,116,101,100] else if p=4 then [112,114,101,99,111,109,109,105,116] else if p=5 then [112,114,101,97,98,111,114,116] else [110,111,116,104,105,110,103]
theorem phase_is (p:Int) (w:World):Calls Tryz.prog 132 #[.int .i64 p] w fun e w'=>e=.returned (.string (bB (phaseO p)))∧w'=w:=by
 have hc:p=1 ∨ p=2 ∨ p=3 ∨ p=4 ∨ p=5 ∨ (¬ p=1∧¬ p=2∧¬ p=3∧¬ p=4∧¬ p=5):=by omega
 rcases hc with rfl|rfl|rfl|rfl|rfl|⟨h1,h2,h3,h4,h5⟩
 iterate 5
  ·go_enter Tryz.func132,Tryz.ntmps132
   go_wp2_with fail
   go_ret
   exact ⟨rfl,rfl⟩
 ·have hp:phaseO p=[110,111,116,104,105,110,103]:=by unfold phaseO; rw [if_neg h1,if_neg h2,if_neg h3,if_neg h4,if_neg h5]
  rw [hp]
  go_enter Tryz.func132,Tryz.ntmps132
  go_wp2_with fail
  go_ret
  exact ⟨rfl,rfl⟩
def stateO (p r t:Nat):Bs:=phaseO p ++ 32 :: (Lib.decDigits r ++ 32 :: Lib.decDigits t)
theorem join3 (x y z:Bs):Lib.join [x,y,z] [32]=x ++ [32] ++ y ++ [32] ++ z:=by
 simp [Lib.join,List.intercalate]
theorem phaseO_len (p:Int):(phaseO p).length≤20:=by
 unfold phaseO
 repeat' split
 all_goals decide
theorem join_three (b:Nat) (x y z:Bs) (w:World) (hr:w.heap[b]? = some (.cells #[.string (bB x),.string (bB y),.string (bB z)] 9 (0,0))) (hx:x.length≤1000) (hy:y.length≤1000) (hz:z.length≤1000) :
  Calls Tryz.prog 131 #[.slice (some ⟨b,0,none⟩) 3 3,.string ⟨#[32]⟩] w fun e w'=>e=.returned (.string (bB (x ++ [32] ++ y ++ [32] ++ z)))∧Below w.heap.size w w':=by
 have:=join_any b 0 3 [bB x,bB y,bB z] ⟨#[32]⟩ w (fun j u hj=>by
  match j,hj with
  | 0,hj=>obtain rfl:=Option.some.inj hj; exact cell_of_row _ _ 0 _ _ _ hr
  | 1,hj=>obtain rfl:=Option.some.inj hj; exact cell_of_row _ _ 1 _ _ _ hr
  | 2,hj=>obtain rfl:=Option.some.inj hj; exact cell_of_row _ _ 2 _ _ _ hr
  | j+3,hj=>simp at hj) (row_ltJ hr) (by simp) (by simp) (by
   show (Lib.join [x,y,z] [32]).length≤_
   rw [join3]; simp; omega)
 refine this.mono fun e w' ⟨he,hb⟩=>⟨?_,hb⟩
 rw [he]
 show Ending.returned (.string ⟨(Lib.join [x,y,z] [32]).toArray⟩)=_
 rw [join3]
theorem dec_len {n:Nat} (h:n≤9223372036854775807):(Lib.decDigits n).length≤1000:=by
 rw [Lib.decDigits_length]
 have:=Lib.nDigits_le20 n (by omega)
 omega
section
variable {w0 w:World} {C:Nat→Nat} {X:XB} {m pb:Nat} {zs:List Int} {V:PX} {A:Nat→Addr}
theorem tellState_ok (s d h1 h2 h3:Nat) (h:WD w0 w C X zs V m) (hE:Held9 w0 A) (hT:TabO w) (hp:BoxO w pb (ptrO X.xb)) (hs:s<zs.length) (hd:d<6) (hst:stN (V.nd s) d=⟨h1,h2,h3⟩) (hr:h2≤9223372036854775807) (ht:h3≤9223372036854775807) :
  Calls Tryz.prog 69 #[ptrO pb,.int .i64 (s:Int),.int .i64 (d:Int)] w fun e w'=>e=.returned (.tuple #[.string (bB (stateO h1 h2 h3)),.nilIface])∧Below w.heap.size w w':=by
 have HS:=hid (wstate_ok s d h1 h2 h3 h hE hs hd hst)
 have HT:=hid hT
 have HR:=hid (And.intro hr ht)
 clear h hE hs hd hst hT hr ht
 go_enter Tryz.func69,Tryz.ntmps69
 go_wp2_with fail
 refine HS.out.mono ?_
 rintro e w1 ⟨rfl,hb1⟩
 have HB1:=hid hb1
 have HT1:=hid (HT.out.later hb1)
 clear hb1
 unfold agS
 go_wp2_with fail
 obtain ⟨W1,HW1⟩:∃ W1,Hid (w1.alloc (.cells #[.int .i64 (h1:Int),.int .i64 (h2:Int),.int .i64 (h3:Int)] 80)=W1):=⟨_,rfl⟩
 have hr1:=heap_alloc_new w1 (.cells #[.int .i64 (h1:Int),.int .i64 (h2:Int),.int .i64 (h3:Int)] 80)
 have hbW:Below w1.heap.size w1 (w1.alloc (.cells #[.int .i64 (h1:Int),.int .i64 (h2:Int),.int .i64 (h3:Int)] 80)):=(Below.refl _ _).alloc (Nat.le_refl _) _
 rw [HW1.out] at hr1 hbW
 have d0:=cell_of_row _ _ 0 _ _ _ hr1
 have d1:=cell_of_row _ _ 1 _ _ _ hr1
 have d2:=cell_of_row _ _ 2 _ _ _ hr1
 have HBW:=hid hbW
 have hTW:=HT1.out.later hbW
 have HTW:Hid (TabO W1.drew):=hTW
 have HR1:=hid hr1
 have HIt1:=hid (itoa_any h2 W1.drew HTW.out HR.out.1)
 rw [HW1.out]
 clear hr1 hbW hTW
 go_region_held3 (fun W=>W.cell? ⟨w1.heap.size,0,none⟩=some (.int .i64 (h1:Int))∧W.cell? ⟨w1.heap.size,1,none⟩=some (.int .i64 (h2:Int))∧W.cell? ⟨w1.heap.size,2,none⟩=some (.int .i64 (h3:Int))) (first|exact k2|exact k3|exact k4|go_keep) (first
  | (go_at_call 132; (with_reducible refine (phase_is (h1:Int) _).mono ?_); rintro e wx ⟨rfl,rfl⟩)
  | (go_at_call 64; (with_reducible refine HIt1.out.mono ?_); rintro e w2 ⟨rfl,hb2⟩; have HB2:=hid hb2; have hr2:=(hb2.block _ (row_ltJ HR1.out)).trans HR1.out; have HR2:=hid hr2; have k2:=And.intro (cell_of_row _ _ 0 _ _ _ hr2) (And.intro (cell_of_row _ _ 1 _ _ _ hr2) (cell_of_row _ _ 2 _ _ _ hr2)); have HIt2:=hid (itoa_any h3 w2 (HTW.out.later hb2) HR.out.2); clear hb2 hr2)
  | (go_at_call 64; (with_reducible refine HIt2.out.mono ?_); rintro e w3 ⟨rfl,hb3⟩; have HB3:=hid hb3; have hr3:=(hb3.block _ (row_ltJ HR2.out)).trans HR2.out; have HR3:=hid hr3; have k3:=And.intro (cell_of_row _ _ 0 _ _ _ hr3) (And.intro (cell_of_row _ _ 1 _ _ _ hr3) (cell_of_row _ _ 2 _ _ _ hr3)); clear hb3 hr3)
  | (go_at_call 131; (with_reducible refine (join_three w3.heap.size (phaseO (h1:Int)) (Lib.decDigits h2) (Lib.decDigits h3) _ (heap_alloc_new w3 _) (by have:=phaseO_len (h1:Int); omega) (dec_len HR.out.1) (dec_len HR.out.2)).mono ?_); rintro e w4 ⟨rfl,hb4⟩; have hb34:=below_trans ((Below.refl w3.heap.size w3).alloc (Nat.le_refl _) _) hb4; have HB4:=hid hb34; have hr4:=(hb34.block _ (row_ltJ HR3.out)).trans HR3.out; have k4:=And.intro (cell_of_row _ _ 0 _ _ _ hr4) (And.intro (cell_of_row _ _ 1 _ _ _ hr4) (cell_of_row _ _ 2 _ _ _ hr4)); clear hb4 hb34 hr4))
 go_wp2_with fail
 go_ret2
 exact ⟨rfl,(HB1.out.trans (HBW.out.mono HB1.out.size)).trans (((below_trans (show Below W1.heap.size W1 w2 from ((Below.refl _ W1).drew).trans HB2.out) (below_trans HB3.out HB4.out))).mono (Nat.le_trans HB1.out.size HBW.out.size))⟩
theorem tellState_no (s d:Int) (h:WD w0 w C X zs V m) (hE:Held9 w0 A) (hp:BoxO w pb (ptrO X.xb)) (hs:¬ ((0≤s∧s<zs.length)∧0≤d∧d<6)) :
  Calls Tryz.prog 69 #[ptrO pb,.int .i64 s,.int .i64 d] w fun e w'=>e=.returned (.tuple #[.string ⟨#[]⟩,ev A 2])∧Below w.heap.size w w':=by
 have HS:=hid (wstate_no s d h hE hs)
 clear h hE hs
 go_enter Tryz.func69,Tryz.ntmps69
 go_wp2_with fail
 refine HS.out.mono ?_
 rintro e w1 ⟨rfl,hb1⟩
 have HB1:=hid (hb1.trans (((Below.refl w1.heap.size w1).alloc (Nat.le_refl _) (.cells #[.int .i64 0,.int .i64 0,.int .i64 0] 80)).mono hb1.size))
 clear hb1
 unfold ev
 go_wp2_with fail
 go_ret2
 exact ⟨rfl,HB1.out⟩
theorem tellPower_ok (s:Nat) (h:WD w0 w C X zs V m) (hp:BoxO w pb (ptrO X.xb)) (hs:s<zs.length) :
  Calls Tryz.prog 73 #[ptrO pb,.int .i64 (s:Int)] w fun e w'=>e=.returned (.tuple #[.string (if upN (V.nd s)=true then ⟨#[117,112]⟩ else ⟨#[100,111,119,110]⟩),.nilIface])∧Below w.heap.size w w':=by
 have HS:=hid (is_ok s h hs)
 clear h hs
 cases hu:upN (V.nd s) with
 | true =>
  rw [hu] at HS
  rw [if_pos rfl]
  go_enter Tryz.func73,Tryz.ntmps73
  go_wp2_with fail
  refine HS.out.mono ?_
  rintro e w1 ⟨rfl,hb1⟩
  subst w1
  go_wp2_with fail
  go_ret2
  exact ⟨rfl,Below.refl _ _⟩
 | false =>
  rw [hu] at HS
  rw [if_neg (by decide)]
  go_enter Tryz.func73,Tryz.ntmps73
  go_wp2_with fail
  refine HS.out.mono ?_
  rintro e w1 ⟨rfl,hb1⟩
  subst w1
  go_wp2_with fail
  go_ret2
  exact ⟨rfl,Below.refl _ _⟩
theorem tellPower_no (s:Int) (h:WD w0 w C X zs V m) (hE:Held9 w0 A) (hp:BoxO w pb (ptrO X.xb)) (hs:¬ (0≤s∧s<zs.length)) :
  Calls Tryz.prog 73 #[ptrO pb,.int .i64 s] w fun e w'=>e=.returned (.tuple #[.string ⟨#[]⟩,.iface 318 (.pointer (some (A 1)))])∧Below w.heap.size w w':=by
 have HS:=hid (is_no s h hE hs)
 clear h hE hs
 go_enter Tryz.func73,Tryz.ntmps73
 go_wp2_with fail
 refine HS.out.mono ?_
 rintro e w1 ⟨rfl,hb1⟩
 have HB1:=hid hb1
 clear hb1
 go_wp2_with fail
 go_ret2
 exact ⟨rfl,HB1.out⟩
end
theorem FL.cells {w:World} {a:Addr} {L:List F9} (h:FL w (some a) L) (j:Nat) (u:Value) (hu:(frCells L)[j]? = some u):w.cell? (a.add j)=some u:=by
 have hl:=(List.getElem?_eq_some_iff.1 hu).1
 rw [frCells_length] at hl
 have hi:j / 9<L.length:=by omega
 obtain ⟨b,off,e,hc⟩:=h (j / 9) hi
 have h9:=hc (j % 9) (by omega)
 obtain rfl:a=⟨b,off,none⟩:=Option.some.inj e
 rw [addr_add]
 have e2:off+j / 9 * 9+j % 9=off+j:=by omega
 rw [e2] at h9
 rw [h9,← hu]
 have:=frCells_get L (j / 9) (j % 9) hi (by omega)
 rw [show j / 9 * 9+j % 9=j by omega] at this
 exact this.symm
theorem run_append_frs (w:World) (ty:TypeId) (base n:Nat) (v u:Value) (xs:List Value) (L:List F9) (hown:w.ownsRow base 125 9 v n xs) (hu:IsFr w u L) (hn:n+L.length≤1000000000000) (hb:base≤w.heap.size) :
  ∃ v' w',(Builtin.append_ #[55,55] ty #[v,u]).run Tryz.prog w=.ok v' w'∧w'.ownsRow base 125 9 v' (n+L.length) (xs ++ frCells L)∧w.grownBy w' v.ownBlock∧(v'.ownBlock=v.ownBlock ∨ v'.ownBlock=some w.heap.size):=by
 obtain ⟨i0,hi0,hz0,hz1,hz2⟩:=info_parts Tryz.infoFq
 obtain ⟨ad,cap,rfl,hf⟩:=hu
 cases ad with
 | none =>
  have hL:L=[]:=by
   cases L with
   | nil=>rfl
   | cons x r=>obtain ⟨b,off,e,-⟩:=hf 0 (by simp); cases e
  subst hL
  refine ⟨v,w,?_,by simpa [frCells] using hown,⟨rfl,rfl,rfl,Nat.le_refl _,fun _ _ _=>rfl⟩,.inl rfl⟩
  rcases hown.2 with ⟨rfl,rfl⟩|⟨g,c,cur,rfl,_,_,hnc,_⟩
  ·simp [Builtin.append_,run_underlying Tryz.underlying55,Go.sizeOf,typeInfo,hi0,Builtin.lenOf,Builtin.firstCells]
  ·simp [Builtin.append_,run_underlying Tryz.underlying55,Go.sizeOf,typeInfo,hi0,Builtin.lenOf,Builtin.firstCells,hnc,storeCells]
 | some a =>
  obtain ⟨v',w',h1,h2,h3,-,h5⟩:=run_append_own_at (P:=Tryz.prog) w base 55 ty 125 i0 _ 9 72 Tryz.underlying55 hi0 hz0 hz1 hz2 rfl (by decide) v n xs hown a L.length cap (frCells L) (frCells_length L) hf.cells (frCells_one L) (by unfold maxLen; omega) (by omega) hb
  exact ⟨v',w',h1,h2,h3,h5⟩
theorem wpList_append_frs {w:World} {ops:Array Oper} {rest:List Oper} {o:Oper} {a:Act} {Q:Exit→Act→World→Prop} (hgd:o.guard=none) (s x:Operand)
  (ho:o.op=.call { callee:=.builtin .append,args:=#[s,x],argTypes:=#[55,55] })
  (base n:Nat) (v u:Value) (xs:List Value) (L:List F9) (hs:a.eval s=v) (hx:a.eval x=u) (hown:w.ownsRow base 125 9 v n xs) (hu:IsFr w u L) (hn:n+L.length≤1000000000000) (hb:base≤w.heap.size)
  (h:∀ ad' cap' w',w'.ownsRow base 125 9 (.slice ad' (n+L.length) cap') (n+L.length) (xs ++ frCells L)→w.grownBy w' v.ownBlock→((Value.slice ad' (n+L.length) cap').ownBlock=v.ownBlock ∨ (Value.slice ad' (n+L.length) cap').ownBlock=some w.heap.size)→wpList Tryz.prog ops Q rest (a.put o.dst (.slice ad' (n+L.length) cap')) w') :
  wpList Tryz.prog ops Q (o :: rest) a w:=by
 refine wpList_plain hgd fun K hK=>?_
 obtain ⟨v',w',hr,h2,h3,h5⟩:=run_append_frs w o.type base n v u xs L hown hu hn hb
 unfold Oper.wp execOp
 simp only [ho,resolve,invoke,builtin,Sem.run_bind,Sem.run_pure,Result.andThen_ok,List.map_toArray,List.map_cons,List.map_nil,hs,hx,hr]
 obtain ⟨ad',cap',rfl⟩:∃ ad' cap',v'=.slice ad' (n+L.length) cap':=by
  rcases h2.2 with ⟨e,h0⟩|⟨g,cap,cur,e,-⟩
  ·exact ⟨none,0,by rw [e,h0]⟩
  ·exact ⟨_,_,e⟩
 exact hK _ _ (h ad' cap' w' h2 h3 h5)
theorem run_append_frsF (w:World) (ty:TypeId) (base:Nat) (v u:Value) (M L:List F9) (hown:OwnF w base v M) (hu:IsFr w u L) (hn:M.length+L.length≤1000000000000) (hb:base≤w.heap.size) :
  ∃ v' w',(Builtin.append_ #[55,55] ty #[v,u]).run Tryz.prog w=.ok v' w'∧OwnF w' base v' (M ++ L)∧w.grownBy w' v.ownBlock∧(v'.ownBlock=v.ownBlock ∨ v'.ownBlock=some w.heap.size):=by
 obtain ⟨i0,hi0,hz0,hz1,hz2⟩:=info_parts Tryz.infoFq
 rcases hown with ⟨rfl,rfl⟩|⟨g,o,cap,cur,rfl,hbg,hg,hle,hcap,hsz,hc⟩
 ·obtain ⟨v',w',h1,h2,h3,h4⟩:=run_append_frs w ty base 0 (.slice none 0 0) u [] L (World.ownsRow_nil _ _ _ _) hu (by simpa using hn) hb
  rw [Nat.zero_add,List.nil_append] at h2
  exact ⟨v',w',h1,OwnF.of_own h2,h3,h4⟩
 ·obtain ⟨ad,c,rfl,hf⟩:=hu
  cases ad with
  | none =>
   have hL:L=[]:=by
    cases L with
    | nil=>rfl
    | cons x r=>obtain ⟨b,off,e,-⟩:=hf 0 (by simp); cases e
   subst hL
   refine ⟨.slice (some ⟨g,o,none⟩) M.length cap,w,?_,by rw [List.append_nil]; exact .inr ⟨g,o,cap,cur,rfl,hbg,hg,hle,hcap,hsz,hc⟩,⟨rfl,rfl,rfl,Nat.le_refl _,fun _ _ _=>rfl⟩,.inl rfl⟩
   simp [Builtin.append_,run_underlying Tryz.underlying55,Go.sizeOf,typeInfo,hi0,Builtin.lenOf,Builtin.firstCells,hle,storeCells]
  | some a =>
   have hl:=frCells_length L
   by_cases hroom:M.length+L.length≤cap
   ·have hm9:=Nat.mul_le_mul_right 9 hroom
    rw [Nat.add_mul] at hm9
    have hr:=run_append_room_cells (P:=Tryz.prog) w 55 ty 125 i0 Tryz.underlying55 hi0 g o M.length cap a L.length c (frCells L) (by rw [hz1]; exact hl) hf.cells (frCells_one L) hroom
     (fun j hj=>by rw [hl] at hj; rw [hz1,cell_of_row _ _ _ _ _ _ hg,Array.getElem?_eq_getElem (by omega)]; rfl) (fun j _=>frozen_of_row _ _ _ _ _ hg)
    rw [hz1] at hr
    have hk:=kept_setCells g (frCells L) (o+M.length * 9) w
    exact ⟨_,_,hr,OwnF.splice hbg hg hroom hcap hsz hc,⟨hk.os,hk.tape,hk.output,hk.size,fun k h1 h2=>hk.block k h1 (fun e=>h2 (by rw [show k=g from e]; rfl))⟩,.inl rfl⟩
   ·have holds:∀ j u,(frCells M)[j]? = some u→w.cell? ((⟨g,o,none⟩:Addr).add j)=some u:=fun j u hj=>by
     have h1:=(List.getElem?_eq_some_iff.1 hj).1
     rw [frCells_length] at h1
     rw [addr_add,cell_of_row _ _ _ _ _ _ hg,hc j h1,hj]
    have hbytes:(M.length+L.length) * 72≤140737488355328:=by omega
    have hr:=run_append_grow (P:=Tryz.prog) w 55 ty 125 i0 _ Tryz.underlying55 hi0 hz0 ⟨g,o,none⟩ M.length cap (frCells M) (by rw [hz1]; exact frCells_length M) holds a L.length c (frCells L) (by rw [hz1]; exact hl) hf.cells (by omega) (by omega) (by rw [hz2]; exact growslice_fits (by omega) hbytes)
    refine ⟨_,_,hr,.inr ⟨w.heap.size,0,grownCap w (M.length+L.length) cap 125,_,by rw [List.length_append],hb,heap_alloc_new w.drew _,by rw [List.length_append]; exact grownCap_ge w _ _ _,grownCap_le_maxLen w _ _ _ (by unfold maxLen; omega),?_,fun j hj=>?_⟩,⟨rfl,rfl,rfl,by simp,fun k hk _=>Below.heap_alloc w.drew _ _ hk⟩,.inr rfl⟩
    ·have hge:=grownCap_ge w (M.length+L.length) cap 125
     simp only [Array.size_append,List.size_toArray,size_zeroCells,frCells_length]
     have h9:(frV 0 0 0 0 0 false 0 0 0).cells.size=9:=rfl
     first|rw [h9]|skip
     rw [Nat.zero_add,← Nat.add_mul,← Nat.add_mul]
     refine Nat.mul_le_mul_right 9 ?_
     omega
    ·rw [List.length_append,Nat.add_mul] at hj
     have hls:((frCells M).toArray ++ (frCells L).toArray).size=M.length * 9+L.length * 9:=by simp only [Array.size_append,List.size_toArray,frCells_length]
     rw [Nat.zero_add,Array.getElem?_append_left (by rw [hls]; exact hj),frCells_append,← Array.getElem?_toList]
     simp
theorem wpList_append_frsF {w:World} {ops:Array Oper} {rest:List Oper} {o:Oper} {a:Act} {Q:Exit→Act→World→Prop} (hgd:o.guard=none) (s x:Operand)
  (ho:o.op=.call { callee:=.builtin .append,args:=#[s,x],argTypes:=#[55,55] })
  (base:Nat) (v u:Value) (M L:List F9) (hs:a.eval s=v) (hx:a.eval x=u) (hown:OwnF w base v M) (hu:IsFr w u L) (hn:M.length+L.length≤1000000000000) (hb:base≤w.heap.size)
  (h:∀ ad' cap' w',OwnF w' base (.slice ad' (M.length+L.length) cap') (M ++ L)→w.grownBy w' v.ownBlock→((Value.slice ad' (M.length+L.length) cap').ownBlock=v.ownBlock ∨ (Value.slice ad' (M.length+L.length) cap').ownBlock=some w.heap.size)→wpList Tryz.prog ops Q rest (a.put o.dst (.slice ad' (M.length+L.length) cap')) w') :
  wpList Tryz.prog ops Q (o :: rest) a w:=by
 refine wpList_plain hgd fun K hK=>?_
 obtain ⟨v',w',hr,h2,h3,h5⟩:=run_append_frsF w o.type base v u M L hown hu hn hb
 unfold Oper.wp execOp
 simp only [ho,resolve,invoke,builtin,Sem.run_bind,Sem.run_pure,Result.andThen_ok,List.map_toArray,List.map_cons,List.map_nil,hs,hx,hr]
 obtain ⟨ad',cap',rfl⟩:∃ ad' cap',v'=.slice ad' (M.length+L.length) cap':=by rw [← List.length_append]; exact h2.form
 exact hK _ _ (h ad' cap' w' h2 h3 h5)
theorem grown_kept {w w':World} {row:Option Nat} (h:w.grownBy w' row):Kept (fun x=>row=some x) w w':=⟨h.os,h.tape,h.output,h.size,fun k hk hs=>h.block k hk (fun e=>hs e.symm)⟩
theorem own_lt {w:World} {e:TypeId} {size n base:Nat} {v:Value} {xs:List Value} (h:w.ownsRow base e size v n xs) {g:Nat} (hg:v.ownBlock=some g):g<w.heap.size:=(h.lt g hg).2
section
variable {w0 w w':World} {C:Nat→Nat} {X:XB} {m:Nat} {zs:List Int} {V:PX} {A:Nat→Addr}
theorem XI.send {L:List F9} (h:XI zs V m) (hL:∀ f,f∈L→FI zs.length f) (hl:L.length≤1000):XI zs (sendX V L) (m+1):=by
 refine ⟨h.he,fun i hi=>?_,fun f hf=>?_,?_,h.ev⟩
 ·have:=h.nd i hi
  exact ⟨this.gd,fun d hd=>Nat.le_succ_of_le (this.nm d hd),this.sz,this.up,this.l0,this.l1,this.ld⟩
 ·rcases List.mem_append.1 hf with g|g
  ·exact h.fr f g
  ·exact hL f g
 ·have:=h.fl
  show (V.fly ++ L).length≤_
  rw [List.length_append]; omega
theorem WD.sent {L:List F9} {v':Value} (h:WD w0 w C X zs V m) (hown:OwnF w' w0.heap.size v' (V.fly ++ L)) (hg:w.grownBy w' X.fv.ownBlock) (ho:v'.ownBlock=X.fv.ownBlock ∨ v'.ownBlock=some w.heap.size) (hL:∀ f,f∈L→FI zs.length f) (hl:L.length≤1000) :
  ∃ C',WD w0 (w'.setCell ⟨X.xb,3,none⟩ v') C' { X with fv:=v' } zs (sendX V L) (m+1)∧Kept (OwnX C) w (w'.setCell ⟨X.xb,3,none⟩ v')∧∀ x,x<w.heap.size→C' x=C x:=by
 have hk:=grown_kept hg
 have hx:=row_ltJ h.row
 have hcx:=h.cx
 have hrow:w'.heap[X.xb]? = some (.cells (wdC X zs.length).toArray 148 (0,0)):=hk.row h.row (fun e=>by have:=h.cf _ e; omega)
 have hkk:Kept (OwnX C) w (w'.setCell ⟨X.xb,3,none⟩ v'):=(hk.mono (fun x hx=>by show C x<2000; have:=h.cf x hx; omega)).setCell (show C X.xb<2000 by omega) v'
 have hr2:(w'.setCell ⟨X.xb,3,none⟩ v').heap[X.xb]? = some (.cells (wdC { X with fv:=v',ev:=X.ev } zs.length).toArray 148 (0,0)):=by
  rw [heap_setCell_same w' X.xb 3 _ _ _ hrow]; rfl
 have hf:OwnF (w'.setCell ⟨X.xb,3,none⟩ v') w0.heap.size v' (V.fly ++ L):=by
  refine hown.kept ((Kept.refl (In1 X.xb) w').set1 3 v') (fun g hgg e=>?_)
  rcases ho with o|o
  ·rw [hgg] at o
   have:=h.cf g o.symm
   rw [show g=X.xb from e] at this; omega
  ·rw [hgg] at o
   have:=Option.some.inj o
   rw [show g=X.xb from e] at this; omega
 have he:(w'.setCell ⟨X.xb,3,none⟩ v').ownsRow w0.heap.size 180 3 X.ev V.evs.length (evCells V.evs) :=
  own_kept h.evs ((hk.mono (fun x hx=>.inr hx)).setCell (S:=fun x=>x=X.xb ∨ X.fv.ownBlock=some x) (.inl rfl) v') (fun g hg e=>by
   have h6:=h.ce g hg
   rcases e with rfl|e
   ·omega
   ·have:=h.cf g e; omega)
 have hS:∀ x,(x=X.xb ∨ X.fv.ownBlock=some x)→C x=1001 ∨ C x=1005 ∨ C x=1006:=fun x hx=>by
  rcases hx with rfl|hx
  ·exact .inl h.cx
  ·exact .inr (.inl (h.cf x hx))
 have hK2:Kept (fun x=>x=X.xb ∨ X.fv.ownBlock=some x) w (w'.setCell ⟨X.xb,3,none⟩ v'):=(hk.mono (fun x hx=>.inr hx)).setCell (.inl rfl) v'
 rcases ho with o|o
 ·refine ⟨C,?_,hkk,fun _ _=>rfl⟩
  exact h.own (fv:=v') (ev:=X.ev) (F:=V.fly ++ L) (E:=V.evs) hK2 hS (fun _ _=>rfl) (fun x hx hc=>by have:=h.lt x hc; omega) hr2 hf he (fun g hgg=>h.cf g (by rw [← o]; exact hgg)) h.ce (Nat.le_succ _) (h.inv.send hL hl)
 ·have hlt:w.heap.size<w'.heap.size:=(hown.lt _ o).2
  have hC:∀ x,x<w.heap.size→paint C w.heap.size 1005 x=C x:=fun x hx=>paint_ne (by omega)
  refine ⟨paint C w.heap.size 1005,?_,hkk,hC⟩
  refine h.own (fv:=v') (ev:=X.ev) (F:=V.fly ++ L) (E:=V.evs) hK2 hS hC (fun x hx hc=>?_) hr2 hf he (fun g hgg=>?_) (fun g hgg=>?_) (Nat.le_succ _) (h.inv.send hL hl)
  ·by_cases e:x=w.heap.size
   ·rw [e]; simpa using hlt
   ·rw [paint_ne e] at hc
    have:=h.lt x hc; omega
  ·rw [o] at hgg
   obtain rfl:=Option.some.inj hgg
   exact paint_at _ _ _
  ·have:=own_lt h.evs hgg
   rw [hC g this]
   exact h.ce g hgg
theorem send_any (v:Value) (L:List F9) (h:WD w0 w C X zs V m) (hv:IsFr w v L) (hL:∀ f,f∈L→FI zs.length f) (hl:L.length≤1000) (hm:m≤100000000) :
  Calls Tryz.prog 104 #[.pointer (some ⟨X.xb,0,none⟩),v] w fun e w'=>e=.returned (.tuple #[])∧∃ C' v',WD w0 w' C' { X with fv:=v' } zs (sendX V L) (m+1)∧Kept (OwnX C) w w'∧∀ x,x<w.heap.size→C' x=C x:=by
 obtain ⟨-,-,-,c3,-⟩:=h.cells
 have z3:=h.fz 3
 have H:=hid h
 have HV:=hid hv
 have HL:=hid hL
 have hfl:V.fly.length+L.length≤1000000000000:=by have:=h.inv.fl; omega
 have HO:=hid h.fly
 have hbs:=h.bel.size
 have hb:=row_ltJ h.row
 have HX:Hid (∀ w',w.grownBy w' X.fv.ownBlock→w'.cell? ⟨X.xb,3,none⟩=some X.fv∧w'.frozen? ⟨X.xb,3,none⟩=false):=by
  intro w' hg
  have hr:=(grown_kept hg).row h.row (fun e=>by have h1:=h.cf _ e; have h2:=h.cx; omega)
  exact ⟨by rw [cell_of_row _ _ _ _ _ _ hr]; rfl,frozen_of_row _ _ _ _ _ hr⟩
 generalize hfv:X.fv=fv at c3 HO
 have HFV:=hid hfv
 clear h hv hL hfv
 go_enter Tryz.func104,Tryz.ntmps104
 go_wp2_with (at_builtin; refine wpList_append_frsF rfl _ _ rfl w0.heap.size _ v V.fly L rfl rfl HO.out HV.out hfl hbs ?_; intro ad' cap' w' hown hg ho; obtain ⟨c3',z3'⟩:=HX.out w' (by rw [HFV.out]; exact hg); have HS:=hid (And.intro hown (And.intro hg ho)); clear hown hg ho)
 go_end0
 rw [← HFV.out] at HS
 obtain ⟨C',h1,h2,h3⟩:=H.out.sent HS.out.1 HS.out.2.1 HS.out.2.2 HL.out hl
 exact ⟨rfl,C',_,h1,h2,h3⟩
end
end Go.Proofs.YtaehdgemkafinaaGreatDoor
