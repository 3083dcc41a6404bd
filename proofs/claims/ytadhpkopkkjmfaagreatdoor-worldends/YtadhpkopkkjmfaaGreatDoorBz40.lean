/-
  On the way to WStepsProof, WCommitsProof, WAgreesProof, WEndsProof, WWaitsProof, JTampersProof, PAgreesProof, PAgainProof: VH VJ VK.
-/
import Derived.Test.YtadhpkopkkjmfaaGreatDoorBz37
import Derived.Test.YtadhpkopkkjmfaaGreatDoorBz38
set_option maxHeartbeats 8000000
set_option maxRecDepth 100000
namespace Go.Proofs.YtadhpkopkkjmfaaGreatDoor
open Go.RowKit
section
variable {w0 w w':World} {C:Nat→Nat} {K:NB} {X:XB} {i m:Nat} {zs:List Int} {N:PN} {V:PX} {A:Nat→Addr}
theorem ND.power {l:Int} (h:ND w0 w C K i zs N m) (hk:Kept (In2 K.p K.q) w w') (hp:Pl w' K.p K.q N.B l) (h0:-2≤l) (h1:l≤9223372036854775807):ND w0 w' C K i zs { N with l:=l } m:=by
 have e1:=h.cs; have e2:=h.cj; have e3:=h.cm; have e4:=h.cp; have e5:=h.cq; have e6:=h.cn
 have nS:∀ x,C x≠100 * i+5→C x≠100 * i+6→¬ In2 K.p K.q x:=fun x g1 g2 hx=>by
  rcases hx with rfl|rfl
  ·exact g1 e4
  ·exact g2 e5
 refine ⟨hk.row h.row (nS _ (by omega) (by omega)),h.sp.turn (h.sp.jp.plate hk hp h0 h1 rfl) (hk.mono (fun x hx=>.inr hx)),fun d hd x hx=>?_,h.cn,h.cs,h.cj,h.cm,h.cp,h.cq,h.cl,h.n0⟩
 have g:=h.cl d hd x hx
 exact (h.lds d hd x hx).kept hk (nS _ (by omega) (by omega)) (nS _ (by omega) (by omega))
theorem ND.in2 (h:ND w0 w C K i zs N m):∀ x,In2 K.p K.q x→C x / 100=i:=fun x hx=>by
 have e4:=h.cp; have e5:=h.cq
 rcases hx with rfl|rfl <;> omega
theorem ND.in3 (h:ND w0 w C K i zs N m):∀ x,In3 K.j K.p K.q x→C x / 100=i:=fun x hx=>by
 have e3:=h.cj; have e4:=h.cp; have e5:=h.cq
 rcases hx with rfl|rfl|rfl <;> omega
theorem set6 {w:World} {g:Nat} {a b0 b1 b2 b3 b4 b5:Value} {t:TypeId} (h:w.heap[g]? = some (.cells #[a,b0,b1,b2,b3,b4,b5] t (0,0))) (x0 x1 x2 x3 x4 x5:Value) :
  ((((((w.setCell ⟨g,1,none⟩ x0).setCell ⟨g,2,none⟩ x1).setCell ⟨g,3,none⟩ x2).setCell ⟨g,4,none⟩ x3).setCell ⟨g,5,none⟩ x4).setCell ⟨g,6,none⟩ x5).heap[g]? = some (.cells #[a,x0,x1,x2,x3,x4,x5] t (0,0)):=by
 have h0:=heap_setCell_same w g 1 _ _ x0 h
 have h1:=heap_setCell_same _ g 2 _ _ x1 h0
 have h2:=heap_setCell_same _ g 3 _ _ x2 h1
 have h3:=heap_setCell_same _ g 4 _ _ x3 h2
 have h4:=heap_setCell_same _ g 5 _ _ x4 h3
 have h5:=heap_setCell_same _ g 6 _ _ x5 h4
 rw [h5]
 rfl
theorem ND.noLeads (h:ND w0 w C K i zs N m) (hl:N.l=-2) :
  ND w0 ((((((w.setCell ⟨K.nd,1,none⟩ (.pointer none)).setCell ⟨K.nd,2,none⟩ (.pointer none)).setCell ⟨K.nd,3,none⟩ (.pointer none)).setCell ⟨K.nd,4,none⟩ (.pointer none)).setCell ⟨K.nd,5,none⟩ (.pointer none)).setCell ⟨K.nd,6,none⟩ (.pointer none)) C K i zs (fallN N) m ∧
  Kept (fun x=>C x / 100=i) w ((((((w.setCell ⟨K.nd,1,none⟩ (.pointer none)).setCell ⟨K.nd,2,none⟩ (.pointer none)).setCell ⟨K.nd,3,none⟩ (.pointer none)).setCell ⟨K.nd,4,none⟩ (.pointer none)).setCell ⟨K.nd,5,none⟩ (.pointer none)).setCell ⟨K.nd,6,none⟩ (.pointer none)):=by
 have e1:=h.cs; have e2:=h.cj; have e3:=h.cm; have e4:=h.cp; have e5:=h.cq; have e6:=h.cn
 have hk:Kept (In1 K.nd) w ((((((w.setCell ⟨K.nd,1,none⟩ (.pointer none)).setCell ⟨K.nd,2,none⟩ (.pointer none)).setCell ⟨K.nd,3,none⟩ (.pointer none)).setCell ⟨K.nd,4,none⟩ (.pointer none)).setCell ⟨K.nd,5,none⟩ (.pointer none)).setCell ⟨K.nd,6,none⟩ (.pointer none)) :=
  ((((((Kept.refl _ w).set1 1 _).set1 2 _).set1 3 _).set1 4 _).set1 5 _).set1 6 _
 have nS:∀ x,C x≠100 * i+1→¬ In1 K.nd x:=fun x g hx=>by rw [show x=K.nd from hx] at g; exact g e6
 have hlo:∀ x,In1 K.nd x→w0.heap.size≤x:=fun x hx=>by rw [show x=K.nd from hx]; exact h.n0
 refine ⟨⟨set6 h.row _ _ _ _ _ _,?_,fun d hd x hx=>(by cases hx),h.cn,h.cs,h.cj,h.cm,h.cp,h.cq,fun d hd x hx=>(by cases hx),h.n0⟩,hk.mono (fun x hx=>by rw [show x=K.nd from hx]; show C K.nd / 100=i; omega)⟩
 have:=h.sp.far hk hlo (fun x hx=>nS x (by rcases hx with rfl|rfl|rfl <;> omega)) (nS _ (by omega)) (nS _ (by omega))
 rw [hl] at this
 exact this
theorem fall_any (h:ND w0 w C K i zs N m) :
  Calls Tryz.prog 78 #[.pointer (some ⟨K.nd,0,none⟩)] w fun e w'=>e=.returned (.tuple #[])∧ND w0 w' C K i zs (fallN N) m∧Kept (fun x=>C x / 100=i) w w':=by
 obtain ⟨c0,c1,c2⟩:=h.way
 have H:=hid h
 clear h
 go_enter Tryz.func78,Tryz.ntmps78
 go_wp2_with fail
 refine (poff_any K.p K.q N.B N.l w H.out.sp.jp.pl).mono ?_
 rintro e w1 ⟨rfl,hp,hk⟩
 have HK:=hid (hk.mono H.out.in2)
 have H1:=hid (H.out.power hk hp (by decide) (by decide))
 clear hp hk
 have d1:=H1.out.cell 1
 have d2:=H1.out.cell 2
 have d3:=H1.out.cell 3
 have d4:=H1.out.cell 4
 have d5:=H1.out.cell 5
 have d6:=H1.out.cell 6
 have z1:=H1.out.fz 1
 have z2:=H1.out.fz 2
 have z3:=H1.out.fz 3
 have z4:=H1.out.fz 4
 have z5:=H1.out.fz 5
 have z6:=H1.out.fz 6
 simp only [ndC,List.getElem?_cons_succ,List.getElem?_cons_zero] at d1 d2 d3 d4 d5 d6
 go_wp2_with fail
 go_end0
 obtain ⟨g1,g2⟩:=H1.out.noLeads rfl
 exact ⟨rfl,g1,HK.out.trans g2⟩
end
section
variable {n m m' i:Nat} {zs:List Int} {N:PN} {V:PX}
theorem NI.mono (h:NI n N m) (hm:m≤m'):NI n N m':=⟨h.gd,fun d hd=>Nat.le_trans (h.nm d hd) hm,h.sz,h.up,h.l0,h.l1,h.ld⟩
theorem XI.mono (h:XI zs V m) (hm:m≤m'):XI zs V m':=⟨h.he,fun i hi=>(h.nd i hi).mono hm,h.fr,by have:=h.fl; omega,h.ev⟩
theorem XI.node (h:XI zs V m) (hN:NI zs.length N m') (hm:m≤m'):XI zs (setNd V i N) m':=by
 refine ⟨h.he,fun k hk=>?_,h.fr,by have:=h.fl; show V.fly.length≤_; omega,h.ev⟩
 show NI zs.length (if k=i then N else V.nd k) m'
 split
 ·exact hN
 ·exact (h.nd k hk).mono hm
theorem NI.fall (h:NI n N m):NI n (fallN N) m:=⟨h.gd,h.nm,h.sz,fun g=>(g rfl).elim,by show (-2:Int)≤-2; omega,by show (-2:Int)≤_; omega,fun d x hx=>by cases hx⟩
theorem cL_on {l x:Int} (h:l≠-2):cL l x≠-2:=by
 unfold cL
 rw [if_neg h]
 split <;> omega
theorem NI.cut {x:Int} (h:NI n N m) (hx:x≤9223372036854775807):NI n { N with l:=cL N.l x } m:=by
 have h0:=h.l0
 have h1:=h.l1
 refine ⟨h.gd,h.nm,h.sz,fun g=>h.up (fun e=>g ?_),?_,?_,fun d y hy=>?_⟩
 ·show cL N.l x=-2
  unfold cL; rw [if_pos e]; split <;> exact e
 ·show -2≤cL N.l x
  unfold cL
  split
  ·omega
  ·split <;> omega
 ·show cL N.l x≤_
  unfold cL
  split
  ·omega
  ·split <;> omega
 ·have:=h.ld d y hy
  exact ⟨cL_on this.1,this.2⟩
theorem NI.refuse {R:Nat→Bool} (h:NI n N m):NI n { N with R:=R } m:=⟨h.gd,h.nm,h.sz,h.up,h.l0,h.l1,h.ld⟩
end
section
variable {w0 w w' w'':World} {C:Nat→Nat} {K:NB} {X:XB} {i m m':Nat} {zs:List Int} {N:PN} {V V':PX} {A:Nat→Addr}
theorem WD.mono (h:WD w0 w C X zs V m) (hm:m≤m'):WD w0 w C X zs V m':=by
 obtain ⟨D,hD,hh⟩:=h.brk
 exact ⟨h.bel,h.row,h.ws,h.ns,fun i hi=>(h.nds i hi).mono hm,⟨D,hD.mono hm,hh⟩,h.fly,h.evs,h.cx,h.cw,h.cn,h.cm,h.cf,h.ce,h.lt,h.low,h.inv.mono hm⟩
def key (X:XB):Nat×(Nat→Nat):=(X.xb,fun e=>(X.K e).nd)
theorem key_xb {X X':XB} (h:key X'=key X):X'.xb=X.xb:=congrArg Prod.fst h
theorem key_nd {X X':XB} (h:key X'=key X) (e:Nat):(X'.K e).nd=(X.K e).nd:=congrFun (congrArg Prod.snd h) e
theorem key_K {X:XB} {i:Nat} {K:NB} (h:K.nd=(X.K i).nd):key { X with K:=fun e=>if e=i then K else X.K e }=key X:=by
 unfold key
 refine Prod.ext rfl ?_
 funext e
 show (if e=i then K else X.K e).nd=(X.K e).nd
 split
 ·rename_i g; rw [g]; exact h
 ·rfl
def WOut (w0 w w':World) (C:Nat→Nat) (X:XB) (zs:List Int) (V':PX) (m':Nat):Prop :=
 ∃ C' X',WD w0 w' C' X' zs V' m'∧key X'=key X∧Kept (OwnX C) w w'∧∀ x,x<w.heap.size→C' x=C x
theorem WD.out (h:WD w0 w C X zs V m) (hb:Below w.heap.size w w') (hm:m≤m'):WOut w0 w w' C X zs V m' :=
 ⟨C,X,(h.later hb).mono hm,rfl,Kept.of_below hb,fun _ _=>rfl⟩
theorem WD.nodeOut (h:WD w0 w C X zs V m) (hi:i<zs.length) (k:Kept (fun x=>C x / 100=i) w w') (hN:ND w0 w' C (X.K i) i zs N m') (hm:m≤m') (hI:NI zs.length N m'):WOut w0 w w' C X zs (setNd V i N) m':=by
 have n7:=h.n7.2
 refine ⟨C,_,h.node k hi (fun x hx=>hx) (fun _ _=>rfl) (fun x hx hc=>by have:=h.lt x hc; omega) hN rfl hm (h.inv.node hI hm),key_K rfl,k.mono (fun x hx=>by show C x<2000; omega),fun _ _=>rfl⟩
theorem WOut.later (h:WOut w0 w w' C X zs V m) (hb:Below w'.heap.size w' w''):WOut w0 w w'' C X zs V m:=by
 obtain ⟨C',X',h1,h2,h3,h4⟩:=h
 exact ⟨C',X',h1.later hb,h2,h3.trans (Kept.of_below hb),h4⟩
theorem WOut.step {w1 w2:World} {C1:Nat→Nat} {X1:XB} (hx:key X1=key X) (hk:Kept (OwnX C) w w1) (hc:∀ x,x<w.heap.size→C1 x=C x) (h2:WOut w0 w1 w2 C1 X1 zs V' m'):WOut w0 w w2 C X zs V' m':=by
 obtain ⟨C',X',g1,g2,g3,g4⟩:=h2
 refine ⟨C',X',g1,g2.trans hx,?_,fun x hx=>(g4 x (Nat.lt_of_lt_of_le hx hk.size)).trans (hc x hx)⟩
 refine ⟨g3.os.trans hk.os,g3.tape.trans hk.tape,g3.output.trans hk.output,Nat.le_trans hk.size g3.size,fun y hy hn=>?_⟩
 refine (g3.block y (Nat.lt_of_lt_of_le hy hk.size) (fun e=>hn ?_)).trans (hk.block y hy hn)
 show C y<2000
 rw [← hc y hy]
 exact e
def cUp (n:Nat) (V:PX) (s:Int):Nat:=if 0≤s∧s<n then (if upN (V.nd s.toNat)=true then 0 else 6) else 2
theorem down_any (s:Int) (c:Nat) (h:WD w0 w C X zs V m) (hE:Held9 w0 A) (hc:cUp zs.length V s=c) :
  Calls Tryz.prog 34 #[.pointer (some ⟨X.xb,0,none⟩),.int .i64 s] w fun e w'=>e=.returned (ev A c)∧WOut w0 w w' C X zs (if c=0 then downX V s.toNat else V) (m+1):=by
 have H:=hid h
 have HE:=hid hE
 have HE1:=hid (h.held hE)
 clear h hE
 subst hc
 by_cases hs:0≤s∧s<zs.length
 ·obtain ⟨k,rfl⟩:=Int.eq_ofNat_of_zero_le hs.1
  have hk:k<zs.length:=by omega
  have HK:=hid hk
  obtain ⟨b,HB⟩:∃ b,Hid (((V.nd k).l != -2)=b):=⟨_,rfl⟩
  have HU:Hid (upN (V.nd k)=b):=HB.out
  cases b with
  | true =>
   have e:cUp zs.length V k=0:=by unfold cUp; rw [if_pos hs,Int.toNat_natCast,HU.out,if_pos rfl]
   rw [e]
   clear e hs hk
   go_enter Tryz.func34,Tryz.ntmps34
   go_wp2_with fail
   refine (find_ok k H.out HK.out).mono ?_
   rintro e w1 ⟨rfl,hx⟩
   subst w1
   go_wp2_with fail
   refine (powered_is true (H.out.nds k HK.out) HE1.out HB.out).mono ?_
   rintro e w1 ⟨rfl,hb⟩
   simp only [if_true]
   have H1:=hid (H.out.later hb)
   have HB1:=hid hb
   clear hb
   go_wp2_with fail
   refine (fall_any (H1.out.nds k HK.out)).mono ?_
   rintro e w2 ⟨rfl,hN,hk2⟩
   have HN:=hid (And.intro hN hk2)
   clear hN hk2
   go_wp2_with fail
   go_ret
   refine ⟨rfl,?_⟩
   exact WOut.step rfl (Kept.of_below HB1.out) (fun _ _=>rfl) (H1.out.nodeOut HK.out HN.out.2 (HN.out.1.mono (Nat.le_succ _)) (Nat.le_succ _) ((H1.out.inv.nd k HK.out).fall.mono (Nat.le_succ _)))
  | false =>
   have e:cUp zs.length V k=6:=by unfold cUp; rw [if_pos hs,Int.toNat_natCast,HU.out,if_neg (by decide)]
   rw [e]
   clear e hs hk
   go_enter Tryz.func34,Tryz.ntmps34
   go_wp2_with fail
   refine (find_ok k H.out HK.out).mono ?_
   rintro e w1 ⟨rfl,hx⟩
   subst w1
   go_wp2_with fail
   refine (powered_is false (H.out.nds k HK.out) HE1.out HB.out).mono ?_
   rintro e w1 ⟨rfl,hb⟩
   rw [if_neg (by decide),if_neg (by decide)]
   have HB1:=hid hb
   clear hb
   go_wp2_with fail
   go_ret
   refine ⟨rfl,?_⟩
   exact H.out.out HB1.out (Nat.le_succ _)
 ·have e:cUp zs.length V s=2:=by unfold cUp; rw [if_neg hs]
  rw [e]
  have HS:=hid hs
  clear e hs
  go_enter Tryz.func34,Tryz.ntmps34
  go_wp2_with fail
  refine (find_no s H.out HE.out HS.out).mono ?_
  rintro e w1 ⟨rfl,hb⟩
  have HB1:=hid hb
  clear hb
  go_wp2_with fail
  refine (powered_err _ _).mono ?_
  rintro e w2 ⟨rfl,hx⟩
  subst w2
  go_wp2_with fail
  go_ret
  refine ⟨rfl,?_⟩
  exact H.out.out HB1.out (Nat.le_succ _)
end
section
variable {w0 w w':World} {C:Nat→Nat} {K:NB} {X:XB} {i m m':Nat} {zs:List Int} {N:PN} {V V':PX} {A:Nat→Addr}
theorem is_no (s:Int) (h:WD w0 w C X zs V m) (hE:Held9 w0 A) (hs:¬ (0≤s∧s<zs.length)) :
  Calls Tryz.prog 98 #[.pointer (some ⟨X.xb,0,none⟩),.int .i64 s] w fun e w'=>e=.returned (.tuple #[.bool false,.iface 276 (.pointer (some (A 1)))])∧Below w.heap.size w w':=by
 have H:=hid h
 have HE:=hid hE
 have HS:=hid hs
 clear h hE hs
 go_enter Tryz.func98,Tryz.ntmps98
 go_wp2_with fail
 refine (find_no s H.out HE.out HS.out).mono ?_
 rintro e w1 ⟨rfl,hb⟩
 have HB:=hid hb
 clear hb
 go_wp2_with fail
 go_ret2
 exact ⟨rfl,HB.out⟩
theorem is_ok (s:Nat) (h:WD w0 w C X zs V m) (hs:s<zs.length) :
  Calls Tryz.prog 98 #[.pointer (some ⟨X.xb,0,none⟩),.int .i64 (s:Int)] w fun e w'=>e=.returned (.tuple #[.bool (upN (V.nd s)),.nilIface])∧w'=w:=by
 have H:=hid h
 have HS:=hid hs
 obtain ⟨c0,c1,c2⟩:=(h.nds s hs).way
 obtain ⟨b,HB⟩:∃ b,Hid (((V.nd s).l != -2)=b):=⟨_,rfl⟩
 rw [show upN (V.nd s)=b from HB.out]
 clear h hs
 go_enter Tryz.func98,Tryz.ntmps98
 go_wp2_with fail
 refine (find_ok s H.out HS.out).mono ?_
 rintro e w1 ⟨rfl,hx⟩
 subst w1
 go_wp2_with fail
 refine (power_any _ _ _ _ w (H.out.nds s HS.out).sp.jp.pl).mono ?_
 rintro e w1 ⟨rfl,hx⟩
 subst w1
 rw [HB.out]
 go_wp2_with fail
 go_ret2
 exact ⟨rfl,rfl⟩
def leadT (N:PN) (d:Nat):ByteArray:=match N.ld d with
 | none=>⟨#[110,111,110,101]⟩
 | some x=>stP x.2.stt
theorem lead_no (s d:Int) (h:WD w0 w C X zs V m) (hE:Held9 w0 A) (hs:¬ ((0≤s∧s<zs.length)∧0≤d∧d<6)) :
  Calls Tryz.prog 22 #[.pointer (some ⟨X.xb,0,none⟩),.int .i64 s,.int .i64 d] w fun e w'=>e=.returned (.tuple #[.string ⟨#[]⟩,.iface 276 (.pointer (some (A 1)))])∧Below w.heap.size w w':=by
 have H:=hid h
 have HE:=hid hE
 have HS:=hid hs
 clear h hE hs
 go_enter Tryz.func22,Tryz.ntmps22
 go_wp2_with fail
 refine (findDeal_no s d H.out HE.out HS.out).mono ?_
 rintro e w1 ⟨rfl,hb⟩
 have HB:=hid hb
 clear hb
 go_wp2_with fail
 go_ret2
 exact ⟨rfl,HB.out⟩
theorem lead_ok (s d:Nat) (h:WD w0 w C X zs V m) (hs:s<zs.length) (hd:d<6) :
  Calls Tryz.prog 22 #[.pointer (some ⟨X.xb,0,none⟩),.int .i64 (s:Int),.int .i64 (d:Int)] w fun e w'=>e=.returned (.tuple #[.string (leadT (V.nd s) d),.nilIface])∧w'=w:=by
 have H:=hid h
 have HS:=hid hs
 have c3:=(h.nds s hs).lead hd
 clear h hs
 cases hl:(V.nd s).ld d with
 | none =>
  have e:leadT (V.nd s) d=⟨#[110,111,110,101]⟩:=by unfold leadT; rw [hl]
  rw [ldV_none hl] at c3
  rw [e]
  clear hl e
  go_enter Tryz.func22,Tryz.ntmps22
  go_wp2_with fail
  refine (findDeal_ok s d H.out HS.out hd).mono ?_
  rintro e w1 ⟨rfl,hx⟩
  subst w1
  go_wp2_with fail
  go_ret2
  exact ⟨rfl,rfl⟩
 | some x =>
  have e:leadT (V.nd s) d=stP x.2.stt:=by unfold leadT; rw [hl]
  rw [ldV_some hl] at c3
  rw [e]
  have HL:=hid ((H.out.nds s HS.out).lds d hd x hl)
  clear hl e
  go_enter Tryz.func22,Tryz.ntmps22
  go_wp2_with fail
  refine (findDeal_ok s d H.out HS.out hd).mono ?_
  rintro e w1 ⟨rfl,hx⟩
  subst w1
  go_wp2_with fail
  refine (ldState_any HL.out).mono ?_
  rintro e w1 ⟨rfl,hx⟩
  subst w1
  go_wp2_with fail
  go_ret2
  exact ⟨rfl,rfl⟩
def cCut (n:Nat) (V:PX) (s x:Int):Nat:=if 0≤s∧s<n then cC (V.nd s.toNat).l x else 2
theorem cut_any (s x:Int) (c:Nat) (h:WD w0 w C X zs V m) (hE:Held9 w0 A) (hx:x≤9223372036854775807) (hc:cCut zs.length V s x=c) :
  Calls Tryz.prog 69 #[.pointer (some ⟨X.xb,0,none⟩),.int .i64 s,.int .i64 x] w fun e w'=>e=.returned (ev A c)∧WOut w0 w w' C X zs (if 0≤s∧s<zs.length then cutX V s.toNat x else V) (m+1):=by
 have H:=hid h
 have HE:=hid hE
 have HE1:=hid (h.held hE)
 have HC:=hid hc
 clear h hE hc
 by_cases hs:0≤s∧s<zs.length
 ·rw [if_pos hs]
  obtain ⟨k,rfl⟩:=Int.eq_ofNat_of_zero_le hs.1
  have hk:k<zs.length:=by omega
  have HK:=hid hk
  have HCC:Hid (cC (V.nd k).l x=c):=by rw [← HC.out]; unfold cCut; rw [if_pos hs,Int.toNat_natCast]; exact rfl
  have HX:=hid hx
  obtain ⟨c0,c1,c2⟩:=(H.out.nds k hk).way
  clear hs hk hx HC
  rw [Int.toNat_natCast]
  obtain ⟨r,HR⟩:∃ r,Hid (ev A c=r):=⟨_,rfl⟩
  rw [HR.out]
  go_enter Tryz.func69,Tryz.ntmps69
  go_wp2_with fail
  refine (find_ok k H.out HK.out).mono ?_
  rintro e w1 ⟨rfl,hx⟩
  subst w1
  go_wp2_with fail
  refine (cut_pl A _ _ _ _ x w (H.out.nds k HK.out).sp.jp.pl HE1.out.toE).mono ?_
  rintro e w1 ⟨rfl,hp,hk2⟩
  have HN:=hid ((H.out.nds k HK.out).power hk2 hp ((H.out.inv.nd k HK.out).cut HX.out).l0 ((H.out.inv.nd k HK.out).cut HX.out).l1)
  have HK2:=hid (hk2.mono (H.out.nds k HK.out).in2)
  clear hp hk2
  rw [HCC.out,HR.out]
  go_wp2_with fail
  go_ret
  exact ⟨rfl,H.out.nodeOut HK.out HK2.out (HN.out.mono (Nat.le_succ _)) (Nat.le_succ _) (((H.out.inv.nd k HK.out).cut HX.out).mono (Nat.le_succ _))⟩
 ·rw [if_neg hs]
  obtain rfl:c=2:=by rw [← HC.out]; unfold cCut; rw [if_neg hs]
  have HS:=hid hs
  clear hs
  go_enter Tryz.func69,Tryz.ntmps69
  go_wp2_with fail
  refine (find_no s H.out HE.out HS.out).mono ?_
  rintro e w1 ⟨rfl,hb⟩
  have HB1:=hid hb
  clear hb
  go_wp2_with fail
  go_ret
  exact ⟨rfl,H.out.out HB1.out (Nat.le_succ _)⟩
theorem ND.refuse {d:Nat} (h:ND w0 w C K i zs N m) (hs:SR w' K.s K.j K.mb i (updR N.R d) (m+1)) (hk:Kept (In1 K.mb) w w'):ND w0 w' C K i zs { N with R:=updR N.R d } (m+1):=by
 have e1:=h.cs; have e2:=h.cj; have e3:=h.cm; have e4:=h.cp; have e5:=h.cq; have e6:=h.cn
 have nS:∀ x,C x≠100 * i+4→¬ In1 K.mb x:=fun x g hx=>by rw [show x=K.mb from hx] at g; exact g e3
 have hlo:∀ x,In1 K.mb x→w0.heap.size≤x:=fun x hx=>by rw [show x=K.mb from hx]; exact h.sp.m0
 refine ⟨hk.row h.row (nS _ (by omega)),⟨h.sp.jp.far hk hlo (fun x hx=>nS x (by rcases hx with rfl|rfl|rfl <;> omega)),hs,h.sp.ns,h.sp.nm,h.sp.sm,h.sp.s0,h.sp.m0⟩,fun d hd x hx=>?_,h.cn,h.cs,h.cj,h.cm,h.cp,h.cq,h.cl,h.n0⟩
 have g:=h.cl d hd x hx
 exact (h.lds d hd x hx).kept hk (nS _ (by omega)) (nS _ (by omega))
def cRef (n:Nat) (V:PX) (s d:Int):Nat:=if (0≤s∧s<n)∧0≤d∧d<6 then (if upN (V.nd s.toNat)=true then 0 else 6) else 2
theorem refuse_any (s d:Int) (c:Nat) (h:WD w0 w C X zs V m) (hE:Held9 w0 A) (hm:m≤1000000) (hc:cRef zs.length V s d=c) :
  Calls Tryz.prog 17 #[.pointer (some ⟨X.xb,0,none⟩),.int .i64 s,.int .i64 d] w fun e w'=>e=.returned (ev A c)∧WOut w0 w w' C X zs (if c=0 then refuseX V s.toNat d.toNat else V) (m+1):=by
 have H:=hid h
 have HE:=hid hE
 have HE1:=hid (h.held hE)
 clear h hE
 subst hc
 by_cases hs:(0≤s∧s<zs.length)∧0≤d∧d<6
 ·obtain ⟨k,rfl⟩:=Int.eq_ofNat_of_zero_le hs.1.1
  obtain ⟨dn,rfl⟩:=Int.eq_ofNat_of_zero_le hs.2.1
  have hk:k<zs.length:=by omega
  have hd:dn<6:=by omega
  have HK:=hid hk
  obtain ⟨b,HB⟩:∃ b,Hid (((V.nd k).l != -2)=b):=⟨_,rfl⟩
  have HU:Hid (upN (V.nd k)=b):=HB.out
  cases b with
  | true =>
   have e:cRef zs.length V k dn=0:=by unfold cRef; rw [if_pos hs,Int.toNat_natCast,HU.out,if_pos rfl]
   rw [e]
   clear e hs hk
   go_enter Tryz.func17,Tryz.ntmps17
   go_wp2_with fail
   refine (findDeal_ok k dn H.out HK.out hd).mono ?_
   rintro e w1 ⟨rfl,hx⟩
   subst w1
   go_wp2_with fail
   refine (powered_is true (H.out.nds k HK.out) HE1.out HB.out).mono ?_
   rintro e w1 ⟨rfl,hb⟩
   simp only [if_true]
   have H1:=hid (H.out.later hb)
   have HB1:=hid hb
   have c0:=(H1.out.nds k HK.out).site
   clear hb
   go_wp2_with fail
   refine (srefuse_ok dn (H1.out.nds k HK.out).sp.jp.jr (H1.out.nds k HK.out).sp.sr hd hm).mono ?_
   rintro e w2 ⟨rfl,hs2,hk2,-⟩
   have HN:=hid ((H1.out.nds k HK.out).refuse hs2 hk2)
   have HK2:Hid (Kept (fun x=>C x / 100=k) w1 w2):=hk2.mono (fun x hx=>by rw [show x=_ from hx]; have:=(H1.out.nds k HK.out).cm; show _ / 100=k; omega)
   clear hs2 hk2
   go_wp2_with fail
   go_ret
   refine ⟨rfl,?_⟩
   exact WOut.step rfl (Kept.of_below HB1.out) (fun _ _=>rfl) (H1.out.nodeOut HK.out HK2.out HN.out (Nat.le_succ _) ((H1.out.inv.nd k HK.out).refuse.mono (Nat.le_succ _)))
  | false =>
   have e:cRef zs.length V k dn=6:=by unfold cRef; rw [if_pos hs,Int.toNat_natCast,HU.out,if_neg (by decide)]
   rw [e]
   clear e hs hk
   go_enter Tryz.func17,Tryz.ntmps17
   go_wp2_with fail
   refine (findDeal_ok k dn H.out HK.out hd).mono ?_
   rintro e w1 ⟨rfl,hx⟩
   subst w1
   go_wp2_with fail
   refine (powered_is false (H.out.nds k HK.out) HE1.out HB.out).mono ?_
   rintro e w1 ⟨rfl,hb⟩
   rw [if_neg (by decide),if_neg (by decide)]
   have HB1:=hid hb
   clear hb
   go_wp2_with fail
   go_ret
   exact ⟨rfl,H.out.out HB1.out (Nat.le_succ _)⟩
 ·have e:cRef zs.length V s d=2:=by unfold cRef; rw [if_neg hs]
  rw [e]
  have HS:=hid hs
  clear e hs
  go_enter Tryz.func17,Tryz.ntmps17
  go_wp2_with fail
  refine (findDeal_no s d H.out HE.out HS.out).mono ?_
  rintro e w1 ⟨rfl,hb⟩
  have HB1:=hid hb
  clear hb
  go_wp2_with fail
  refine (powered_err _ _).mono ?_
  rintro e w2 ⟨rfl,hx⟩
  subst w2
  go_wp2_with fail
  go_ret
  exact ⟨rfl,H.out.out HB1.out (Nat.le_succ _)⟩
end
end Go.Proofs.YtadhpkopkkjmfaaGreatDoor
