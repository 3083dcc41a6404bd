/-
  On the way to WStepsProof, PAgainProof: L1S GW.
-/
import Derived.Test.YtadhpkopkkjmfaaGreatDoorBz60
import Derived.Test.YtadhpkopkkjmfaaGreatDoorBz18
set_option maxHeartbeats 8000000
set_option maxRecDepth 100000
namespace Go.Proofs.YtadhpkopkkjmfaaGreatDoor
open Go.RowKit
theorem fr_neq9 (f t d k a:Int) (y:Bool) (ph pr pa:Int) (w:World):(binOp .neq 104 (frV f t d k a y ph pr pa) (frV f t d k a y ph pr pa)).run Tryz.prog w=.ok (.bool false) w:=by
 go_simp
theorem same_long (v1 v2:Value) (L:List F9) (w:World) (h1:IsFr w v1 L) (h2:IsFr w v2 L) (hl:L.length≤1000000000) :
  Calls Tryz.prog 46 #[v1,v2] w fun e w'=>e=.returned (.bool true)∧Below w.heap.size w w':=by
 obtain ⟨a1,c1,rfl,l1⟩:=h1
 obtain ⟨a2,c2,rfl,l2⟩:=h2
 have H1:=hid l1
 have H2:=hid l2
 clear l1 l2
 go_enter Tryz.func46,Tryz.ntmps46
 go_wp2_with fail
 go_loopw [5] (fun i wr=>∃ n:Nat,n≤L.length∧i=.int .i64 (n:Int)∧Below w.heap.size w wr) (fun i _=>L.length - (intOf i).toNat)
 case atStart=>exact ⟨0,Nat.zero_le _,rfl,Below.refl _ _⟩
 case round =>
  obtain ⟨n,hn,rfl,hb⟩:=hrel
  have HB:=hid hb
  by_cases hlt:n<L.length
  ·obtain ⟨b1,o1,rfl,q1⟩:=(H1.out.later hb) n hlt
   obtain ⟨b2,o2,rfl,q2⟩:=(H2.out.later hb) n hlt
   generalize L[n]'hlt=x at q1 q2
   obtain ⟨xf,xt,xd,xk,xa,xy,xph,xpr,xpa⟩:=x
   obtain ⟨a0,a1,a2,a3,a4,a5,a6,a7,a8⟩:=nineO q1
   obtain ⟨b0,b1,b2,b3,b4,b5,b6,b7,b8⟩:=nineO q2
   simp only at a0 a1 a2 a3 a4 a5 a6 a7 a8 b0 b1 b2 b3 b4 b5 b6 b7 b8
   have hne:=fr_neq9 xf xt xd xk xa xy xph xpr xpa
   clear hb q1 q2
   go_wp2_with fail
   go_region
   all_goals go_wp2_with fail
   all_goals go_roundw
   case rel=>exact ⟨n+1,by omega,by go_num,HB.out.drew⟩
   case measure=>simp [intOf]; omega
  ·obtain rfl:n=L.length:=by omega
   go_wp2_with fail
   go_ret
   exact ⟨rfl,HB.out⟩
theorem sameI_yes (v1 v2:Value) (l:List Int) (w:World) (h1:IsSl w v1 l) (h2:IsSl w v2 l) (hl:l.length≤1000) :
  Calls Tryz.prog 45 #[v1,v2] w fun e w'=>e=.returned (.bool true)∧Below w.heap.size w w':=by
 obtain ⟨a1,c1,rfl,-,-,g1⟩:=h1
 obtain ⟨a2,c2,rfl,-,-,g2⟩:=h2
 have G1:=hid g1
 have G2:=hid g2
 clear g1 g2
 have hne:((l.length:Int) != (l.length:Int))=false:=by simp
 go_enter Tryz.func45,Tryz.ntmps45
 go_wp2
 go_loopw [5] (fun i wr=>∃ k:Nat,k≤l.length∧i=.int .i64 k∧Below w.heap.size w wr) (fun i _=>l.length - (intOf i).toNat)
 case atStart=>exact ⟨0,Nat.zero_le _,rfl,Below.refl _ _⟩
 case round =>
  obtain ⟨k,hk,rfl,hnx⟩:=hrel
  by_cases hlt:k<l.length
  ·obtain ⟨b1,o1,e1,d1⟩:=G1.out (by omega)
   obtain ⟨b2,o2,e2,d2⟩:=G2.out (by omega)
   subst e1
   subst e2
   have d1k:=cell_later hnx (d1 k hlt)
   have d2k:=cell_later hnx (d2 k hlt)
   rw [getD_lt l k hlt] at d1k d2k
   generalize hz:l[k]=z at d1k d2k
   have hzz:(z != z)=false:=by simp
   clear d1 d2 hz
   go_wp2
   go_quiet (fail)
   go_wp2
   go_roundw
   case rel=>exact ⟨k+1,by omega,by go_num,below_drewN hnx _⟩
   case measure=>simp [intOf]; omega
  ·go_wp2
   go_ret
   exact ⟨rfl,hnx⟩
theorem own_base {w:World} {b b':Nat} {e:TypeId} {size n:Nat} {v:Value} {xs:List Value} (h:w.ownsRow b e size v n xs) (hb:b'≤b):w.ownsRow b' e size v n xs:=by
 refine ⟨h.1,?_⟩
 rcases h.2 with hn|⟨g,cap,cur,rfl,hb',rest⟩
 ·exact .inl hn
 ·exact .inr ⟨g,cap,cur,rfl,Nat.le_trans hb hb',rest⟩
theorem OwnF.base {w:World} {b b':Nat} {v:Value} {L:List F9} (h:OwnF w b v L) (hb:b'≤b):OwnF w b' v L:=by
 rcases h with h|⟨g,o,cap,cur,rfl,hb',rest⟩
 ·exact .inl h
 ·exact .inr ⟨g,o,cap,cur,rfl,Nat.le_trans hb hb',rest⟩
section
variable {w0 w1 w w':World} {C C' Ca Cb:Nat→Nat} {X Xa Xb:XB} {m ma mb:Nat} {zs:List Int} {V Va Vb:PX}
theorem WD.rebase (h:WD w1 w C X zs V m) (hb:Below w0.heap.size w0 w) (hs:w0.heap.size≤w1.heap.size):WD w0 w C X zs V m:=by
 refine ⟨hb,h.row,h.ws,h.ns,fun i hi=>?_,h.brk,h.fly.base hs,own_base h.evs hs,h.cx,h.cw,h.cn,h.cm,h.cf,h.ce,h.lt,fun x hx=>Nat.le_trans hs (h.low x hx),h.inv⟩
 have n:=h.nds i hi
 have p:=n.sp
 have j:=p.jp
 exact ⟨n.row,⟨⟨hb,j.jr,j.pl,j.jp,j.jq,Nat.le_trans hs j.j0,Nat.le_trans hs j.p0,Nat.le_trans hs j.q0,j.l0,j.l1,j.sz,j.s6⟩,p.sr,p.ns,p.nm,p.sm,Nat.le_trans hs p.s0,Nat.le_trans hs p.m0⟩,n.lds,n.cn,n.cs,n.cj,n.cm,n.cp,n.cq,n.cl,Nat.le_trans hs n.n0⟩
def Apt (Ca Cb:Nat→Nat):Prop:=∀ x,Ca x<2000→2000≤Cb x
theorem Apt.symm (h:Apt Ca Cb):Apt Cb Ca:=fun x hx=>by
 rcases Nat.lt_or_ge (Ca x) 2000 with q|q
 ·have:=h x q; omega
 ·exact q
theorem WD.beside (hB:WD w0 w Cb Xb zs Vb mb) (hA:WD w0 w Ca Xa zs Va ma) (hd:Apt Ca Cb) (k:Kept (OwnX Ca) w w'):WD w0 w' Cb Xb zs Vb mb :=
 hB.far k hd (fun x hx=>hA.low x hx)
theorem Apt.step (hB:WD w0 w Cb Xb zs Vb mb) (hd:Apt Ca Cb) (hc:∀ x,x<w.heap.size→C' x=Ca x):Apt C' Cb:=fun x hx=>by
 rcases Nat.lt_or_ge (Cb x) 2000 with q|q
 ·have h1:=hB.lt x q
  rw [hc x h1] at hx
  have:=hd x hx
  omega
 ·exact q
end
theorem me_neq (s d p:Int) (w:World):(binOp .neq 121 (.agg #[.int .i64 s,.int .i64 d,.int .i64 p]) (.agg #[.int .i64 s,.int .i64 d,.int .i64 p])).run Tryz.prog w=.ok (.bool false) w:=by
 go_simp
theorem sameEvents_yes (a1 a2:Option Addr) (c1 c2:Nat) (L:List E3) (w:World) (h1:EL w a1 L) (h2:EL w a2 L) (hl:L.length≤1000) :
  Calls Tryz.prog 47 #[.slice a1 L.length c1,.slice a2 L.length c2] w fun e w'=>e=.returned (.bool true)∧Below w.heap.size w w':=by
 have HBk:=hid (backEvents_any a1 c1 L w h1 hl)
 have H2:=hid h2
 have hne:((L.length:Int) != (L.length:Int))=false:=by simp
 clear h1 h2
 go_enter Tryz.func47,Tryz.ntmps47
 go_wp2_with fail
 refine HBk.out.mono ?_
 rintro e w1 ⟨ad,cap,rfl,hel,hb⟩
 have HE:=hid hel
 have HB:=hid hb
 clear hel hb
 go_wp2_with fail
 go_loopw [6] (fun i wr=>∃ k:Nat,k≤L.length∧i=.int .i64 (k:Int)∧Hid (Below w1.heap.size w1 wr)) (fun i _=>L.length - (intOf i).toNat)
 case atStart=>exact ⟨0,Nat.zero_le _,rfl,Below.refl _ _⟩
 case round =>
  obtain ⟨k,hk,rfl,HI⟩:=hrel
  by_cases hlt:k<L.length
  ·obtain ⟨b1,o1,rfl,x0,x1,x2⟩:=(HE.out.later HI.out) k hlt
   obtain ⟨b2,o2,rfl,y0,y1,y2⟩:=((H2.out.later HB.out).later HI.out) k hlt
   obtain ⟨⟨es,ed,ep⟩,HS⟩:∃ e,Hid (L[k]'hlt=e):=⟨_,rfl⟩
   rw [HS.out] at x0 x1 x2 y0 y1 y2
   have hq:=me_neq es ed ep
   go_wp2_with fail
   go_quiet (fail)
   go_wp2_with fail
   go_roundw
   case rel=>exact ⟨k+1,by omega,by go_num,below_drewN HI.out _⟩
   case measure=>simp [intOf]; omega
  ·have hlt2:¬ ((k:Int)<(L.length:Int)):=by omega
   have HB2:=hid (below_trans HB.out HI.out)
   go_wp2_with fail
   go_ret
   exact ⟨rfl,HB2.out⟩
end Go.Proofs.YtadhpkopkkjmfaaGreatDoor
