/-
  On the way to SPlaysProof: O39.
-/
import Derived.Test.YtaehdgemkafinaaGreatDoorBw50
import Derived.Test.YtaehdgemkafinaaGreatDoorBw43
set_option maxHeartbeats 8000000
set_option maxRecDepth 100000
namespace Go.Proofs.YtaehdgemkafinaaGreatDoor
open Go.RowKit
theorem RW.rebase {w0 w1 w:World} {C:Nat→Nat} {Y:YB} {aw:Option Addr} {cap m:Nat} {zs:List Int} {V:PX} (h:RW w1 w C Y aw cap zs V m) (hb:Below w0.heap.size w0 w) (hs:w0.heap.size≤w1.heap.size) (hw:IsSl w0 (.slice aw zs.length cap) zs):RW w0 w C Y aw cap zs V m:=by
 obtain ⟨L,b1,b2,b3⟩:=h.brk
 exact ⟨hb,h.row,hw,h.ns,h.nds,⟨L,own_base b1 hs,b2,b3⟩,own_base h.fly hs,own_base h.evs hs,h.cx,h.cn,h.cb,h.cf,h.ce,h.lt,fun x hx=>Nat.le_trans hs (h.low x hx),h.inv⟩
def linesP (ls:List Ln):List Bs:=ls.filterMap fun l=>lineO l.wd.data.toList l.ns
theorem linesP_snoc (ls:List Ln) (l:Ln):linesP (ls ++ [l])=linesP ls ++ (lineO l.wd.data.toList l.ns).toList:=by
 unfold linesP
 rw [List.filterMap_append]
 congr 1
theorem linesP_len (ls:List Ln):(linesP ls).length≤ls.length:=List.length_filterMap_le _ _
def DocO (w0 w:World) (C:Nat→Nat) (p:Value) (k:Nat):PSt→Prop
 | none=>p=.pointer none∧∀ x,2000≤C x
 | some (zs,V)=>∃ Y aw cap m,p=.pointer (some ⟨Y.xb,0,none⟩)∧RW w0 w C Y aw cap zs V m∧AX zs V∧m≤9000 * k
theorem runP_end:∀ (st:PSt) (L:List (List Bs)) (l:List Bs),runP st (L ++ [l])=((runP st L).1 ++ [sayO (lineP (runP st L).2 l).1],(lineP (runP st L).2 l).2)
 | st,[],l=>rfl
 | st,x :: L,l=>by
  have:=runP_end (lineP st x).2 L l
  rw [List.cons_append]
  unfold runP
  rw [this]
  rfl
section
variable {w wr w':World} {ls:List Ln} {k:Nat} {u v p:Value} {C C':Nat→Nat} {st:PSt}
theorem DocO.later {w0:World} (h:DocO w0 w C p k st) (hb:Below w.heap.size w w'):DocO w0 w' C p k st:=by
 cases st with
 | none=>exact h
 | some q =>
  obtain ⟨zs,V⟩:=q
  obtain ⟨Y,aw,cap,m,h1,h2,h3,h4⟩:=h
  exact ⟨Y,aw,cap,m,h1,h2.later hb,h3,h4⟩
theorem DocO.up {w0:World} {j:Nat} (h:DocO w0 w C p k st) (hk:k≤j):DocO w0 w C p j st:=by
 cases st with
 | none=>exact h
 | some q =>
  obtain ⟨zs,V⟩:=q
  obtain ⟨Y,aw,cap,m,h1,h2,h3,h4⟩:=h
  exact ⟨Y,aw,cap,m,h1,h2,h3,Nat.le_trans h4 (Nat.mul_le_mul_left _ hk)⟩
theorem DocO.grown {w0:World} {row:Option Nat} (h:DocO w0 w C p k st) (hg:w.grownBy w' row) (hc:∀ y,row=some y→2000≤C y) (hl:∀ y,row=some y→w0.heap.size≤y):DocO w0 w' C p k st:=by
 cases st with
 | none=>exact h
 | some q =>
  obtain ⟨zs,V⟩:=q
  obtain ⟨Y,aw,cap,m,h1,h2,h3,h4⟩:=h
  exact ⟨Y,aw,cap,m,h1,h2.far (grown_kept hg) hc hl,h3,h4⟩
theorem DocO.fresh {w0:World} (h:DocO w0 w C p k st) {x:Nat} (hx:w.heap.size≤x):2000≤C x:=by
 cases st with
 | none=>exact h.2 x
 | some q =>
  obtain ⟨zs,V⟩:=q
  obtain ⟨Y,aw,cap,m,h1,h2,h3,h4⟩:=h
  rcases Nat.lt_or_ge (C x) 2000 with q|q
  ·have:=h2.lt x q; omega
  ·exact q
theorem linesP_small (h:∀ l,l∈ls→l.ns.length≤12):∀ x,x∈(linesP ls).map bB→x.size≤1000:=fun x hx=>by
 obtain ⟨y,hy,rfl⟩:=List.mem_map.1 hx
 show y.length≤1000
 obtain ⟨l,hl,he⟩:=List.mem_filterMap.1 hy
 have h1:=line_len he
 have h2:=h l hl
 omega
end
structure PyM (w wr:World) (u v p:Value) (C:Nat→Nat) (nu nv:Nat) (xs ys:List Value) (k:Nat) (st:PSt):Prop where
 bel:Below w.heap.size w wr
 lns:wr.ownsRow w.heap.size 9 1 u nu xs
 wnt:wr.ownsRow w.heap.size 9 1 v nv ys
 doc:DocO w wr C p k st
 farL:∀ g,u.ownBlock=some g→2000≤C g
 farW:∀ g,v.ownBlock=some g→2000≤C g
 ap:∀ g,u.ownBlock=some g→v.ownBlock=some g→False
section
variable {w W w' w3:World} {u v p u':Value} {C C':Nat→Nat} {nu nv k j:Nat} {xs ys:List Value} {st:PSt}
theorem PyM.later (h:PyM w W u v p C nu nv xs ys k st) (hb:Below W.heap.size W w'):PyM w w' u v p C nu nv xs ys k st :=
 ⟨h.bel.trans (hb.mono h.bel.size),own_later h.lns hb (Nat.le_refl _),own_later h.wnt hb (Nat.le_refl _),h.doc.later hb,h.farL,h.farW,h.ap⟩
theorem PyM.up (h:PyM w W u v p C nu nv xs ys k st) (hk:k≤j):PyM w W u v p C nu nv xs ys j st :=
 ⟨h.bel,h.lns,h.wnt,h.doc.up hk,h.farL,h.farW,h.ap⟩
theorem PyM.addL {zs:List Value} (h:PyM w W u v p C nu nv xs ys k st) (hown:w3.ownsRow w.heap.size 9 1 u' (nu+1) zs) (hg:W.grownBy w3 u.ownBlock) (hat:u'.ownBlock=u.ownBlock ∨ u'.ownBlock=some W.heap.size):PyM w w3 u' v p C (nu+1) nv zs ys k st:=by
 have hgb:∀ y,u.ownBlock=some y→w.heap.size≤y:=fun y hy=>(h.lns.lt y hy).1
 refine ⟨Below.grown h.bel hg h.bel.size hgb,hown,own_kept h.wnt (grown_kept hg) (fun g hv e=>h.ap g e hv),h.doc.grown hg h.farL hgb,fun g hu=>?_,h.farW,fun g hu hv=>?_⟩
 ·rcases hat with e|e
  ·exact h.farL g (by rw [← e]; exact hu)
  ·rw [e] at hu
   obtain rfl:=Option.some.inj hu
   exact h.doc.fresh (Nat.le_refl _)
 ·rcases hat with e|e
  ·exact h.ap g (by rw [← e]; exact hu) hv
  ·rw [e] at hu
   obtain rfl:=Option.some.inj hu
   have:=(h.wnt.lt _ hv).2
   omega
theorem PyM.addW {zs:List Value} (h:PyM w W u v p C nu nv xs ys k st) (hown:w3.ownsRow w.heap.size 9 1 u' (nv+1) zs) (hg:W.grownBy w3 v.ownBlock) (hat:u'.ownBlock=v.ownBlock ∨ u'.ownBlock=some W.heap.size):PyM w w3 u u' p C nu (nv+1) xs zs k st:=by
 have hgb:∀ y,v.ownBlock=some y→w.heap.size≤y:=fun y hy=>(h.wnt.lt y hy).1
 refine ⟨Below.grown h.bel hg h.bel.size hgb,own_kept h.lns (grown_kept hg) (fun g hu e=>h.ap g hu e),hown,h.doc.grown hg h.farW hgb,h.farL,fun g hu=>?_,fun g hu hv=>?_⟩
 ·rcases hat with e|e
  ·exact h.farW g (by rw [← e]; exact hu)
  ·rw [e] at hu
   obtain rfl:=Option.some.inj hu
   exact h.doc.fresh (Nat.le_refl _)
 ·rcases hat with e|e
  ·exact h.ap g hu (by rw [← e]; exact hv)
  ·rw [e] at hv
   obtain rfl:=Option.some.inj hv
   have:=(h.lns.lt _ hu).2
   omega
theorem PyM.ans {Y:YB} {aw:Option Addr} {cap M:Nat} {zs:List Int} {V':PX} (h:PyM w W u v p C nu nv xs ys k st) (hp:p=.pointer (some ⟨Y.xb,0,none⟩)) (ho:ROut w W w' C Y aw cap zs V' M) (hA:AX zs V') (hM:M≤9000 * j):∃ C',PyM w w' u v p C' nu nv xs ys j (some (zs,V')):=by
 obtain ⟨C',Y',g1,g2,g3,g4⟩:=ho
 refine ⟨C',g1.bel,own_kept h.lns g3 (fun g hg e=>?_),own_kept h.wnt g3 (fun g hg e=>?_),⟨Y',aw,cap,M,by rw [hp,rkey_xb g2],g1,hA,hM⟩,fun g hg=>?_,fun g hg=>?_,h.ap⟩
 ·have h1:=h.farL g hg
  have h2:C g<2000:=e
  omega
 ·have h1:=h.farW g hg
  have h2:C g<2000:=e
  omega
 ·rw [g4 g (h.lns.lt g hg).2]; exact h.farL g hg
 ·rw [g4 g (h.wnt.lt g hg).2]; exact h.farW g hg
theorem PyM.new {Y:YB} {aw:Option Addr} {cap:Nat} {zs:List Int} (h:PyM w W u v p C nu nv xs ys k st) (hR:RW W w' C' Y aw cap zs newX 0) (hw:IsSl w (.slice aw zs.length cap) zs) (hA:AX zs newX):PyM w w' u v (.pointer (some ⟨Y.xb,0,none⟩)) C' nu nv xs ys k (some (zs,newX)):=by
 have hb:=h.bel.trans (hR.bel.mono h.bel.size)
 have hlow:∀ g,g<W.heap.size→2000≤C' g:=fun g hg=>by
  rcases Nat.lt_or_ge (C' g) 2000 with q|q
  ·have:=hR.low g q; omega
  ·exact q
 exact ⟨hb,own_later h.lns hR.bel (Nat.le_refl _),own_later h.wnt hR.bel (Nat.le_refl _),⟨Y,aw,cap,0,rfl,hR.rebase hb h.bel.size hw,hA,Nat.zero_le _⟩,fun g hg=>hlow g (h.lns.lt g hg).2,fun g hg=>hlow g (h.wnt.lt g hg).2,h.ap⟩
end
structure PyI (w wr:World) (ls:List Ln) (k:Nat) (u v p:Value) (C:Nat→Nat):Prop where
 pm:PyM w wr u v p C (linesP (ls.take k)).length (linesP (ls.take k)).length (strV (linesP (ls.take k))) (strV (runP none ((linesP (ls.take k)).map splO)).1) k (runP none ((linesP (ls.take k)).map splO)).2
 sm:∀ l,l∈ls.take k→l.ns.length≤12
end Go.Proofs.YtaehdgemkafinaaGreatDoor
