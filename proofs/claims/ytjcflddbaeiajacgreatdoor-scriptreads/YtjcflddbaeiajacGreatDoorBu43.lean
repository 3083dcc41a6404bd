/-
  On the way to SReadsProof: YL GW.
-/
import Derived.Test.YtjcflddbaeiajacGreatDoorBu39
import Derived.Test.YtjcflddbaeiajacGreatDoorBu21
set_option maxHeartbeats 8000000
set_option maxRecDepth 100000
namespace Go.Proofs.YtjcflddbaeiajacGreatDoor
open Go.RowKit
theorem ax_events {zs:List Int} {V:PX} (hA:AX zs V):EvF zs.length V.evs 0 V.evs.length:=by
 refine ⟨fun j hj _=>?_,.inl ⟨rfl,rfl⟩⟩
 obtain ⟨i,d,p,h1,h2,h3,h4,h5⟩:=hA.ex.at_ (V.evs[j]'hj) (List.getElem_mem hj)
 have hpre:∀ q,q∈V.evs.take j→q∈V.evs∧¬ (q.s=(V.evs[j]'hj).s∧q.d=(V.evs[j]'hj).d):=by
  intro q hq
  refine ⟨List.mem_of_mem_take hq,?_⟩
  have hp:=hA.ex.once
  rw [← List.take_append_drop j V.evs,List.pairwise_append] at hp
  exact hp.2.2 q hq _ (by rw [List.drop_eq_getElem_cons hj]; exact List.mem_cons_self)
 obtain ⟨g,hg⟩:=hA.gx d h3
 have hb:bdB zs.length (V.evs[j]'hj)=true:=by rw [h1]; exact decide_eq_true ⟨⟨by simp only; omega,by simp only; omega⟩,⟨by simp only; omega,by simp only; omega⟩,by simp only; omega⟩
 have hs:spB (V.evs.take j) (V.evs[j]'hj)=false:=by
  unfold spB
  rw [List.any_eq_false]
  intro q hq hx
  obtain ⟨x1,x2⟩:=of_decide_eq_true hx
  obtain ⟨i',d',p',g1,g2,g3,g4,g5⟩:=hA.ex.at_ q (hpre q hq).1
  rw [h1,g1] at x1 x2
  simp only at x1 x2
  have ed:d'=d:=by omega
  subst ed
  have s2:=hg.co.s2
  have s3:=hg.co.s3
  rcases h4 with h4|h4 <;> rcases g4 with g4|g4
  ·omega
  ·exact hg.co.split (s2 i h2 (by show (stN (V.nd i) d').ph=2; omega)) (s3 i' g2 (by show (stN (V.nd i') d').ph=3; omega))
  ·exact hg.co.split (s2 i' g2 (by show (stN (V.nd i') d').ph=2; omega)) (s3 i h2 (by show (stN (V.nd i) d').ph=3; omega))
  ·omega
 have hh:heB (V.evs.take j) (V.evs[j]'hj)=false:=by
  unfold heB
  rw [List.any_eq_false]
  intro q hq hx
  obtain ⟨x1,x2⟩:=of_decide_eq_true hx
  exact (hpre q hq).2 ⟨x2,x1⟩
 unfold evC
 rw [if_neg (by rw [hb]; decide),if_neg (by rw [hs]; decide),if_neg (by rw [hh]; decide)]
theorem own_base {w:World} {b b':Nat} {e:TypeId} {size n:Nat} {v:Value} {xs:List Value} (h:w.ownsRow b e size v n xs) (hb:b'≤b):w.ownsRow b' e size v n xs:=by
 refine ⟨h.1,?_⟩
 rcases h.2 with hn|⟨g,cap,cur,rfl,hb',rest⟩
 ·exact .inl hn
 ·exact .inr ⟨g,cap,cur,rfl,Nat.le_trans hb hb',rest⟩
theorem OwnF.base {w:World} {b b':Nat} {v:Value} {L:List F9} (h:OwnF w b v L) (hb:b'≤b):OwnF w b' v L:=by
 rcases h with h|⟨g,o,cap,cur,rfl,hb',rest⟩
 ·exact .inl h
 ·exact .inr ⟨g,o,cap,cur,rfl,Nat.le_trans hb hb',rest⟩
section
variable {w0 w1 w w':World} {C C' Ca Cb:Nat→Nat} {X Xa Xb:XB} {m ma mb:Nat} {zs:List Int} {V Va Vb:PX}
theorem WD.rebase (h:WD w1 w C X zs V m) (hb:Below w0.heap.size w0 w) (hs:w0.heap.size≤w1.heap.size):WD w0 w C X zs V m:=by
 refine ⟨hb,h.row,h.ws,h.ns,fun i hi=>?_,h.brk,h.fly.base hs,own_base h.evs hs,h.cx,h.cw,h.cn,h.cm,h.cf,h.ce,h.lt,fun x hx=>Nat.le_trans hs (h.low x hx),h.inv⟩
 have n:=h.nds i hi
 have p:=n.sp
 have j:=p.jp
 exact ⟨n.row,⟨⟨hb,j.jr,j.pl,j.jp,j.jq,Nat.le_trans hs j.j0,Nat.le_trans hs j.p0,Nat.le_trans hs j.q0,j.l0,j.l1,j.sz,j.s6⟩,p.sr,p.ns,p.nm,p.sm,Nat.le_trans hs p.s0,Nat.le_trans hs p.m0⟩,n.lds,n.cn,n.cs,n.cj,n.cm,n.cp,n.cq,n.cl,Nat.le_trans hs n.n0⟩
end
end Go.Proofs.YtjcflddbaeiajacGreatDoor
