/-
  On the way to SAnewProof: VZ.
-/
import Derived.Test.YtaehdgemkafinaaGreatDoorBv32
set_option maxHeartbeats 8000000
set_option maxRecDepth 100000
namespace Go.Proofs.YtaehdgemkafinaaGreatDoor
open Go.RowKit
section
variable {w0 w w':World} {C C':Nat→Nat} {K:NB} {X:XB} {i m m':Nat} {zs:List Int} {N:PN} {V V':PX} {A:Nat→Addr}
theorem pkey_inj {a b a' b':Nat} {l:Lit} (h1:keyOf Tryz.prog 172 (pairV a b)=some l) (h2:keyOf Tryz.prog 172 (pairV a' b')=some l):a=a'∧b=b':=by
 have:=plaw.inj h1 h2
 unfold pairV at this
 simp at this
 omega
theorem WD.linked {a b:Nat} {whole:Bool} (h:WD w0 w C X zs V m) (hk:Kept (In1 X.mb) w w') (hD:∃ D:DataW Unit,w'.ownsMap Tryz.prog 172 unitElem X.mb (m+1) D∧∀ x y,x<7→y<7→∀ l,keyOf Tryz.prog 172 (pairV x y)=some l→Maps.has D l=(linkX V a b whole).br x y) :
  WOut w0 w w' C X zs (linkX V a b whole) (m+1):=by
 have n7:=h.n7.2
 have cx:=h.cx; have cw:=h.cw; have cn:=h.cn; have cm:=h.cm
 have hlow:∀ x,In1 X.mb x→w0.heap.size≤x:=fun x hx=>by rw [show x=_ from hx]; exact h.low _ (by omega)
 have nS:∀ x,C x≠1004→¬ In1 X.mb x:=fun x g hx=>by rw [show x=X.mb from hx] at g; exact g cm
 refine ⟨C,X,⟨hk.below h.bel.size hlow h.bel,hk.row h.row (nS _ (by omega)),fun e he=>cell_kept (h.ws e he) hk (nS _ (by show C X.wb≠_; omega)),fun e he=>cell_kept (h.ns e he) hk (nS _ (by show C X.nb≠_; omega)),fun e he=>((h.nds e he).kept hk (fun x _ hx=>nS x (by omega)) hlow).mono (Nat.le_succ _),hD,h.fly.kept hk (fun g hg=>nS g (by have:=h.cf g hg; omega)),own_kept h.evs hk (fun g hg=>nS g (by have:=h.ce g hg; omega)),h.cx,h.cw,h.cn,h.cm,h.cf,h.ce,fun x hx=>Nat.lt_of_lt_of_le (h.lt x hx) hk.size,h.low,?_⟩,rfl,hk.mono (fun x hx=>by rw [show x=_ from hx]; show C _<2000; omega),fun _ _=>rfl⟩
 exact ⟨h.inv.he,fun i hi=>(h.inv.nd i hi).mono (Nat.le_succ _),h.inv.fr,by have:=h.inv.fl; show V.fly.length≤_; omega,h.inv.ev⟩
theorem turned_kept {b:Nat} (h:w.mapTurned w' b):Kept (In1 b) w w':=by
 obtain ⟨es,cl,es',cl',hb,rfl⟩:=h
 refine ⟨rfl,rfl,rfl,?_,fun k hk hs=>?_⟩
 ·show w.heap.size≤(w.heap.setIfInBounds b (.map es' cl')).size
  simp
 ·show (w.heap.setIfInBounds b (.map es' cl'))[k]? = w.heap[k]?
  rw [Array.getElem?_setIfInBounds_ne (fun e=>hs (show k=b from e.symm))]
theorem WD.breaks {a b:Nat} (h:WD w0 w C X zs V m) (hm:m<1000000) (ha:a<7) (hb:b<7) :
  ∃ w4,(Instr.mapUpdate 146 (.map (some X.mb)) (pairV (min a b) (max a b)) (.agg #[])).run Tryz.prog w=.ok () w4∧w4.cell? ⟨X.xb,2,none⟩=some (.map (some X.mb))∧WOut w0 w w4 C X zs (linkX V a b false) (m+1):=by
 obtain ⟨D,hD,hh⟩:=h.brk
 obtain ⟨l,hl⟩:=pkey_some (min a b) (max a b) (by omega) (by omega)
 obtain ⟨w4,hr,ho,ht⟩:=hD.store plaw Tryz.underlying146 (by unfold maxLen; omega) hl unitElem_mk
 refine ⟨w4,hr,cell_kept h.cells.2.2.1 (turned_kept ht) (fun e=>by have h1:=h.cx; have h2:=h.cm; rw [show X.xb=X.mb from e] at h1; omega),h.linked (turned_kept ht) ⟨_,ho,fun x y hx hy l2 hl2=>?_⟩⟩
 show _=if x=min a b∧y=max a b then !false else V.br x y
 by_cases g:x=min a b∧y=max a b
 ·rw [if_pos g]
  rw [g.1,g.2,hl] at hl2
  obtain rfl:=Option.some.inj hl2
  exact Maps.has_put_same hD.isMap (plaw.key hl) _
 ·rw [if_neg g,Maps.has_put_other (fun e=>g ?_)]
  ·exact hh x y hx hy l2 hl2
  ·rw [e] at hl2
   exact pkey_inj hl2 hl
theorem WD.mends {a b:Nat} (h:WD w0 w C X zs V m) (ha:a<7) (hb:b<7) (ty:TypeId) :
  ∃ w4,(Builtin.delete_ #[146,172] ty #[.map (some X.mb),pairV (min a b) (max a b)]).run Tryz.prog w=.ok (.tuple #[]) w4∧w4.cell? ⟨X.xb,2,none⟩=some (.map (some X.mb))∧WOut w0 w w4 C X zs (linkX V a b true) (m+1):=by
 obtain ⟨D,hD,hh⟩:=h.brk
 obtain ⟨l,hl⟩:=pkey_some (min a b) (max a b) (by omega) (by omega)
 obtain ⟨w4,hr,ho,ht⟩:=hD.drop plaw Tryz.underlying146 hl ty
 refine ⟨w4,hr,cell_kept h.cells.2.2.1 (turned_kept ht) (fun e=>by have h1:=h.cx; have h2:=h.cm; rw [show X.xb=X.mb from e] at h1; omega),h.linked (turned_kept ht) ⟨_,ho.mono (Nat.le_succ _),fun x y hx hy l2 hl2=>?_⟩⟩
 show _=if x=min a b∧y=max a b then !true else V.br x y
 by_cases g:x=min a b∧y=max a b
 ·rw [if_pos g]
  rw [g.1,g.2,hl] at hl2
  obtain rfl:=Option.some.inj hl2
  exact Maps.has_del_same
 ·rw [if_neg g,Maps.has_del_other (fun e=>g ?_)]
  ·exact hh x y hx hy l2 hl2
  ·rw [e] at hl2
   exact pkey_inj hl2 hl
theorem link_ok (a b:Nat) (whole:Bool) (h:WD w0 w C X zs V m) (ha:a<zs.length) (hb:b<zs.length) (hm:m<1000000) :
  Calls Tryz.prog 51 #[.pointer (some ⟨X.xb,0,none⟩),.int .i64 (a:Int),.int .i64 (b:Int),.bool whole] w fun e w'=>e=.returned .nilIface∧WOut w0 w w' C X zs (linkX V a b whole) (m+1):=by
 have H:=hid h
 have n7:=h.n7
 obtain ⟨-,-,c2,-,-⟩:=h.cells
 have HA:=hid (has_is (a:Int) true h (decide_eq_true (by omega)))
 have HB:=hid (has_is (b:Int) true h (decide_eq_true (by omega)))
 have h7:a<7∧b<7:=by omega
 clear h
 cases whole with
 | true =>
  have HM:Hid (∀ w3,Below w.heap.size w w3→∃ w4,(Builtin.delete_ #[146,172] 0 #[.map (some X.mb),pairV (min a b) (max a b)]).run Tryz.prog w3=.ok (.tuple #[]) w4∧w4.cell? ⟨X.xb,2,none⟩=some (.map (some X.mb))∧WOut w0 w w4 C X zs (linkX V a b true) (m+1)):=by
   intro w3 hb3
   obtain ⟨w4,h1,h0,h2⟩:=(H.out.later hb3).mends h7.1 h7.2 0
   exact ⟨w4,h1,h0,WOut.step (C1:=C) (X1:=X) rfl (Kept.of_below hb3) (fun _ _=>rfl) h2⟩
  go_enter Tryz.func51,Tryz.ntmps51
  go_wp2_with (first|(go_at_call 118; (with_reducible refine HA.out.mono ?_); rintro e w1 ⟨rfl,hx⟩; subst w1)|(go_at_call 118; (with_reducible refine HB.out.mono ?_); rintro e w1 ⟨rfl,hx⟩; subst w1))
  go_region_held3 (fun V=>V.cell? ⟨X.xb,2,none⟩=some (.map (some X.mb))) (go_keep) (first|(go_at_call 119; (with_reducible refine (between_p a b _).mono ?_); rintro e w3 ⟨rfl,hb3⟩; have q0:=cell_later hb3 c2; obtain ⟨w4,hr4,q4,ho4⟩:=HM.out w3 ((Below.refl _ _).drew.trans hb3); have HO4:=hid ho4; clear hb3 ho4))
  all_goals go_wp2_with fail
  all_goals go_ret
  all_goals exact ⟨rfl,HO4.out⟩
 | false =>
  have HM:Hid (∀ w3,Below w.heap.size w w3→∃ w4,(Instr.mapUpdate 146 (.map (some X.mb)) (pairV (min a b) (max a b)) (.agg #[])).run Tryz.prog w3=.ok () w4∧w4.cell? ⟨X.xb,2,none⟩=some (.map (some X.mb))∧WOut w0 w w4 C X zs (linkX V a b false) (m+1)):=by
   intro w3 hb3
   obtain ⟨w4,h1,h0,h2⟩:=(H.out.later hb3).breaks hm h7.1 h7.2
   exact ⟨w4,h1,h0,WOut.step (C1:=C) (X1:=X) rfl (Kept.of_below hb3) (fun _ _=>rfl) h2⟩
  go_enter Tryz.func51,Tryz.ntmps51
  go_wp2_with (first|(go_at_call 118; (with_reducible refine HA.out.mono ?_); rintro e w1 ⟨rfl,hx⟩; subst w1)|(go_at_call 118; (with_reducible refine HB.out.mono ?_); rintro e w1 ⟨rfl,hx⟩; subst w1))
  go_region_held3 (fun V=>V.cell? ⟨X.xb,2,none⟩=some (.map (some X.mb))) (go_keep) (first|(go_at_call 119; (with_reducible refine (between_p a b _).mono ?_); rintro e w3 ⟨rfl,hb3⟩; have q0:=cell_later hb3 c2; obtain ⟨w4,hr4,q4,ho4⟩:=HM.out w3 ((Below.refl _ _).drew.trans hb3); have HO4:=hid ho4; clear hb3 ho4))
  all_goals go_wp2_with fail
  all_goals go_ret
  all_goals exact ⟨rfl,HO4.out⟩
theorem link_no (a b:Int) (whole:Bool) (h:WD w0 w C X zs V m) (hE:Held9 w0 A) (hs:¬ ((0≤a∧a<zs.length)∧0≤b∧b<zs.length)) :
  Calls Tryz.prog 51 #[.pointer (some ⟨X.xb,0,none⟩),.int .i64 a,.int .i64 b,.bool whole] w fun e w'=>e=.returned (ev A 2)∧w'=w:=by
 have g1:w.cell? ⟨0,0,none⟩=some (.iface 318 (.pointer (some (A 1)))):=(h.held hE).var 1 (by decide)
 have HA:=hid (fun x=>has_is a x h)
 have HB:=hid (fun x=>has_is b x h)
 clear h
 by_cases ha:0≤a∧a<zs.length
 ·have hb:¬ (0≤b∧b<zs.length):=fun g=>hs ⟨ha,g⟩
  have HA1:=hid (HA.out true (decide_eq_true ha))
  have HB1:=hid (HB.out false (decide_eq_false hb))
  clear HA HB ha hb hs
  go_enter Tryz.func51,Tryz.ntmps51
  go_wp2_with (first|(go_at_call 118; (with_reducible refine HA1.out.mono ?_); rintro e w1 ⟨rfl,hx⟩; subst w1)|(go_at_call 118; (with_reducible refine HB1.out.mono ?_); rintro e w1 ⟨rfl,hx⟩; subst w1))
  go_ret
  exact ⟨rfl,rfl⟩
 ·have HA1:=hid (HA.out false (decide_eq_false ha))
  clear HA HB ha hs
  go_enter Tryz.func51,Tryz.ntmps51
  go_wp2_with (first|(go_at_call 118; (with_reducible refine HA1.out.mono ?_); rintro e w1 ⟨rfl,hx⟩; subst w1))
  go_ret
  exact ⟨rfl,rfl⟩
end
end Go.Proofs.YtaehdgemkafinaaGreatDoor
