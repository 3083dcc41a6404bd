/-
  On the way to SActsProof: RV S2.
-/
import Derived.Test.YtkopfpaldmapdaaDoorBs24
import Derived.Test.YtkopfpaldmapdaaDoorBs23
import Derived.Test.YtkopfpaldmapdaaDoorBs18
import Derived.Test.YtkopfpaldmapdaaDoorBs8
set_option maxHeartbeats 8000000
set_option maxRecDepth 100000
namespace Go.Proofs.YtkopfpaldmapdaaDoor
open Go.RowKit
end Go.Proofs.YtkopfpaldmapdaaDoor
namespace Go.Proofs.YtkopfpaldmapdaaDoor
open Go.RowKit
section
variable {w0 w w':World} {j p q m gn gs r:Nat} {E:Nat→Nat×St} {over dead:Bool} {B:ByteArray} {l:Int} {A:Nat→Addr}
theorem rput_any (dl ph pr a:Int) (o:POut) (ho:pOut E over B l dl ph pr a=o) (h:RK w m gn gs r E over B l) (hn:∀ d,d<6→(E d).1<4294967296) :
  Calls Tryd.prog 48 #[.pointer (some ⟨m,0,none⟩),.int .i64 dl,.agg #[.int .i64 ph,.int .i64 pr,.int .i64 a]] w fun e w'=>e=.returned (.int .i64 (o.c:Int))∧RK w' m gn gs r o.e o.over o.b o.l∧Kept (In4 m gn gs r) w w':=by
 subst ho
 unfold pOut
 cases over with
 | true =>
  rw [if_pos rfl]
  refine (rput_over dl ph pr a h).mono ?_
  rintro e w' ⟨rfl,hb⟩
  exact ⟨rfl,h.later hb,Kept.of_below hb⟩
 | false =>
  rw [if_neg (by decide)]
  by_cases hb:(0≤dl∧dl<6)∧fitsB ph pr a=true
  ·rw [if_pos hb]
   obtain ⟨d,h1,h2,h3,rfl,rfl,rfl,rfl⟩:=in_nat hb
   simp only [Int.toNat_natCast]
   exact rput_in d h1 h2 h3 h (by omega) hb.2 (hn d (by omega))
  ·rw [if_neg hb]
   refine (rput_bound dl ph pr a h hb).mono ?_
   rintro e w' ⟨rfl,hb'⟩
   exact ⟨rfl,h.later hb',Kept.of_below hb'⟩
theorem RK.far {S:Nat→Prop} (h:RK w m gn gs r E over B l) (k:Kept S w w') (hd:∀ x,S x→¬ In4 m gn gs r x):RK w' m gn gs r E over B l :=
 h.kept k (fun e=>hd _ e (.inl rfl)) (fun e=>hd _ e (.inr (.inl rfl))) (fun e=>hd _ e (.inr (.inr (.inl rfl)))) (fun e=>hd _ e (.inr (.inr (.inr rfl))))
theorem rcut_rk (n:Int) (c:Nat) (l':Int) (h:RK w m gn gs r E over B l) (hn:n≤9223372036854775807) (hc:cC l n=c) (hl:cL l n=l') :
  Calls Tryd.prog 21 #[.pointer (some ⟨r,0,none⟩),.int .i64 n] w fun e w'=>e=.returned (.int .i64 (c:Int))∧RK w' m gn gs r E over B l'∧Kept (In4 m gn gs r) w w':=by
 subst hc hl
 obtain ⟨off,l2,cuts,p1,p2⟩:=h.rp
 refine (cut_rp r B l n l2 off cuts w p1 p2 hn).mono ?_
 rintro e w' ⟨rfl,hx,hk⟩
 exact ⟨rfl,⟨h.rj.kept hk (fun e=>h.rm e.symm) (fun e=>h.rn e.symm) (fun e=>h.rs e.symm),hx,h.rm,h.rn,h.rs,h.sz,h.s6⟩,hk.mono (fun k e=>.inr (.inr (.inr e)))⟩
theorem ron_rk (h:RK w m gn gs r E over B l) :
  Calls Tryd.prog 22 #[.pointer (some ⟨r,0,none⟩)] w fun e w'=>e=.returned (.tuple #[])∧RK w' m gn gs r E over B (-1)∧Kept (In4 m gn gs r) w w':=by
 obtain ⟨off,l2,cuts,p1,p2⟩:=h.rp
 refine (rpon_any r B off cuts l2 w p1).mono ?_
 rintro e w' ⟨rfl,hx,hk⟩
 exact ⟨rfl,⟨h.rj.kept hk (fun e=>h.rm e.symm) (fun e=>h.rn e.symm) (fun e=>h.rs e.symm),⟨false,l2,false,hx,.inr (.inl ⟨rfl,rfl,rfl⟩)⟩,h.rm,h.rn,h.rs,h.sz,h.s6⟩,hk.mono (fun k e=>.inr (.inr (.inr e)))⟩
end
structure RSt (w:World) (t m gb:Nat) (id:Int) (R:Nat→Bool):Prop where
 row:w.heap[t]? = some (.cells #[.int .i64 id,.pointer (some ⟨m,0,none⟩),.slice (some ⟨gb,0,none⟩) 6 6] 59 (0,0))
 refs:w.heap[gb]? = some (.cells #[.bool (R 0),.bool (R 1),.bool (R 2),.bool (R 3),.bool (R 4),.bool (R 5)] 4 (0,0))
section
variable {w w':World} {t m gb:Nat} {id:Int} {R:Nat→Bool}
theorem RSt.kept {S:Nat→Prop} (h:RSt w t m gb id R) (k:Kept S w w') (h1:¬ S t) (h2:¬ S gb):RSt w' t m gb id R:=⟨k.row h.row h1,k.row h.refs h2⟩
theorem RSt.later (h:RSt w t m gb id R) (hb:Below w.heap.size w w'):RSt w' t m gb id R:=h.kept (S:=fun _=>False) (Kept.of_below hb) (fun x=>x) (fun x=>x)
theorem RSt.cells (h:RSt w t m gb id R):w.cell? ⟨t,0,none⟩=some (.int .i64 id)∧w.cell? ⟨t,1,none⟩=some (.pointer (some ⟨m,0,none⟩))∧w.cell? ⟨t,2,none⟩=some (.slice (some ⟨gb,0,none⟩) 6 6):=by
 refine ⟨?_,?_,?_⟩ <;> rw [cell_of_row _ _ _ _ _ _ h.row] <;> rfl
theorem RSt.ref (h:RSt w t m gb id R) {d:Nat} (hd:d<6):w.cell? ⟨gb,d,none⟩=some (.bool (R d)):=by
 rw [cell_of_row _ _ _ _ _ _ h.refs]
 rcases six hd with rfl|rfl|rfl|rfl|rfl|rfl <;> rfl
end
theorem rhear_bad (sv:Value) (f t d k a:Int) (y:Bool) (ph pr pa:Int) (w:World) (h:¬ frOk f t d k a ph pr pa) :
  Calls Tryd.prog 23 #[sv,frV f t d k a y ph pr pa] w fun e w'=>e=.returned (.tuple #[.slice none 0 0,.int .i64 2])∧Below w.heap.size w w':=by
 obtain ⟨W,HW⟩:∃ W,Hid (w.alloc (.cells #[.int .i64 f,.int .i64 t,.int .i64 d,.int .i64 k,.int .i64 a,.bool y,.int .i64 ph,.int .i64 pr,.int .i64 pa] 36)=W):=⟨_,rfl⟩
 have HB:Hid (Below w.heap.size w W):=by rw [← HW.out]; exact (Below.refl _ _).alloc (Nat.le_refl _) _
 have HR:Hid (W.heap[w.heap.size]? = some (.cells #[.int .i64 f,.int .i64 t,.int .i64 d,.int .i64 k,.int .i64 a,.bool y,.int .i64 ph,.int .i64 pr,.int .i64 pa] 36 (0,0))):=by rw [← HW.out]; exact heap_alloc_new w _
 obtain ⟨c0,c1,c2,c3,c4,c5,c6,c7,c8⟩:=nine HR.out
 have hW:=HW.out
 have HF:=hid h
 clear h
 go_enter Tryd.func23,Tryd.ntmps23
 go_wp2_with (go_at_call 47; (with_reducible refine (rferr_bad f t d k a y ph pr pa _ HF.out).mono ?_); rintro e w1 ⟨rfl,hb1⟩)
 go_ret2
 exact ⟨rfl,HB.out.trans (hb1.mono HB.out.size)⟩
theorem rhear_other (t m gb:Nat) (id:Int) (R:Nat→Bool) (f to_ d k a:Int) (y:Bool) (ph pr pa:Int) (w:World) (h:RSt w t m gb id R) (hf:frOk f to_ d k a ph pr pa) (hne:¬ to_=id) :
  Calls Tryd.prog 23 #[.pointer (some ⟨t,0,none⟩),frV f to_ d k a y ph pr pa] w fun e w'=>e=.returned (.tuple #[.slice none 0 0,.int .i64 3])∧Below w.heap.size w w':=by
 obtain ⟨W,HW⟩:∃ W,Hid (w.alloc (.cells #[.int .i64 f,.int .i64 to_,.int .i64 d,.int .i64 k,.int .i64 a,.bool y,.int .i64 ph,.int .i64 pr,.int .i64 pa] 36)=W):=⟨_,rfl⟩
 have HB:Hid (Below w.heap.size w W):=by rw [← HW.out]; exact (Below.refl _ _).alloc (Nat.le_refl _) _
 have HR:Hid (W.heap[w.heap.size]? = some (.cells #[.int .i64 f,.int .i64 to_,.int .i64 d,.int .i64 k,.int .i64 a,.bool y,.int .i64 ph,.int .i64 pr,.int .i64 pa] 36 (0,0))):=by rw [← HW.out]; exact heap_alloc_new w _
 obtain ⟨c0,c1,c2,c3,c4,c5,c6,c7,c8⟩:=nine HR.out
 have hW:=HW.out
 have HF:=hid hf
 have HS:=hid (h.later HB.out)
 clear h hf
 go_enter Tryd.func23,Tryd.ntmps23
 go_wp2_with (go_at_call 47; (with_reducible refine (rferr_ok f to_ d k a y ph pr pa _ HF.out).mono ?_); rintro e w1 ⟨rfl,hb1⟩)
 obtain ⟨x0,x1,x2⟩:=(HS.out.later hb1).cells
 obtain ⟨c0,c1,c2,c3,c4,c5,c6,c7,c8⟩:=nine ((hb1.block _ (row_ltJ HR.out)).trans HR.out)
 have HB1:=hid (HB.out.trans (hb1.mono HB.out.size))
 clear hb1
 go_wp2_with fail
 go_region
 all_goals go_wp2_with fail
 all_goals go_ret2
 all_goals exact ⟨rfl,HB1.out.drew⟩
end Go.Proofs.YtkopfpaldmapdaaDoor
