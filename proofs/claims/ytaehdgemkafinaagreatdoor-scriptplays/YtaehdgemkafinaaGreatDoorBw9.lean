/-
  On the way to SPlaysProof: JI O4 JK JL JN Q4 Q5 Q6 Q7 Q8 QS O5 QD.
-/
import Derived.Test.YtaehdgemkafinaaGreatDoorBw6
import Derived.Test.YtaehdgemkafinaaGreatDoorBw7
import Derived.Test.YtaehdgemkafinaaGreatDoorBw8
import Derived.Maps.Own
import Derived.Maps.Views
set_option maxHeartbeats 8000000
set_option maxRecDepth 100000
namespace Go.Proofs.YtaehdgemkafinaaGreatDoor
open Go.RowKit
theorem wr_of (B s:ByteArray) (l:Int) (a:Nat) (h:a+s.size≤B.size) (h0:0<s.size):Wr B.data.toList a s.data.toList (wB B s l a).data.toList (wC B s l a):=by
 have hb:¬ wBad B s a:=by unfold wBad; omega
 by_cases hl:l=-2
 ·simp only [wC,wB,if_neg hb,if_pos hl]
  exact .inr ⟨rfl,0,by rw [← size_list]; exact h0,by rw [List.take_zero,putL_nil]⟩
 ·by_cases hn:0≤l∧l<s.size
  ·simp only [wC,wB,if_neg hb,if_neg hl,if_pos hn,Int.toNat_natCast]
   refine .inr ⟨rfl,l.toNat,by rw [← size_list]; omega,?_⟩
   rw [putB_putL (by omega)]
  ·simp only [wC,wB,if_neg hb,if_neg hl,if_neg hn,Int.toNat_natCast]
   refine .inl ⟨rfl,?_⟩
   rw [putB_putL (Nat.le_refl _),size_list,List.take_length]
theorem wL_off (B s:ByteArray) (l:Int) (a:Nat) (h:wC B s l a=6):wL B s l a=-2:=by
 unfold wC at h
 unfold wL
 split at h
 ·cases h
 ·rename_i hb
  rw [if_neg hb]
  split at h
  ·rename_i hl; rw [if_pos hl]
  ·rename_i hl
   rw [if_neg hl]
   split at h
   ·rename_i hn; rw [if_pos hn]
   ·cases h
end Go.Proofs.YtaehdgemkafinaaGreatDoor
namespace Go.Proofs.YtaehdgemkafinaaGreatDoor
open Go.RowKit
theorem slotL_take (L:List UInt8) (k:Nat) (hk:k<12):slotL (L.take 216) k=slotL L k:=by
 apply List.ext_getElem?
 intro m
 rw [slotL_get,slotL_get]
 split
 ·rw [List.getElem?_take,if_pos (by omega)]
 ·rfl
theorem dealL_take (L:List UInt8) (d:Nat) (hd:d<6):dealL (L.take 216) d=dealL L d:=by
 unfold dealL
 rw [slotL_take L _ (by omega),slotL_take L _ (by omega)]
theorem newest_is (B:ByteArray) (d n ph pr a:Nat) (w:World) (hB:B.size=216) (hd:d<6) (h:dealL B.data.toList d=(n,⟨ph,pr,a⟩)) :
  Calls Tryz.prog 199 #[.string B,.int .i64 (d:Int)] w fun e w'=>e=.returned (.agg #[.int .i64 (ph:Int),.int .i64 (pr:Int),.int .i64 (a:Int),.int .u32 (n:Int)])∧Below w.heap.size w w':=by
 have:=newest_any B d w hB hd
 rw [h] at this
 exact this
def openE (L:List UInt8) (k:Nat):Nat→Nat×St:=fun d=>if d<k then dealL L d else (0,St.zero)
theorem openE_step (L:List UInt8) (k:Nat):openE L (k+1)=updE (openE L k) k (dealL L k):=by
 funext d
 unfold openE updE
 by_cases h:d=k
 ·subst h; rw [if_pos (by omega),if_pos rfl]
 ·rw [if_neg h]
  show _=if d<k then dealL L d else (0,St.zero)
  by_cases h2:d<k
  ·rw [if_pos (by omega),if_pos h2]
  ·rw [if_neg (by omega),if_neg h2]
theorem place6 (w:World):Calls Tryz.prog 198 #[.int .i64 6,.int .u32 0] w fun e w'=>e=.returned (.int .i64 216)∧w'=w:=place_any 6 0 w (by omega) (by omega)
theorem read6 (A:Nat→Addr) (p q:Nat) (B X:ByteArray) (l:Int) (w:World) (h:Pl w p q B l) (hE:HeldE w A) (hB:B.size≤1000) (hl:¬ l=-2) (hb:216≤B.size) (hX:B.extract 0 (0+216)=X) :
  Calls Tryz.prog 197 #[.pointer (some ⟨p,0,none⟩),.int .i64 0,.int .i64 216] w fun e w'=>e=.returned (.tuple #[.string X,.nilIface])∧w'=w:=by
 rw [← hX]; exact pread_ok A p q B l 0 216 w h hE hB hl (by omega)
theorem openE_all (L:List UInt8) (d:Nat) (hd:d<6):openE L 6 d=dealL L d:=if_pos hd
theorem open_ok (A:Nat→Addr) (p q:Nat) (B:ByteArray) (l:Int) (w:World) (h:Pl w p q B l) (hE:HeldE w A) (hB:B.size≤1000) (h6:216≤B.size) (hl:¬ l=-2) :
  Calls Tryz.prog 169 #[.pointer (some ⟨p,0,none⟩)] w fun e w'=>∃ j,e=.returned (.tuple #[.pointer (some ⟨j,0,none⟩),.nilIface])∧JR w' j p (dealL B.data.toList) false∧Below w.heap.size w w'∧w.heap.size≤j:=by
 have H:=hid h
 have HE:=hid hE
 have HL:=hid hl
 obtain ⟨X,HX⟩:∃ X,Hid (B.extract 0 (0+216)=X):=⟨_,rfl⟩
 have HXl:Hid (X.data.toList=B.data.toList.take 216):=by rw [← HX.out,]; unfold Hid; rw [ext_list]; rfl
 have hX:X.size=216:=by rw [size_list,HXl.out,List.length_take,← size_list]; omega
 have HF:Hid (∀ w' j,JR w' j p (openE X.data.toList 6) false→JR w' j p (dealL B.data.toList) false):=fun w' j hj=>hj.ext (fun d hd=>by rw [openE_all _ _ hd,HXl.out,dealL_take _ _ hd])
 have HS:Hid (∀ k,openE X.data.toList (k+1)=updE (openE X.data.toList k) k (dealL X.data.toList k)):=openE_step _
 have H0:Hid (openE X.data.toList 0=fun _=>(0,St.zero)):=by unfold Hid openE; funext d; rw [if_neg (by omega)]
 clear h hE hl
 go_enter Tryz.func169,Tryz.ntmps169
 go_wp2_with (first|(go_at_call 198; refine (place6 _).mono ?_; rintro e wx ⟨rfl,hx⟩; subst wx)|(go_at_call 197; refine (read6 A p q B X l _ H.out HE.out hB HL.out h6 HX.out).mono ?_; rintro e wx ⟨rfl,hx⟩; subst wx))
 go_loopw [23] (fun i wr=>∃ k:Nat,k≤6∧i=.int .i64 (k:Int)∧JR wr w.heap.size p (openE X.data.toList k) false∧Below w.heap.size w wr) (fun i _=>6 - (intOf i).toNat)
 case atStart=>exact ⟨0,by omega,rfl,by rw [H0.out]; exact heap_alloc_new w _,(Below.refl _ _).alloc (Nat.le_refl _) _⟩
 case round =>
  obtain ⟨k,hk,rfl,hJ,hb⟩:=hrel
  have HJ:=hid hJ
  have HB:=hid hb
  clear hJ hb
  by_cases hlt:k<6
  ·obtain ⟨⟨n,ph,pr,a⟩,HD⟩:∃ x,Hid (dealL X.data.toList k=x):=⟨_,rfl⟩
   go_wp2_with fail
   go_region_held3 (fun _=>True) (trivial) (first|(go_at_call 199; (with_reducible refine (newest_is X k n ph pr a _ hX hlt HD.out).mono ?_); rintro e w2 ⟨rfl,hb2⟩; have HJ2:=hid (HJ.out.drew.later hb2 HJ.out.lt); have HB2:=hid (HB.out.drew.trans (hb2.mono HB.out.size)); obtain ⟨c0,c1,c2,c3⟩:=HJ2.out.ent hlt; have f0:=HJ2.out.fz (1+k * 4); have f1:=HJ2.out.fz (1+k * 4+1); have f2:=HJ2.out.fz (1+k * 4+2); have f3:=HJ2.out.fz (1+k * 4+3); clear hb2))
   all_goals go_wp2_with fail
   all_goals go_roundw
   case rel=>exact ⟨k+1,by omega,by go_num,by rw [HS.out,HD.out]; exact HJ2.out.set hlt (n,⟨ph,pr,a⟩),(((HB2.out.setCell (Nat.le_refl _) _).setCell (Nat.le_refl _) _).setCell (Nat.le_refl _) _).setCell (Nat.le_refl _) _⟩
   case measure=>simp [intOf]; omega
  ·obtain rfl:k=6:=by omega
   go_wp2_with fail
   go_ret2
   exact ⟨w.heap.size,rfl,HF.out _ _ HJ.out,HB.out,Nat.le_refl _⟩
theorem sizeState:(Tryz.prog.info? 80).map (·.size)=some 3:=by kernel_rfl
theorem set3 {w:World} {g:Nat} {a b c:Value} {t:TypeId} (h:w.heap[g]? = some (.cells #[a,b,c] t (0,0))) (x0 x1 x2:Value) :
  (((w.setCell ⟨g,0,none⟩ x0).setCell ⟨g,1,none⟩ x1).setCell ⟨g,2,none⟩ x2).heap[g]? = some (.cells #[x0,x1,x2] t (0,0)):=by
 have h0:=heap_setCell_same w g 0 _ _ x0 h
 have h1:=heap_setCell_same _ g 1 _ _ x1 h0
 exact heap_setCell_same _ g 2 _ _ x2 h1
def stV (s:St):Value:=.agg #[.int .i64 s.ph,.int .i64 s.pr,.int .i64 s.at_]
theorem get_ok (j p d:Nat) (E:Nat→Nat×St) (over:Bool) (w:World) (h:JR w j p E over) (hd:d<6) :
  Calls Tryz.prog 160 #[.pointer (some ⟨j,0,none⟩),.int .i64 (d:Int)] w fun e w'=>e=.returned (.tuple #[stV (E d).2,.nilIface])∧Below w.heap.size w w':=by
 have HK:Hid (decide (0≤(d:Int)∧(d:Int)<6)=true):=decide_eq_true ⟨by omega,by omega⟩
 obtain ⟨c0,c1,c2,c3⟩:=h.ent hd
 have hj:=h.lt
 unfold stV
 generalize (E d).2.ph=ph at c0 ⊢
 generalize (E d).2.pr=pr at c1 ⊢
 generalize (E d).2.at_=a at c2 ⊢
 clear h
 go_enter Tryz.func160,Tryz.ntmps160
 go_wp2_with (go_at_call 188; refine (known_any d _).mono ?_; rw [HK.out]; rintro e wx ⟨rfl,hx⟩; subst wx)
 refine bodyPost_ret (results_row2 rfl _ _ w.heap.size 80 #[.int .i64 (ph:Int),.int .i64 (pr:Int),.int .i64 (a:Int)] (0,0) _ rfl (heap_alloc_new w _) Tryz.underlying80 rfl sizeState) rfl ?_
 exact ⟨rfl,(Below.refl _ _).alloc (Nat.le_refl _) _⟩
theorem open_bad (A:Nat→Addr) (p q:Nat) (B:ByteArray) (l:Int) (c:Nat) (w:World) (h:Pl w p q B l) (hE:HeldE w A) (hB:B.size≤1000) (hc:rC B l 0 216=c+1) :
  Calls Tryz.prog 169 #[.pointer (some ⟨p,0,none⟩)] w fun e w'=>e=.returned (.tuple #[.pointer none,.iface 318 (.pointer (some (A c)))])∧w'=w:=by
 have H:=hid h
 have HE:=hid hE
 have HC:=hid hc
 clear h hE hc
 go_enter Tryz.func169,Tryz.ntmps169
 go_wp2_with (first|(go_at_call 198; refine (place6 _).mono ?_; rintro e wx ⟨rfl,hx⟩; subst wx)|(go_at_call 197; refine (read_bad A p q B l 0 216 c _ H.out HE.out hB (by omega) HC.out).mono ?_; rintro e wx ⟨rfl,hx⟩; subst wx))
 go_ret2
 exact ⟨rfl,rfl⟩
abbrev ptrO (b:Nat):Value:=.pointer (some ⟨b,0,none⟩)
abbrev cloO (f b:Nat):Value:=.func (.func f) #[] #[ptrO b]
abbrev BoxO (w:World) (b:Nat) (v:Value):Prop:=w.cell? ⟨b,0,none⟩=some v
structure TellO (w w':World) (pb:Nat) (form:ByteArray) (t:Value) (v:Value) (x y:Nat):Prop where
 val:v=.agg #[.string form,.bool false,.func (.func 128) #[] #[ptrO x,ptrO y]]
 bx:BoxO w' x (ptrO pb)
 by_:BoxO w' y t
 lx:w.heap.size≤x
 ly:w.heap.size≤y
theorem sizeCmd:(Tryz.prog.info? 84).map (·.size)=some 3:=by kernel_rfl
theorem box_new (w:World) (t:TypeId) (v:Value):BoxO (w.alloc (.cells #[v] t)) w.heap.size v:=by
 exact cell_of_row _ _ 0 _ _ _ (heap_alloc_new w _)
theorem tells_any (pb:Nat) (form:ByteArray) (f b:Nat) (w:World) :
  Calls Tryz.prog 62 #[ptrO pb,.string form,cloO f b] w fun e w'=>∃ v x y,e=.returned v∧TellO w w' pb form (cloO f b) v x y∧Below w.heap.size w w':=by
 have h1:=box_new w 44 (ptrO pb)
 have h2:=box_new (w.alloc (.cells #[ptrO pb] 44)) 82 (cloO f b)
 have b1:Below w.heap.size w (w.alloc (.cells #[ptrO pb] 44)):=(Below.refl _ _).alloc (Nat.le_refl _) _
 have hsz:(w.alloc (.cells #[ptrO pb] 44)).heap.size=w.heap.size+1:=by simp
 rw [hsz] at h2
 have HX:=hid (And.intro (cell_alloc (.cells #[cloO f b] 82) h1) (And.intro h2 b1))
 clear h1 h2 b1 hsz
 go_enter Tryz.func62,Tryz.ntmps62
 go_wp2_with fail
 refine bodyPost_ret (results_cell_row rfl _ _ (w.heap.size+1+1) 84 #[.string form,.bool false,.func (.func 128) #[] #[ptrO w.heap.size,ptrO (w.heap.size+1)]] (0,0) _ rfl (by
  have:=heap_alloc_new ((w.alloc (.cells #[ptrO pb] 44)).alloc (.cells #[cloO f b] 82)) (.cells #[.string form,.bool false,.func (.func 128) #[] #[ptrO w.heap.size,ptrO (w.heap.size+1)]] 84)
  simpa using this) Tryz.underlying84 rfl sizeCmd) rfl ?_
 refine ⟨_,w.heap.size,w.heap.size+1,rfl,⟨rfl,cell_alloc _ HX.out.1,cell_alloc _ HX.out.2.1,Nat.le_refl _,by omega⟩,?_⟩
 exact ((HX.out.2.2.alloc (by simp) _).alloc (by simp; omega) _)
structure DoesO (w w':World) (pb:Nat) (form:ByteArray) (t:Value) (v:Value) (x y z:Nat):Prop where
 val:v=.agg #[.string form,.bool false,.func (.func 128) #[] #[ptrO x,ptrO y]]
 bx:BoxO w' x (ptrO pb)
 by_:BoxO w' y (cloO 99 z)
 bz:BoxO w' z t
 lx:w.heap.size≤x
 ly:w.heap.size≤y
 lz:w.heap.size≤z
theorem does_any (pb:Nat) (form:ByteArray) (f b:Nat) (w:World) :
  Calls Tryz.prog 37 #[ptrO pb,.string form,cloO f b] w fun e w'=>∃ v x y z,e=.returned v∧DoesO w w' pb form (cloO f b) v x y z∧Below w.heap.size w w':=by
 have h1:=box_new w 87 (cloO f b)
 have b1:Below w.heap.size w (w.alloc (.cells #[cloO f b] 87)):=(Below.refl _ _).alloc (Nat.le_refl _) _
 have hsz:(w.alloc (.cells #[cloO f b] 87)).heap.size=w.heap.size+1:=by simp
 have r1:=heap_alloc_new (w.alloc (.cells #[cloO f b] 87)) (.cells #[.string ⟨#[]⟩,.bool false,.nilFunc] 84)
 have h2:=cell_alloc (.cells #[.string ⟨#[]⟩,.bool false,.nilFunc] 84) h1
 have b2:=b1.alloc b1.size (.cells #[.string ⟨#[]⟩,.bool false,.nilFunc] 84)
 rw [hsz] at r1
 obtain ⟨W,HW⟩:∃ W,Hid ((w.alloc (.cells #[cloO f b] 87)).alloc (.cells #[.string ⟨#[]⟩,.bool false,.nilFunc] 84)=W):=⟨_,rfl⟩
 rw [HW.out] at r1 h2 b2
 have hWz:w.heap.size+1<W.heap.size:=row_ltJ r1
 have HT:=hid (tells_any pb form 99 w.heap.size W)
 have HX:=hid (And.intro r1 (And.intro h2 b2))
 have hW:=HW.out
 clear h1 b1 hsz r1 h2 b2
 go_enter Tryz.func37,Tryz.ntmps37
 go_wp2_with fail
 refine HT.out.mono ?_
 rintro e w1 ⟨v,x,y,rfl,ht,hb⟩
 obtain ⟨rfl,t1,t2,t3,t4⟩:=ht
 have HY:=hid (And.intro t1 (And.intro t2 (And.intro t3 t4)))
 have hr:=(hb.block _ (row_ltJ HX.out.1)).trans HX.out.1
 have HR:=hid hr
 have HB:=hid hb
 have d0:=cell_of_row _ _ 0 _ _ _ hr
 have d1:=cell_of_row _ _ 1 _ _ _ hr
 have d2:=cell_of_row _ _ 2 _ _ _ hr
 have z0:=frozen_of_row _ _ 0 _ _ hr
 have z1:=frozen_of_row _ _ 1 _ _ hr
 have z2:=frozen_of_row _ _ 2 _ _ hr
 clear t1 t2 t3 t4 hr hb
 go_wp2_with fail
 refine bodyPost_ret (results_cell_row rfl _ _ (w.heap.size+1) 84 _ (0,0) _ rfl (set3 HR.out _ _ _) Tryz.underlying84 rfl sizeCmd) rfl ?_
 have hne:∀ k,W.heap.size≤k→k≠w.heap.size+1:=fun k hk=>by omega
 have hk:∀ k v',k≠w.heap.size+1→w1.cell? ⟨k,0,none⟩=some v'→(((w1.setCell ⟨w.heap.size+1,0,none⟩ (.string form)).setCell ⟨w.heap.size+1,1,none⟩ (.bool false)).setCell ⟨w.heap.size+1,2,none⟩ (.func (.func 128) #[] #[ptrO x,ptrO y])).cell? ⟨k,0,none⟩=some v':=fun k v' hk hc=>by
  rw [World.cell?_setCell_other _ _ _ _ (fun e=>hk (congrArg Addr.block e).symm),World.cell?_setCell_other _ _ _ _ (fun e=>hk (congrArg Addr.block e).symm),World.cell?_setCell_other _ _ _ _ (fun e=>hk (congrArg Addr.block e).symm)]; exact hc
 have hWs:=HX.out.2.2.size
 refine ⟨_,x,y,w.heap.size,rfl,⟨rfl,hk x _ (hne x HY.out.2.2.1) HY.out.1,hk y _ (hne y HY.out.2.2.2) HY.out.2.1,hk _ _ (by omega) (cell_later HB.out HX.out.2.1),by have:=HY.out.2.2.1; omega,by have:=HY.out.2.2.2; omega,Nat.le_refl _⟩,?_⟩
 have hB:=HX.out.2.2.trans (HB.out.mono hWs)
 exact ((hB.setCell (Nat.le_succ _) _).setCell (Nat.le_succ _) _).setCell (Nat.le_succ _) _
structure JP (w0 w:World) (j p q:Nat) (E:Nat→Nat×St) (over:Bool) (B:ByteArray) (l:Int):Prop where
 bel:Below w0.heap.size w0 w
 jr:JR w j p E over
 pl:Pl w p q B l
 jp:j≠p
 jq:j≠q
 j0:w0.heap.size≤j
 p0:w0.heap.size≤p
 q0:w0.heap.size≤q
 l0:-2≤l
 l1:l≤9223372036854775807
 sz:B.size≤1000
 s6:216≤B.size
section
variable {w0 w w':World} {j p q:Nat} {E:Nat→Nat×St} {over:Bool} {B B':ByteArray} {l l':Int} {A:Nat→Addr}
theorem JP.later (h:JP w0 w j p q E over B l) (hb:Below w.heap.size w w'):JP w0 w' j p q E over B l :=
 ⟨h.bel.trans (hb.mono h.bel.size),h.jr.later hb h.jr.lt,h.pl.kept (S:=fun _=>False) (Kept.of_below hb) (fun x=>x) (fun x=>x),h.jp,h.jq,h.j0,h.p0,h.q0,h.l0,h.l1,h.sz,h.s6⟩
theorem JP.drew (h:JP w0 w j p q E over B l):JP w0 w.drew j p q E over B l:=h.later (Below.refl _ _).drew
theorem JP.plate (h:JP w0 w j p q E over B l) (hk:Kept (In2 p q) w w') (hp:Pl w' p q B' l') (h0:-2≤l') (h1:l'≤9223372036854775807) (hs:B'.size=B.size):JP w0 w' j p q E over B' l' :=
 ⟨hk.below h.bel.size (fun k g=>by have:=h.p0; have:=h.q0; unfold In2 at g; omega) h.bel,hk.row h.jr (fun g=>g.elim h.jp h.jq),hp,h.jp,h.jq,h.j0,h.p0,h.q0,h0,h1,by rw [hs]; exact h.sz,by rw [hs]; exact h.s6⟩
theorem JP.held (h:JP w0 w j p q E over B l) (hE:HeldE w0 A):HeldE w A:=hE.later h.bel
theorem JP.gp (h:JP w0 w j p q E over B l) (hE:HeldE w0 A):5≠p∧5≠q:=by
 have:=cell_lt hE.g5
 have:=h.p0
 have:=h.q0
 exact ⟨fun e=>by subst e; simp at *; omega,fun e=>by subst e; simp at *; omega⟩
theorem JP.own {E':Nat→Nat×St} {over':Bool} (h:JP w0 w j p q E over B l) (hk:Kept (In1 j) w w') (hj:JR w' j p E' over'):JP w0 w' j p q E' over' B l :=
 ⟨hk.below h.bel.size (fun k g=>by have:=h.j0; unfold In1 at g; omega) h.bel,hj,h.pl.kept hk (fun g=>h.jp g.symm) (fun g=>h.jq g.symm),h.jp,h.jq,h.j0,h.p0,h.q0,h.l0,h.l1,h.sz,h.s6⟩
end
theorem wL_ge (B s:ByteArray) (l a:Int) (h:-2≤l):-2≤wL B s l a:=by
 unfold wL
 repeat' split
 all_goals omega
theorem wL_le (B s:ByteArray) (l a:Int) (h:l≤9223372036854775807):wL B s l a≤9223372036854775807:=by
 unfold wL
 repeat' split
 all_goals omega
theorem write_jp (A:Nat→Addr) (w0 w:World) (j p q:Nat) (E:Nat→Nat×St) (over:Bool) (B s:ByteArray) (l a:Int) (h:JP w0 w j p q E over B l) (hE:HeldE w0 A) (hs:s.size≤1000) (c:Nat) (hc:wC B s l a=c) :
  Calls Tryz.prog 258 #[.pointer (some ⟨p,0,none⟩),.int .i64 a,.string s] w fun e w'=>e=.returned (ev A c)∧JP w0 w' j p q E over (wB B s l a) (wL B s l a)∧Kept (In2 p q) w w':=by
 rw [← hc]
 refine (write_pl A p q B s l a w h.pl (h.held hE) h.sz hs h.l0 h.l1 (h.gp hE).1 (h.gp hE).2).mono ?_
 rintro e w' ⟨rfl,hp,hk⟩
 exact ⟨rfl,h.plate hk hp (wL_ge B s l a h.l0) (wL_le B s l a h.l1) (wB_size B s l a),hk⟩
structure Out where
 c:Nat
 b:ByteArray
 l:Int
def wOut (B s:ByteArray) (l:Int) (a:Nat):Out:=⟨wC B s l a,wB B s l a,wL B s l a⟩
def fill1 (B:ByteArray) (l:Int) (k:Nat):Out:=if l=-2 then ⟨6,B,l⟩ else if B.data.toList[18 * k+17]? = some 0 then ⟨0,B,l⟩ else wOut B (bA [0]) l (18 * k+17)
def fill2 (B:ByteArray) (l:Int) (k n:Nat) (s:St):Out:=if (fill1 B l k).c=0 then wOut (fill1 B l k).b (bA (bodyL n s)) (fill1 B l k).l (18 * k) else fill1 B l k
def fill3 (B:ByteArray) (l:Int) (k n:Nat) (s:St):Out:=if (fill2 B l k n s).c=0 then wOut (fill2 B l k n s).b (bA [165]) (fill2 B l k n s).l (18 * k+17) else fill2 B l k n s
theorem read17 (A:Nat→Addr) (w0 w:World) (j p q:Nat) (E:Nat→Nat×St) (over:Bool) (B:ByteArray) (l:Int) (k:Nat) (z:Int) (x:UInt8) (h:JP w0 w j p q E over B l) (hE:HeldE w0 A) (hk:k<12) (hl:¬ l=-2) (hz:z=((18 * k+17:Nat):Int)) (hx:B.data.toList[18 * k+17]? = some x) :
  Calls Tryz.prog 197 #[.pointer (some ⟨p,0,none⟩),.int .i64 z,.int .i64 1] w fun e w'=>e=.returned (.tuple #[.string (bA [x]),.nilIface])∧w'=w:=by
 subst hz
 have e:B.extract (18 * k+17) (18 * k+17+1)=bA [x]:=by
  apply ba_ext
  rw [ext_list,bA_list]
  obtain ⟨h1,h2⟩:=List.getElem?_eq_some_iff.1 hx
  rw [List.drop_eq_getElem_cons h1,h2]
  simp
 have:=pread_ok A p q B l (18 * k+17) 1 w h.pl (h.held hE) h.sz hl (by have:=h.s6; omega)
 rw [e] at this
 exact this
theorem read17_off (A:Nat→Addr) (w0 w:World) (j p q:Nat) (E:Nat→Nat×St) (over:Bool) (B:ByteArray) (k:Nat) (z:Int) (h:JP w0 w j p q E over B (-2)) (hE:HeldE w0 A) (hk:k<12) (hz:z=((18 * k+17:Nat):Int)) :
  Calls Tryz.prog 197 #[.pointer (some ⟨p,0,none⟩),.int .i64 z,.int .i64 1] w fun e w'=>e=.returned (.tuple #[.string ⟨#[]⟩,.iface 318 (.pointer (some (A 5)))])∧w'=w:=by
 subst hz
 exact pread_off A p q B _ 1 w h.pl (h.held hE) h.sz (by have:=h.s6; omega)
theorem write_ok (A:Nat→Addr) (w0 w:World) (j p q:Nat) (E:Nat→Nat×St) (over:Bool) (B s:ByteArray) (l a:Int) (h:JP w0 w j p q E over B l) (hE:HeldE w0 A) (hs:s.size≤1000) (hc:wC B s l a=0) :
  Calls Tryz.prog 258 #[.pointer (some ⟨p,0,none⟩),.int .i64 a,.string s] w fun e w'=>e=.returned .nilIface∧JP w0 w' j p q E over (wB B s l a) (wL B s l a)∧Kept (In2 p q) w w':=write_jp A w0 w j p q E over B s l a h hE hs 0 hc
theorem write_no (A:Nat→Addr) (w0 w:World) (j p q:Nat) (E:Nat→Nat×St) (over:Bool) (B s:ByteArray) (l a:Int) (h:JP w0 w j p q E over B l) (hE:HeldE w0 A) (hs:s.size≤1000) (c:Nat) (hc:wC B s l a=c+1) :
  Calls Tryz.prog 258 #[.pointer (some ⟨p,0,none⟩),.int .i64 a,.string s] w fun e w'=>e=.returned (.iface 318 (.pointer (some (A c))))∧JP w0 w' j p q E over (wB B s l a) (wL B s l a)∧Kept (In2 p q) w w':=write_jp A w0 w j p q E over B s l a h hE hs (c+1) hc
theorem ext17 (n:Nat) (s:St):(bA (bodyL n s ++ [165])).extract 0 17=bA (bodyL n s):=by
 apply ba_ext
 rw [ext_list,bA_list,bA_list,List.drop_zero,Nat.sub_zero]
 exact take_app (bodyL_length n s)
theorem ext18 (n:Nat) (s:St):(bA (bodyL n s ++ [165])).extract 17 (bA (bodyL n s ++ [165])).size=bA [165]:=by
 apply ba_ext
 rw [ext_list,bA_list,bA_list,drop_app (bodyL_length n s),bA_size,List.length_append,bodyL_length]
 rfl
theorem fill_any (A:Nat→Addr) (w0 w:World) (j p q:Nat) (E:Nat→Nat×St) (over:Bool) (B:ByteArray) (l:Int) (k n:Nat) (s:St) (h:JP w0 w j p q E over B l) (hE:HeldE w0 A) (hk:k<12) :
  Calls Tryz.prog 244 #[.pointer (some ⟨j,0,none⟩),.int .i64 ((18 * k:Nat):Int),.string (bA (bodyL n s ++ [165]))] w fun e w'=>e=.returned (ev A (fill3 B l k n s).c)∧JP w0 w' j p q E over (fill3 B l k n s).b (fill3 B l k n s).l∧Kept (In2 p q) w w':=by
 have H:=hid h
 have HE:=hid hE
 have cj:=h.jr.plate
 obtain ⟨a,Ha⟩:∃ a,Hid (18 * k=a):=⟨_,rfl⟩
 have ha:a≤216:=by rw [← Ha.out]; omega
 have hwr:IntKind.i64.wrap ((a:Int)+17)=(a:Int)+17:=by rw [IntKind.wrap_i64]; omega
 have hz:Hid ((a:Int)+17=((18 * k+17:Nat):Int)):=by unfold Hid; rw [← Ha.out]; omega
 have hs1:=slice_high (bA (bodyL n s ++ [165])) 17 17 rfl (by rw [bA_size,List.length_append,bodyL_length]; decide)
 have hs2:=slice_low (bA (bodyL n s ++ [165])) 17 17 rfl (by rw [bA_size,List.length_append,bodyL_length]; decide)
 rw [ext17] at hs1
 rw [ext18] at hs2
 have Z1:Hid ((bA (bodyL n s)).size≤1000):=by unfold Hid; rw [bA_size,bodyL_length]; decide
 rw [Ha.out]
 by_cases hl:l=-2
 ·subst hl
  have F:Hid (fill3 B (-2) k n s=⟨6,B,-2⟩):=by unfold Hid fill3 fill2 fill1; simp
  rw [F.out]
  clear h hE
  go_enter Tryz.func244,Tryz.ntmps244
  go_wp2_with (go_at_call 197; refine (read17_off A w0 _ j p q E over B k _ H.out HE.out hk hz.out).mono ?_; rintro e wx ⟨rfl,hx⟩; subst wx)
  go_ret
  exact ⟨rfl,H.out,Kept.refl _ _⟩
 ·have hlen:18 * k+17<B.data.toList.length:=by rw [← size_list]; have:=h.s6; omega
  obtain ⟨x,hx⟩:∃ x,B.data.toList[18 * k+17]? = some x:=⟨_,List.getElem?_eq_getElem hlen⟩
  have HL:=hid hl
  have HX:=hid hx
  have ix:=idx_str (bA [x]) 0 0 (by rw [bA_size]; exact Nat.one_pos) rfl
  have ix0:((bA [x])[0]'(by rw [bA_size]; exact Nat.one_pos)).toNat=x.toNat:=rfl
  rw [ix0] at ix
  clear ix0 h hE hl hx hlen
  obtain ⟨⟨c1,B1,l1⟩,HF1⟩:∃ o,Hid (fill1 B l k=o):=⟨_,rfl⟩
  obtain ⟨c2,HC2⟩:∃ c,Hid (wC B1 (bA (bodyL n s)) l1 a=c):=⟨_,rfl⟩
  obtain ⟨c3,HC3⟩:∃ c,Hid (wC (wB B1 (bA (bodyL n s)) l1 a) (bA [165]) (wL B1 (bA (bodyL n s)) l1 a) ((a:Int)+17)=c):=⟨_,rfl⟩
  have f1:∀ c,c1=c+1→Hid (fill3 B l k n s=⟨c1,B1,l1⟩):=fun c e=>by
   unfold Hid fill3 fill2
   rw [HF1.out]
   simp [e]
  have f2:∀ c,c1=0→c2=c+1→Hid (fill3 B l k n s=⟨c2,wB B1 (bA (bodyL n s)) l1 a,wL B1 (bA (bodyL n s)) l1 a⟩):=fun c e e2=>by
   unfold Hid fill3 fill2
   rw [HF1.out,if_pos e]
   unfold wOut
   rw [Ha.out,HC2.out,if_neg (by simp [e2])]
  have f3:c1=0→c2=0→Hid (fill3 B l k n s=⟨c3,wB (wB B1 (bA (bodyL n s)) l1 a) (bA [165]) (wL B1 (bA (bodyL n s)) l1 a) ((a:Int)+17),wL (wB B1 (bA (bodyL n s)) l1 a) (bA [165]) (wL B1 (bA (bodyL n s)) l1 a) ((a:Int)+17)⟩):=fun e e2=>by
   unfold Hid fill3 fill2
   rw [HF1.out,if_pos e]
   unfold wOut
   rw [Ha.out,HC2.out,if_pos e2,show ((a+17:Nat):Int)=(a:Int)+17 by omega,HC3.out]
  obtain ⟨O,HO⟩:∃ o,Hid (fill3 B l k n s=o):=⟨_,rfl⟩
  rw [HO.out]
  rw [HO.out] at f1 f2 f3
  have Z2:Hid ((bA [165]).size≤1000):=by unfold Hid; rw [bA_size]; decide
  have Z0:Hid ((bA [0]).size≤1000):=by unfold Hid; rw [bA_size]; decide
  go_enter Tryz.func244,Tryz.ntmps244
  go_upto_if 26 with (go_at_call 197; refine (read17 A w0 _ j p q E over B l k _ x H.out HE.out hk HL.out hz.out HX.out).mono ?_; rintro e wx ⟨rfl,hx⟩; subst wx)
  go_cut [] from 7 (fun wx=>c1=0∧JP w0 wx j p q E over B1 l1∧Kept (In2 p q) w wx)
  case first =>
   by_cases hx0:x=0
   ·subst hx0
    have e1:fill1 B l k=⟨0,B,l⟩:=by unfold fill1; rw [if_neg HL.out,if_pos HX.out]
    rw [HF1.out] at e1
    injection e1 with e1 e2 e3
    subst e1 e2 e3
    go_wp2_with fail
    go_meet
    exact ⟨by first|trivial|rfl,H.out,Kept.refl _ _⟩
   ·have hx1:¬ x.toNat=0:=fun g=>hx0 (UInt8.toNat_inj.1 g)
    have e1:fill1 B l k=wOut B (bA [0]) l (18 * k+17):=by unfold fill1; rw [if_neg HL.out,if_neg (fun g=>hx0 (by rw [HX.out] at g; exact Option.some.inj g))]
    rw [HF1.out] at e1
    unfold wOut at e1
    rw [Ha.out] at e1
    injection e1 with e1 e2 e3
    have E1:=hid e1.symm
    subst e2 e3
    clear e1 f2 f3 HC2 HC3 HF1
    rcases c1 with _|c
    ·go_wp2_with (go_at_call 258; refine (write_ok A w0 _ j p q E over B (bA [0]) l _ H.out HE.out Z0.out E1.out).mono ?_; rintro e w2 ⟨rfl,h2,k2⟩; have K2:=hid k2; clear k2; have H2:=hid h2; clear h2)
     go_meet
     exact ⟨by first|trivial|rfl,H2.out,K2.out⟩
    ·have F:=f1 c rfl
     go_wp2_with (go_at_call 258; refine (write_no A w0 _ j p q E over B (bA [0]) l _ H.out HE.out Z0.out c E1.out).mono ?_; rintro e w2 ⟨rfl,h2,k2⟩; have K2:=hid k2; clear k2; have H2:=hid h2; clear h2)
     go_ret
     exact ⟨by rw [F.out]; rfl,by rw [F.out]; exact H2.out,K2.out⟩
  case rest =>
   obtain ⟨hc1,hj,hk0⟩:=hcut
   have HK:=hid hk0
   have HJ:=hid hj
   have HC1:=hid hc1
   have cjc:=hj.jr.plate
   clear hc1 hj hk0 cj H
   rcases c2 with _|c
   ·have F:=f3 HC1.out rfl
    clear f1 f2 f3
    go_wp2_with fail
    go_region_held3 (fun w'=>w'.cell? ⟨j,0,none⟩=some (.pointer (some ⟨p,0,none⟩))) (go_keep) (first|(go_at_call 258; (with_reducible refine (write_ok A w0 _ j p q E over B1 (bA (bodyL n s)) l1 a HJ.out.drew HE.out Z1.out HC2.out).mono ?_); rintro e w2 ⟨rfl,h2,k2⟩; have K2:=hid k2; clear k2; have cj2:=h2.jr.plate; have H2:=hid h2; clear h2))
    all_goals go_wp2_with fail
    go_region_held3 (fun w'=>w'.cell? ⟨j,0,none⟩=some (.pointer (some ⟨p,0,none⟩))) (go_keep) (first|(go_at_call 258; (with_reducible refine (write_jp A w0 _ j p q E over _ (bA [165]) _ _ H2.out.drew HE.out Z2.out c3 HC3.out).mono ?_); rintro e w3 ⟨rfl,h3,k3⟩; have K3:=hid k3; clear k3; have cj3:=h3.jr.plate; have H3:=hid h3; clear h3))
    all_goals go_wp2_with fail
    go_ret
    exact ⟨by rw [F.out]; rfl,by rw [F.out]; exact H3.out,(HK.out.drew.trans K2.out).drew.trans K3.out⟩
   ·have F:=f2 c HC1.out rfl
    clear f1 f2 f3
    go_wp2_with fail
    go_region_held3 (fun w'=>w'.cell? ⟨j,0,none⟩=some (.pointer (some ⟨p,0,none⟩))) (go_keep) (first|(go_at_call 258; (with_reducible refine (write_no A w0 _ j p q E over B1 (bA (bodyL n s)) l1 a HJ.out.drew HE.out Z1.out c HC2.out).mono ?_); rintro e w2 ⟨rfl,h2,k2⟩; have K2:=hid k2; clear k2; have cj2:=h2.jr.plate; have H2:=hid h2; clear h2))
    all_goals go_wp2_with fail
    go_ret
    exact ⟨by rw [F.out]; rfl,by rw [F.out]; exact H2.out,HK.out.drew.trans K2.out⟩
end Go.Proofs.YtaehdgemkafinaaGreatDoor
namespace Go.Proofs.YtaehdgemkafinaaGreatDoor
theorem wL_on (B s:ByteArray) (l a:Int) (h:wC B s l a=0):wL B s l a≠-2:=by
 unfold wC at h
 unfold wL
 split at h
 ·cases h
 ·rename_i hb
  rw [if_neg hb]
  split at h
  ·cases h
  ·rename_i hl
   rw [if_neg hl]
   split at h
   ·cases h
   ·rename_i hn
    rw [if_neg hn]
    split <;> omega
theorem wFree (B s:ByteArray) (a:Nat) (h:a+s.size≤B.size):wC B s (-1) a=0∧wL B s (-1) a=-1:=by
 have hb:¬ wBad B s a:=by unfold wBad; omega
 unfold wC wL
 have h1:¬ ((-1:Int)=-2):=by decide
 have h2:¬ (0≤(-1:Int)∧(-1:Int)<s.size):=by omega
 rw [if_neg hb,if_neg hb,if_neg h1,if_neg h1,if_neg h2,if_neg h2,if_pos (by decide)]
 exact ⟨rfl,rfl⟩
section
variable {B:ByteArray} {l:Int} {k n:Nat} {s:St}
theorem fill1_out (hB:18 * (k+1)≤B.size):((fill1 B l k).c=0∧Zeroed B.data.toList k (fill1 B l k).b.data.toList∧(fill1 B l k).l≠-2) ∨ ((fill1 B l k).c=6∧Torn B.data.toList k (fill1 B l k).b.data.toList∧(fill1 B l k).l=-2):=by
 unfold fill1
 by_cases hl:l=-2
 ·rw [if_pos hl]
  exact .inr ⟨rfl,⟨Only.refl _ _,.inl rfl⟩,hl⟩
 ·rw [if_neg hl]
  by_cases hz:B.data.toList[18 * k+17]? = some 0
  ·rw [if_pos hz]
   exact .inl ⟨rfl,zero_skip hz,hl⟩
  ·rw [if_neg hz]
   have hw:=wr_of B (bA [0]) l (18 * k+17) (by rw [bA_size]; simp; omega) (by rw [bA_size]; exact Nat.one_pos)
   rw [bA_list] at hw
   rcases zero_wr (by rw [← size_list]; exact hB) hw with ⟨c,z⟩|⟨c,t⟩
   ·exact .inl ⟨c,z,wL_on _ _ _ _ c⟩
   ·exact .inr ⟨c,t,wL_off _ _ _ _ c⟩
theorem fill1_size:(fill1 B l k).b.size=B.size:=by
 unfold fill1
 repeat' split
 ·rfl
 ·rfl
 ·exact wB_size _ _ _ _
theorem fill2_size:(fill2 B l k n s).b.size=B.size:=by
 unfold fill2
 split
 ·exact (wB_size _ _ _ _).trans fill1_size
 ·exact fill1_size
theorem fill3_size:(fill3 B l k n s).b.size=B.size:=by
 unfold fill3
 split
 ·exact (wB_size _ _ _ _).trans fill2_size
 ·exact fill2_size
theorem fill2_out (hB:18 * (k+1)≤B.size):((fill2 B l k n s).c=0∧Bodied B.data.toList k n s (fill2 B l k n s).b.data.toList∧(fill2 B l k n s).l≠-2) ∨ ((fill2 B l k n s).c=6∧Torn B.data.toList k (fill2 B l k n s).b.data.toList∧(fill2 B l k n s).l=-2):=by
 have hs:=fill1_size (B:=B) (l:=l) (k:=k)
 unfold fill2
 rcases fill1_out (l:=l) hB with ⟨c,z,ho⟩|⟨c,t,ho⟩
 ·rw [if_pos c]
  have hw:=wr_of (fill1 B l k).b (bA (bodyL n s)) (fill1 B l k).l (18 * k) (by rw [bA_size,bodyL_length,hs]; omega) (by rw [bA_size,bodyL_length]; decide)
  rw [bA_list] at hw
  rcases body_wr (by rw [← size_list]; exact hB) z hw with ⟨c2,z2⟩|⟨c2,t2⟩
  ·exact .inl ⟨c2,z2,wL_on _ _ _ _ c2⟩
  ·exact .inr ⟨c2,t2,wL_off _ _ _ _ c2⟩
 ·rw [if_neg (by omega)]
  exact .inr ⟨c,t,ho⟩
theorem fill3_out (hB:18 * (k+1)≤B.size):((fill3 B l k n s).c=0∧Done B.data.toList k n s (fill3 B l k n s).b.data.toList∧(fill3 B l k n s).l≠-2) ∨ ((fill3 B l k n s).c=6∧Torn B.data.toList k (fill3 B l k n s).b.data.toList∧(fill3 B l k n s).l=-2):=by
 have hs:=fill2_size (B:=B) (l:=l) (k:=k) (n:=n) (s:=s)
 unfold fill3
 rcases fill2_out (l:=l) (n:=n) (s:=s) hB with ⟨c,z,ho⟩|⟨c,t,ho⟩
 ·rw [if_pos c]
  have hw:=wr_of (fill2 B l k n s).b (bA [165]) (fill2 B l k n s).l (18 * k+17) (by rw [bA_size,hs]; simp; omega) (by rw [bA_size]; exact Nat.one_pos)
  rw [bA_list] at hw
  rcases last_wr (by rw [← size_list]; exact hB) z hw with ⟨c2,z2⟩|⟨c2,t2⟩
  ·exact .inl ⟨c2,z2,wL_on _ _ _ _ c2⟩
  ·exact .inr ⟨c2,t2,wL_off _ _ _ _ c2⟩
 ·rw [if_neg (by omega)]
  exact .inr ⟨c,t,ho⟩
theorem fill3_free (hB:18 * (k+1)≤B.size):(fill3 B (-1) k n s).c=0∧(fill3 B (-1) k n s).l=-1:=by
 have h1:(fill1 B (-1) k).c=0∧(fill1 B (-1) k).l=-1:=by
  unfold fill1
  rw [if_neg (by decide)]
  split
  ·exact ⟨rfl,rfl⟩
  ·exact wFree _ _ (18 * k+17) (by rw [bA_size]; simp; omega)
 have s1:=fill1_size (B:=B) (l:=-1) (k:=k)
 have h2:(fill2 B (-1) k n s).c=0∧(fill2 B (-1) k n s).l=-1:=by
  unfold fill2
  rw [if_pos h1.1,h1.2]
  exact wFree _ _ (18 * k) (by rw [bA_size,bodyL_length,s1]; omega)
 have s2:=fill2_size (B:=B) (l:=-1) (k:=k) (n:=n) (s:=s)
 unfold fill3
 rw [if_pos h2.1,h2.2]
 exact wFree _ _ (18 * k+17) (by rw [bA_size,s2]; simp; omega)
end
end Go.Proofs.YtaehdgemkafinaaGreatDoor
namespace Go.Proofs.YtaehdgemkafinaaGreatDoor
open Go.RowKit
theorem bit_and0 {s:Int} (k:Nat) (h0:0≤s) (h1:s<9223372036854775808):(bits BinOp.and IntKind.i64 (s / 2 ^ k) 1 == 0)=!bit s k:=by
 obtain ⟨m,rfl⟩:=Int.eq_ofNat_of_zero_le h0
 have e:((m:Int) / 2 ^ k)=((m / 2 ^ k:Nat):Int):=by simp
 have hlt:m / 2 ^ k<9223372036854775808:=Nat.lt_of_le_of_lt (Nat.div_le_self _ _) (by omega)
 rw [e,show (1:Int)=((1:Nat):Int) from rfl,bits_and_nat _ 1 hlt (by decide),Nat.and_one_is_mod]
 unfold bit
 rw [Int.toNat_natCast,Nat.testBit_eq_decide_div_mod_eq,Bool.eq_iff_iff]
 simp; omega
section
variable {w:World} {lb b cap id:Nat} {deal att:Int} {zs:List Int} {P:PL}
theorem ldwaits_is (k:Int) (x:Bool) (hs:P.stt<4) (h:LD w lb b cap id deal att zs P) (hx:waitsB P att k=x) :
  Calls Tryz.prog 217 #[.pointer (some ⟨lb,0,none⟩),.int .i64 k] w fun e w'=>e=.returned (.bool x)∧w'=w:=by
 subst hx; exact ldwaits_any k hs h
theorem tk_ids {n:Nat} {f:F9} (h:¬ (f.t=id∧f.d=deal∧f.a=att)):takesB n id deal att P f=false:=by
 unfold takesB; rw [decide_eq_false h]; rfl
theorem tk_wait {n:Nat} {f:F9} (h:waitsB P att f.k=false):takesB n id deal att P f=false:=by
 unfold takesB; rw [h]; simp
theorem tk_from {n:Nat} {f:F9} (h:¬ (0≤f.f∧f.f<n)):takesB n id deal att P f=false:=by
 unfold takesB; rw [decide_eq_false h]; simp
theorem tk_in {n:Nat} {f:F9} (h:f.t=id∧f.d=deal∧f.a=att) (h2:waitsB P att f.k=true) (h3:0≤f.f∧f.f<n):takesB n id deal att P f=!bit P.ans f.f.toNat:=by
 unfold takesB; rw [decide_eq_true h,h2,decide_eq_true h3]; rfl
theorem ldtakes_any (f t d k a:Int) (y:Bool) (p1 p2 p3:Int) (hn:zs.length≤7) (hs:P.stt<4) (h:LD w lb b cap id deal att zs P) :
  Calls Tryz.prog 191 #[.pointer (some ⟨lb,0,none⟩),frV f t d k a y p1 p2 p3] w fun e w'=>e=.returned (.bool (takesB zs.length id deal att P ⟨f,t,d,k,a,y,p1,p2,p3⟩))∧Below w.heap.size w w':=by
 obtain ⟨W,HW⟩:∃ W,Hid (w.alloc (.cells #[.int .i64 f,.int .i64 t,.int .i64 d,.int .i64 k,.int .i64 a,.bool y,.int .i64 p1,.int .i64 p2,.int .i64 p3] 125)=W):=⟨_,rfl⟩
 have HB:Hid (Below w.heap.size w W):=by rw [← HW.out]; exact (Below.refl _ _).alloc (Nat.le_refl _) _
 have HR:Hid (W.heap[w.heap.size]? = some (.cells #[.int .i64 f,.int .i64 t,.int .i64 d,.int .i64 k,.int .i64 a,.bool y,.int .i64 p1,.int .i64 p2,.int .i64 p3] 125 (0,0))):=by rw [← HW.out]; exact heap_alloc_new w _
 have HX:=hid (h.later HB.out)
 obtain ⟨b0,b1,b2,b3,b4,b5,b6,b7,b8⟩:=nine HR.out
 obtain ⟨c0,c1,c2,c3,c4,c5,c27,c28,c29⟩:=HX.out.cells
 have hW:=HW.out
 have HPW:=hid h.pw
 have HST:=hid hs
 clear h hs
 obtain ⟨r,HR2⟩:∃ r,Hid (takesB zs.length id deal att P ⟨f,t,d,k,a,y,p1,p2,p3⟩=r):=⟨_,rfl⟩
 rw [HR2.out]
 by_cases g1:t=(id:Int)
 ·by_cases g2:d=deal
  ·by_cases g3:a=att
   ·subst g1; subst g2; subst g3
    obtain ⟨x,HWt⟩:∃ x,Hid (waitsB P a k=x):=⟨_,rfl⟩
    cases x with
    | false =>
     obtain rfl:r=false:=HR2.out.symm.trans (tk_wait HWt.out)
     go_enter Tryz.func191,Tryz.ntmps191
     go_wp2_with fail
     go_quiet ((go_at_call 217; exact Calls.quiet_of_same (ldwaits_is k false HST.out (by first|exact HX.out|exact HX.out.later (below_drewN (Below.refl _ _) _)) HWt.out)))
     go_wp2
     go_ret
     exact ⟨rfl,below_drewN HB.out _⟩
    | true =>
     by_cases g4:f<0
     ·obtain rfl:r=false:=HR2.out.symm.trans (tk_from (by show ¬ (0≤f∧f<(zs.length:Int)); omega))
      have g4x:decide (0≤f)=false:=decide_eq_false (by omega)
      go_enter Tryz.func191,Tryz.ntmps191
      go_wp2_with fail
      go_quiet ((go_at_call 217; exact Calls.quiet_of_same (ldwaits_is k true HST.out (by first|exact HX.out|exact HX.out.later (below_drewN (Below.refl _ _) _)) HWt.out)))
      go_wp2
      go_quiet (fail)
      go_wp2
      go_ret
      exact ⟨rfl,below_drewN (below_drewN HB.out _) _⟩
     ·obtain ⟨m,rfl⟩:=Int.eq_ofNat_of_zero_le (show 0≤f by omega)
      by_cases g5:(m:Int)<(zs.length:Int)
      ·obtain rfl:r=!bit P.ans m:=HR2.out.symm.trans (tk_in ⟨rfl,rfl,rfl⟩ HWt.out ⟨by show 0≤(m:Int); omega,g5⟩)
       have hp:=(pow_le7 hn).1
       have h1:=HPW.out.lo
       have h2:=HPW.out.hi
       have hbit:Hid ((bits BinOp.and IntKind.i64 (P.ans / 2 ^ m) 1 == 0)=!bit P.ans m):=bit_and0 m h1 (by omega)
       have hm7:m<7:=by omega
       go_enter Tryz.func191,Tryz.ntmps191
       go_wp2_with fail
       go_quiet ((go_at_call 217; exact Calls.quiet_of_same (ldwaits_is k true HST.out (by first|exact HX.out|exact HX.out.later (below_drewN (Below.refl _ _) _)) HWt.out)))
       go_wp2
       go_quiet (fail)
       go_wp2
       go_ret
       exact ⟨congrArg (fun z=>Ending.returned (.bool z)) hbit.out,below_drewN (below_drewN HB.out _) _⟩
      ·obtain rfl:r=false:=HR2.out.symm.trans (tk_from (by show ¬ (0≤(m:Int)∧(m:Int)<(zs.length:Int)); omega))
       have g5':¬ m<zs.length:=by omega
       go_enter Tryz.func191,Tryz.ntmps191
       go_wp2_with fail
       go_quiet ((go_at_call 217; exact Calls.quiet_of_same (ldwaits_is k true HST.out (by first|exact HX.out|exact HX.out.later (below_drewN (Below.refl _ _) _)) HWt.out)))
       go_wp2
       go_quiet (fail)
       go_wp2
       go_ret
       exact ⟨rfl,below_drewN (below_drewN HB.out _) _⟩
   ·obtain rfl:r=false:=HR2.out.symm.trans (tk_ids (fun x=>g3 x.2.2))
    have e3:(a != att)=true:=bne_iff_ne.2 g3
    subst g1; subst g2
    go_enter Tryz.func191,Tryz.ntmps191
    go_wp2_with fail
    go_quiet (fail)
    go_wp2
    go_ret
    exact ⟨rfl,below_drewN HB.out _⟩
  ·obtain rfl:r=false:=HR2.out.symm.trans (tk_ids (fun x=>g2 x.2.1))
   have e2:(d != deal)=true:=bne_iff_ne.2 g2
   subst g1
   go_enter Tryz.func191,Tryz.ntmps191
   go_wp2_with fail
   go_quiet (fail)
   go_wp2
   go_ret
   exact ⟨rfl,below_drewN HB.out _⟩
 ·obtain rfl:r=false:=HR2.out.symm.trans (tk_ids (fun x=>g1 x.1))
  have e1:(t != (id:Int))=true:=bne_iff_ne.2 g1
  go_enter Tryz.func191,Tryz.ntmps191
  go_wp2_with fail
  go_quiet (fail)
  go_wp2
  go_ret
  exact ⟨rfl,below_drewN HB.out _⟩
end
section
variable {w:World} {lb b cap id:Nat} {deal att:Int} {zs:List Int} {P:PL}
theorem ldvote_any (y:Bool) (hn:zs.length≤7) (h:LD w lb b cap id deal att zs P) :
  Calls Tryz.prog 192 #[.pointer (some ⟨lb,0,none⟩),.bool y] w fun e w'=>∃ v,e=.returned v∧FrB w.heap.size w' v (outL id deal att zs.length (voteP zs.length P y).2)∧LD w' lb b cap id deal att zs (voteP zs.length P y).1∧Kept (In1 lb) w w':=by
 obtain ⟨c0,c1,c2,c3,c4,c5,c27,c28,c29⟩:=h.cells
 have HX:=hid h
 have hp:=(pow_le7 hn).1
 have hp2:=(pow_le7 hn).2
 obtain ⟨R,HR⟩:∃ R,Hid (voteP zs.length P y=R):=⟨_,rfl⟩
 have hlb:lb<w.heap.size:=row_ltJ h.row
 rw [HR.out]
 clear h
 cases y with
 | false =>
  obtain rfl:R=decP P 3:=HR.out.symm
  go_enter Tryz.func192,Tryz.ntmps192
  go_wp2_with fail
  refine (lddecide_any 3 HX.out hn).mono ?_
  rintro e w1 ⟨v,rfl,ho,hl,hk⟩
  have HV:=hid (And.intro ho (And.intro hl hk))
  clear ho hl hk
  go_wp2_with fail
  go_ret
  exact ⟨_,rfl,HV.out⟩
 | true =>
  by_cases g:P.ans=2 ^ zs.length - 1
  ·obtain rfl:R=preP P 4:=by rw [← HR.out]; unfold voteP; rw [if_neg (by decide),if_pos g]
   rw [g] at c5
   go_enter Tryz.func192,Tryz.ntmps192
   go_wp2_with fail
   go_quiet (fail)
   go_wp2_with fail
   refine (ldprepare_any 4 (HX.out.later (below_drewN (Below.refl _ _) _)) hn).mono ?_
   rintro e w1 ⟨v,rfl,ho,hl,hk⟩
   have HV:=hid (And.intro (ho.mono (below_drewN (Below.refl w.heap.size w) nq).size) (And.intro hl ((Kept.of_below (below_drewN (Below.refl _ _) nq)).trans hk)))
   clear ho hl hk
   go_wp2_with fail
   go_ret
   exact ⟨_,rfl,HV.out⟩
  ·obtain rfl:R=(P,none):=by rw [← HR.out]; unfold voteP; rw [if_neg (by decide),if_neg g]
   have e1:(P.ans != 2 ^ zs.length - 1)=true:=bne_iff_ne.2 g
   go_enter Tryz.func192,Tryz.ntmps192
   go_wp2_with fail
   go_quiet (fail)
   go_wp2_with fail
   go_ret
   exact ⟨_,rfl,FrB.zero _ _,HX.out.later (below_drewN (Below.refl _ _) _),Kept.of_below (below_drewN (Below.refl _ _) _)⟩
theorem ldack_any (A:Nat→Addr) (he:errW zs=0) (hE:Held3 w A) (h:LD w lb b cap id deal att zs P) :
  Calls Tryz.prog 195 #[.pointer (some ⟨lb,0,none⟩)] w fun e w'=>∃ v,e=.returned v∧FrB w.heap.size w' v (outL id deal att zs.length (ackP zs P).2)∧LD w' lb b cap id deal att zs (ackP zs P).1∧Kept (In1 lb) w w':=by
 obtain ⟨x,HX⟩:∃ x,Hid (enoughB zs P.ans=x):=⟨_,rfl⟩
 obtain ⟨R,HR⟩:∃ R,Hid (ackP zs P=R):=⟨_,rfl⟩
 rw [HR.out]
 have HL:=hid h
 have HE:=hid hE
 have HZ:=hid he
 have hn:=(errW_zero he).2.1
 clear h hE he
 go_enter Tryz.func195,Tryz.ntmps195
 go_wp2_with fail
 refine (ldenough_is A x HL.out HZ.out HE.out HX.out).mono ?_
 rintro e w1 ⟨rfl,hb⟩
 have HL1:=hid (HL.out.later hb)
 have HB:=hid hb
 clear hb
 have c27:=HL1.out.cells.2.2.2.2.2.2.1
 cases x with
 | false =>
  obtain rfl:R=(P,none):=by rw [← HR.out]; unfold ackP; rw [if_pos HX.out]
  go_wp2_with fail
  go_ret
  exact ⟨_,rfl,FrB.zero _ _,HL1.out,Kept.of_below HB.out⟩
 | true =>
  obtain rfl:R=decP P (afterI P.prep):=by rw [← HR.out]; unfold ackP; rw [if_neg (by rw [HX.out]; decide)]
  go_wp2_with (go_at_call 222; refine (tafter_any P.prep _).mono ?_; rintro e w2 ⟨rfl,rfl⟩)
  refine (lddecide_any (afterI P.prep) HL1.out hn).mono ?_
  rintro e w2 ⟨v,rfl,ho,hl,hk⟩
  have HV:=hid (And.intro (ho.mono HB.out.size) (And.intro hl ((Kept.of_below HB.out).trans hk)))
  clear ho hl hk
  go_wp2_with fail
  go_ret
  exact ⟨_,rfl,HV.out⟩
end
section
variable {w:World} {lb b cap id:Nat} {deal att:Int} {zs:List Int} {P:PL}
theorem LD.setTold (h:LD w lb b cap id deal att zs P) {i:Nat} (hi:i<7) (s:S3) :
  LD (((w.setCell ⟨lb,6+i * 3,none⟩ (.int .i64 s.p)).setCell ⟨lb,6+i * 3+1,none⟩ (.int .i64 s.r)).setCell ⟨lb,6+i * 3+2,none⟩ (.int .i64 s.a)) lb b cap id deal att zs { P with told:=toldS P.told i s }:=by
 obtain ⟨t0,t1,t2,t3,t4,t5,t6,e⟩:=seven h.pw.len
 have hP:P={ P with told:=[t0,t1,t2,t3,t4,t5,t6] }:=by rw [← e]
 have hw:PW zs.length P:=h.pw
 rw [hP] at h
 rw [e]
 have key:∀ L:List S3,L.length=7→PW zs.length { P with told:=L }:=fun L hL=>⟨hL,hw.lo,hw.hi⟩
 match i,hi with
 | 0,_=>exact ((h.set (Q:={ P with told:=[⟨s.p,t0.r,t0.a⟩,t1,t2,t3,t4,t5,t6] }) (key _ rfl) rfl).set (Q:={ P with told:=[⟨s.p,s.r,t0.a⟩,t1,t2,t3,t4,t5,t6] }) (key _ rfl) rfl).set (key _ rfl) rfl
 | 1,_=>exact ((h.set (Q:={ P with told:=[t0,⟨s.p,t1.r,t1.a⟩,t2,t3,t4,t5,t6] }) (key _ rfl) rfl).set (Q:={ P with told:=[t0,⟨s.p,s.r,t1.a⟩,t2,t3,t4,t5,t6] }) (key _ rfl) rfl).set (key _ rfl) rfl
 | 2,_=>exact ((h.set (Q:={ P with told:=[t0,t1,⟨s.p,t2.r,t2.a⟩,t3,t4,t5,t6] }) (key _ rfl) rfl).set (Q:={ P with told:=[t0,t1,⟨s.p,s.r,t2.a⟩,t3,t4,t5,t6] }) (key _ rfl) rfl).set (key _ rfl) rfl
 | 3,_=>exact ((h.set (Q:={ P with told:=[t0,t1,t2,⟨s.p,t3.r,t3.a⟩,t4,t5,t6] }) (key _ rfl) rfl).set (Q:={ P with told:=[t0,t1,t2,⟨s.p,s.r,t3.a⟩,t4,t5,t6] }) (key _ rfl) rfl).set (key _ rfl) rfl
 | 4,_=>exact ((h.set (Q:={ P with told:=[t0,t1,t2,t3,⟨s.p,t4.r,t4.a⟩,t5,t6] }) (key _ rfl) rfl).set (Q:={ P with told:=[t0,t1,t2,t3,⟨s.p,s.r,t4.a⟩,t5,t6] }) (key _ rfl) rfl).set (key _ rfl) rfl
 | 5,_=>exact ((h.set (Q:={ P with told:=[t0,t1,t2,t3,t4,⟨s.p,t5.r,t5.a⟩,t6] }) (key _ rfl) rfl).set (Q:={ P with told:=[t0,t1,t2,t3,t4,⟨s.p,s.r,t5.a⟩,t6] }) (key _ rfl) rfl).set (key _ rfl) rfl
 | 6,_=>exact ((h.set (Q:={ P with told:=[t0,t1,t2,t3,t4,t5,⟨s.p,t6.r,t6.a⟩] }) (key _ rfl) rfl).set (Q:={ P with told:=[t0,t1,t2,t3,t4,t5,⟨s.p,s.r,t6.a⟩] }) (key _ rfl) rfl).set (key _ rfl) rfl
theorem LD.told (h:LD w lb b cap id deal att zs P):SL w (some ⟨lb,6,none⟩) P.told:=by
 obtain ⟨t0,t1,t2,t3,t4,t5,t6,e⟩:=seven h.pw.len
 have hr:=h.row
 unfold pC at hr
 rw [e] at hr ⊢
 intro i hi
 refine ⟨lb,6,rfl,?_⟩
 match i,(show i<7 from hi) with
 | 0,_=>refine ⟨?_,?_,?_⟩ <;> rw [cell_of_row _ _ _ _ _ _ hr] <;> rfl
 | 1,_=>refine ⟨?_,?_,?_⟩ <;> rw [cell_of_row _ _ _ _ _ _ hr] <;> rfl
 | 2,_=>refine ⟨?_,?_,?_⟩ <;> rw [cell_of_row _ _ _ _ _ _ hr] <;> rfl
 | 3,_=>refine ⟨?_,?_,?_⟩ <;> rw [cell_of_row _ _ _ _ _ _ hr] <;> rfl
 | 4,_=>refine ⟨?_,?_,?_⟩ <;> rw [cell_of_row _ _ _ _ _ _ hr] <;> rfl
 | 5,_=>refine ⟨?_,?_,?_⟩ <;> rw [cell_of_row _ _ _ _ _ _ hr] <;> rfl
 | 6,_=>refine ⟨?_,?_,?_⟩ <;> rw [cell_of_row _ _ _ _ _ _ hr] <;> rfl
theorem LD.toldAt (h:LD w lb b cap id deal att zs P) {i:Nat} (hi:i<7):∃ x y z,w.cell? ⟨lb,6+i * 3,none⟩=some x∧w.cell? ⟨lb,6+i * 3+1,none⟩=some y∧w.cell? ⟨lb,6+i * 3+2,none⟩=some z:=by
 obtain ⟨b',off,e,h0,h1,h2⟩:=h.told i (by rw [h.pw.len]; exact hi)
 cases e
 exact ⟨_,_,_,h0,h1,h2⟩
theorem choose_is (a:Option Addr) (cap':Nat) (L:List S3) (m:Nat) (x:Int) (y:Bool) (hm:L.length=m) (hl:m≤200) (hL:SL w a L) (hx:chooseL L=(x,y)) :
  Calls Tryz.prog 221 #[.slice a m cap'] w fun e w'=>e=.returned (.tuple #[.int .i64 x,.bool y])∧Below w.heap.size w w':=by
 subst hm
 have:=choose_any a cap' L w hl hL
 rw [hx] at this
 exact this
theorem ldtell_any (A:Nat→Addr) (i:Nat) (s:S3) (hi:i<7) (he:errW zs=0) (hE:Held3 w A) (h:LD w lb b cap id deal att zs P) :
  Calls Tryz.prog 194 #[.pointer (some ⟨lb,0,none⟩),.int .i64 (i:Int),.agg #[.int .i64 s.p,.int .i64 s.r,.int .i64 s.a]] w fun e w'=>∃ v,e=.returned v∧FrB w.heap.size w' v (outL id deal att zs.length (tellP zs P i s).2)∧LD w' lb b cap id deal att zs (tellP zs P i s).1∧Kept (In1 lb) w w':=by
 obtain ⟨s1,s2,s3⟩:=s
 simp only
 obtain ⟨x,HX⟩:∃ x,Hid (enoughB zs P.ans=x):=⟨_,rfl⟩
 obtain ⟨R,HR⟩:∃ R,Hid (tellP zs P i ⟨s1,s2,s3⟩=R):=⟨_,rfl⟩
 rw [HR.out]
 obtain ⟨W,HW⟩:∃ W,Hid (w.alloc (.cells #[.int .i64 s1,.int .i64 s2,.int .i64 s3] 80)=W):=⟨_,rfl⟩
 have HB:Hid (Below w.heap.size w W):=by rw [← HW.out]; exact (Below.refl _ _).alloc (Nat.le_refl _) _
 have HRw:Hid (W.heap[w.heap.size]? = some (.cells #[.int .i64 s1,.int .i64 s2,.int .i64 s3] 80 (0,0))):=by rw [← HW.out]; exact heap_alloc_new w _
 have b0:W.cell? ⟨w.heap.size,0,none⟩=some (.int .i64 s1):=by rw [cell_of_row _ _ _ _ _ _ HRw.out]; rfl
 have b1:W.cell? ⟨w.heap.size,1,none⟩=some (.int .i64 s2):=by rw [cell_of_row _ _ _ _ _ _ HRw.out]; rfl
 have b2:W.cell? ⟨w.heap.size,2,none⟩=some (.int .i64 s3):=by rw [cell_of_row _ _ _ _ _ _ HRw.out]; rfl
 have HL:=hid (h.later HB.out)
 have HE:=hid (hE.later HB.out)
 have HZ:=hid he
 have hn:=(errW_zero he).2.1
 have hlb:lb<w.heap.size:=row_ltJ h.row
 obtain ⟨u0,u1,u2,c0,c1,c2⟩:=HL.out.toldAt hi
 have z0:=HL.out.fz (6+i * 3)
 have z1:=HL.out.fz (6+i * 3+1)
 have z2:=HL.out.fz (6+i * 3+2)
 have hW:=HW.out
 have HL2:=hid ((HL.out.setTold hi ⟨s1,s2,s3⟩).later (Below.refl _ _).drew)
 have HK2:Hid (Kept (In1 lb) W (((W.setCell ⟨lb,6+i * 3,none⟩ (.int .i64 s1)).setCell ⟨lb,6+i * 3+1,none⟩ (.int .i64 s2)).setCell ⟨lb,6+i * 3+2,none⟩ (.int .i64 s3)).drew):=((((Kept.refl _ _).set1 _ _).set1 _ _).set1 _ _).drew
 have HE2:=hid (HE.out.kept HK2.out (fun k hk=>by rw [show k=lb from hk]; exact h.glo))
 have HX2:Hid (enoughB zs ({ P with told:=toldS P.told i ⟨s1,s2,s3⟩ }:PL).ans=x):=HX.out
 clear h hE he
 have hi2:(i:Int)<7:=by omega
 go_enter Tryz.func194,Tryz.ntmps194
 go_wp2_with fail
 go_region
 all_goals go_wp2_with fail
 refine (ldenough_is A x HL2.out HZ.out HE2.out HX2.out).mono ?_
 rintro e w1 ⟨rfl,hb⟩
 have HL3:=hid (HL2.out.later hb)
 have HK3:=hid (((Kept.of_below (S:=In1 lb) HB.out).trans HK2.out).trans (Kept.of_below hb))
 clear hb b0 b1 b2 c0 c1 c2 z0 z1 z2 u0 u1 u2
 cases x with
 | false =>
  obtain rfl:R=({ P with told:=toldS P.told i ⟨s1,s2,s3⟩ },none):=by rw [← HR.out]; unfold tellP; rw [if_pos HX.out]
  go_wp2_with fail
  go_ret
  exact ⟨_,rfl,FrB.zero _ _,HL3.out,HK3.out⟩
 | true =>
  obtain ⟨⟨cx,cy⟩,HC⟩:∃ z,Hid (chooseL (toldS P.told i ⟨s1,s2,s3⟩)=z):=⟨_,rfl⟩
  have HSL:=hid HL3.out.told
  have hlb3:lb<w1.heap.size:=row_ltJ HL3.out.row
  go_wp2_with fail
  refine (choose_is (some ⟨lb,6,none⟩) _ (toldS P.told i ⟨s1,s2,s3⟩) 7 cx cy HL3.out.pw.len (by decide) HSL.out HC.out).mono ?_
  rintro e w2 ⟨rfl,hb⟩
  have HL4:=hid (HL3.out.later hb)
  have HK4:=hid (HK3.out.trans (Kept.of_below hb))
  clear hb
  cases cy with
  | true =>
   obtain rfl:R=decP { P with told:=toldS P.told i ⟨s1,s2,s3⟩ } cx:=by rw [← HR.out]; unfold tellP; rw [if_neg (by rw [HX.out]; decide),HC.out,if_pos rfl]
   go_wp2_with fail
   refine (lddecide_any cx HL4.out hn).mono ?_
   rintro e w3 ⟨v,rfl,ho,hl,hk⟩
   have HV:=hid (And.intro (ho.mono HK4.out.size) (And.intro hl (HK4.out.trans hk)))
   clear ho hl hk
   go_wp2_with fail
   go_ret
   exact ⟨_,rfl,HV.out⟩
  | false =>
   obtain rfl:R=preP { P with told:=toldS P.told i ⟨s1,s2,s3⟩ } cx:=by rw [← HR.out]; unfold tellP; rw [if_neg (by rw [HX.out]; decide),HC.out,if_neg (by simp)]
   go_wp2_with fail
   refine (ldprepare_any cx HL4.out hn).mono ?_
   rintro e w3 ⟨v,rfl,ho,hl,hk⟩
   have HV:=hid (And.intro (ho.mono HK4.out.size) (And.intro hl (HK4.out.trans hk)))
   clear ho hl hk
   go_wp2_with fail
   go_ret
   exact ⟨_,rfl,HV.out⟩
end
section
variable {w:World} {lb b cap id:Nat} {deal att:Int} {zs:List Int} {P:PL}
theorem ldtakes_is (f t d k a:Int) (y:Bool) (p1 p2 p3:Int) (x:Bool) (hn:zs.length≤7) (hs:P.stt<4) (h:LD w lb b cap id deal att zs P) (hx:takesB zs.length id deal att P ⟨f,t,d,k,a,y,p1,p2,p3⟩=x) :
  Calls Tryz.prog 191 #[.pointer (some ⟨lb,0,none⟩),frV f t d k a y p1 p2 p3] w fun e w'=>e=.returned (.bool x)∧Below w.heap.size w w':=by
 subst hx; exact ldtakes_any f t d k a y p1 p2 p3 hn hs h
structure HI (w W:World) (A:Nat→Addr) (lb b cap id:Nat) (deal att:Int) (zs:List Int) (P:PL) (f t d k a:Int) (y:Bool) (p1 p2 p3:Int):Prop where
 ld:LD W lb b cap id deal att zs P
 fr:W.heap[w.heap.size]? = some (.cells #[.int .i64 f,.int .i64 t,.int .i64 d,.int .i64 k,.int .i64 a,.bool y,.int .i64 p1,.int .i64 p2,.int .i64 p3] 125 (0,0))
 kp:Kept (In1 lb) w W
 er:Held3 W A
theorem HI.go {W V:World} {A:Nat→Addr} {Q:PL} {f t d k a:Int} {y:Bool} {p1 p2 p3:Int} (h:HI w W A lb b cap id deal att zs P f t d k a y p1 p2 p3) (hlb:lb<w.heap.size) (hl:LD V lb b cap id deal att zs Q) (hk:Kept (In1 lb) W V):HI w V A lb b cap id deal att zs Q f t d k a y p1 p2 p3 :=
 ⟨hl,hk.row h.fr (fun e=>by have:w.heap.size=lb:=e; omega),h.kp.trans hk,h.er.kept hk (fun i hi=>by rw [show i=lb from hi]; exact hl.glo)⟩
theorem HI.later {W V:World} {A:Nat→Addr} {f t d k a:Int} {y:Bool} {p1 p2 p3:Int} (h:HI w W A lb b cap id deal att zs P f t d k a y p1 p2 p3) (hlb:lb<w.heap.size) (hb:Below W.heap.size W V):HI w V A lb b cap id deal att zs P f t d k a y p1 p2 p3 :=
 h.go hlb (h.ld.later hb) (Kept.of_below hb)
theorem ldhear_any (A:Nat→Addr) (f t d k a:Int) (y:Bool) (p1 p2 p3:Int) (he:errW zs=0) (hs:P.stt<4) (hE:Held3 w A) (h:LD w lb b cap id deal att zs P) :
  Calls Tryz.prog 166 #[.pointer (some ⟨lb,0,none⟩),frV f t d k a y p1 p2 p3] w fun e w'=>∃ v,e=.returned v∧FrB w.heap.size w' v (outL id deal att zs.length (phear zs id deal att P ⟨f,t,d,k,a,y,p1,p2,p3⟩).2)∧LD w' lb b cap id deal att zs (phear zs id deal att P ⟨f,t,d,k,a,y,p1,p2,p3⟩).1∧Kept (In1 lb) w w':=by
 obtain ⟨R,HR⟩:∃ R,Hid (phear zs id deal att P ⟨f,t,d,k,a,y,p1,p2,p3⟩=R):=⟨_,rfl⟩
 rw [HR.out]
 obtain ⟨x,HT⟩:∃ x,Hid (takesB zs.length id deal att P ⟨f,t,d,k,a,y,p1,p2,p3⟩=x):=⟨_,rfl⟩
 obtain ⟨W,HW⟩:∃ W,Hid (w.alloc (.cells #[.int .i64 f,.int .i64 t,.int .i64 d,.int .i64 k,.int .i64 a,.bool y,.int .i64 p1,.int .i64 p2,.int .i64 p3] 125)=W):=⟨_,rfl⟩
 have HB:Hid (Below w.heap.size w W):=by rw [← HW.out]; exact (Below.refl _ _).alloc (Nat.le_refl _) _
 have hlbw:lb<w.heap.size:=row_ltJ h.row
 have H1:Hid (HI w W A lb b cap id deal att zs P f t d k a y p1 p2 p3):=⟨h.later HB.out,by rw [← HW.out]; exact heap_alloc_new w _,Kept.of_below HB.out,hE.later HB.out⟩
 have HZ:=hid he
 have HST:=hid hs
 have hn:=(errW_zero he).2.1
 obtain ⟨b0,b1,b2,b3,b4,b5,b6,b7,b8⟩:=nine H1.out.fr
 have hW:=HW.out
 clear h hE he hs
 go_enter Tryz.func166,Tryz.ntmps166
 go_wp2_with fail
 refine (ldtakes_is f t d k a y p1 p2 p3 x hn HST.out H1.out.ld HT.out).mono ?_
 rintro e w1 ⟨rfl,hb⟩
 have H2:=hid (H1.out.later hlbw hb)
 clear hb b0 b1 b2 b3 b4 b5 b6 b7 b8 H1 HB HW hW
 cases x with
 | false =>
  obtain rfl:R=(P,none):=by rw [← HR.out]; unfold phear; rw [if_neg (by rw [HT.out]; decide)]
  go_wp2_with fail
  go_ret
  exact ⟨_,rfl,FrB.zero _ _,H2.out.ld,H2.out.kp⟩
 | true =>
  obtain ⟨-,-,⟨q0,q1⟩,-⟩:=takesB_in HT.out
  simp only at q0 q1
  obtain ⟨m,rfl⟩:=Int.eq_ofNat_of_zero_le q0
  have hm:m<zs.length:=by omega
  have hm7:m<7:=by omega
  obtain ⟨b0,b1,b2,b3,b4,b5,b6,b7,b8⟩:=nine H2.out.fr
  have c5:=H2.out.ld.cells.2.2.2.2.2.1
  have z5:=H2.out.ld.fz 5
  have hbd:=ansS_bd hn H2.out.ld.pw.lo H2.out.ld.pw.hi hm
  have HLn:=hid (H2.out.ld.setAns (ansS P.ans m) hbd.1 hbd.2)
  have hlb1:lb<w1.heap.size:=row_ltJ H2.out.ld.row
  have hp:=(pow_le7 (n:=m) (by omega)).1
  have hp2:=(pow_le7 (n:=m) (by omega)).2
  unfold ansS at HLn
  have H3:=hid (H2.out.go hlbw (HLn.out.later (Below.refl _ _).drew) ((Kept.refl _ _).set1 _ _).drew)
  have HP:Hid (phear zs id deal att P ⟨(m:Int),t,d,k,a,y,p1,p2,p3⟩=takenP zs P ⟨(m:Int),t,d,k,a,y,p1,p2,p3⟩):=by unfold Hid phear; rw [if_pos HT.out]
  have HN:Hid (noteP P ⟨(m:Int),t,d,k,a,y,p1,p2,p3⟩={ P with ans:=bits .or .i64 P.ans (2 ^ m) }):=rfl
  by_cases g2:k=2
  ·subst g2
   obtain rfl:R=voteP zs.length { P with ans:=bits .or .i64 P.ans (2 ^ m) } y:=by rw [← HR.out,HP.out]; unfold takenP; rw [if_pos rfl]; rfl
   go_wp2_with fail
   go_region
   all_goals go_wp2_with fail
   refine (ldvote_any y hn H3.out.ld).mono ?_
   rintro e w2 ⟨v,rfl,ho,hl,hk⟩
   have HV:=hid (And.intro (ho.mono H3.out.kp.size) (And.intro hl (H3.out.kp.trans hk)))
   clear ho hl hk
   go_wp2_with fail
   go_ret
   exact ⟨_,rfl,HV.out⟩
  ·have e2:(k == 2)=false:=beq_eq_false_iff_ne.2 g2
   go_wp2_with fail
   go_region
   all_goals go_wp2_with fail
   refine (ldsee_any p2 H3.out.ld).mono ?_
   rintro e w2 ⟨rfl,hl,hk⟩
   have H4:=hid (H3.out.go hlbw hl hk)
   clear hl hk b0 b1 b2 b3 b4 b5 b6 b7 b8 c5 z5
   obtain ⟨b0,b1,b2,b3,b4,b5,b6,b7,b8⟩:=nine H4.out.fr
   have z4:=H4.out.ld.fz 4
   have c4:=H4.out.ld.cells.2.2.2.2.1
   have hlb2:lb<w2.heap.size:=row_ltJ H4.out.ld.row
   cases y with
   | false =>
    obtain rfl:R=({ seeP { P with ans:=bits .or .i64 P.ans (2 ^ m) } p2 with stt:=3 },none):=by rw [← HR.out,HP.out]; unfold takenP; rw [if_neg (by exact g2),if_pos rfl]; rfl
    have HQ:=hid (H4.out.go hlbw (H4.out.ld.setSt 3) ((Kept.refl _ _).set1 _ _))
    rw [stP3] at HQ
    go_wp2_with fail
    go_ret
    exact ⟨_,rfl,FrB.zero _ _,HQ.out.ld,HQ.out.kp⟩
   | true =>
    by_cases g4:k=4
    ·subst g4
     obtain rfl:R=tellP zs (seeP { P with ans:=bits .or .i64 P.ans (2 ^ m) } p2) m ⟨p1,p2,p3⟩:=by rw [← HR.out,HP.out]; unfold takenP; rw [if_neg (by simp),if_neg (by simp),if_pos rfl]; rfl
     go_wp2_with fail
     refine (ldtell_any A m ⟨p1,p2,p3⟩ hm7 HZ.out H4.out.er H4.out.ld).mono ?_
     rintro e w3 ⟨v,rfl,ho,hl,hk⟩
     have HV:=hid (And.intro (ho.mono H4.out.kp.size) (And.intro hl (H4.out.kp.trans hk)))
     clear ho hl hk
     go_wp2_with fail
     go_ret
     exact ⟨_,rfl,HV.out⟩
    ·have e4:(k == 4)=false:=beq_eq_false_iff_ne.2 g4
     obtain rfl:R=ackP zs (seeP { P with ans:=bits .or .i64 P.ans (2 ^ m) } p2):=by rw [← HR.out,HP.out]; unfold takenP; rw [if_neg (by exact g2),if_neg (by simp),if_neg (by exact g4)]; rfl
     go_wp2_with fail
     refine (ldack_any A HZ.out H4.out.er H4.out.ld).mono ?_
     rintro e w3 ⟨v,rfl,ho,hl,hk⟩
     have HV:=hid (And.intro (ho.mono H4.out.kp.size) (And.intro hl (H4.out.kp.trans hk)))
     clear ho hl hk
     go_wp2_with fail
     go_ret
     exact ⟨_,rfl,HV.out⟩
end
theorem sl_nil (b off n cap:Nat) (w:World):(binOp .eql 34 (.slice (some ⟨b,off,none⟩) n cap) (.slice none 0 0)).run Tryz.prog w=.ok (.bool false) w:=by
 rfl
theorem clone_any (v:Value) (zs:List Int) (w:World) (hv:IsSl w v zs) (h1:1≤zs.length) (hl:zs.length≤30) :
  Calls Tryz.prog 154 #[v] w fun e w'=>∃ v',e=.returned v'∧w'.ownsRow w.heap.size 3 1 v' zs.length (zs.map (Value.int .i64))∧Below w.heap.size w w':=by
 obtain ⟨i0,hi,hz0,hz1,hz2⟩:=info_parts Tryz.infoInt
 obtain ⟨a,cap,rfl,hm,-,hc⟩:=hv
 have HM:=hid hm
 obtain ⟨b,off,rfl,hcc⟩:=hc (by omega)
 have HC:Hid (∀ o:Obj,∀ j u,(zs.map (Value.int .i64))[j]? = some u→(w.alloc o).cell? ((⟨b,off,none⟩:Addr).add j)=some u):=by
  intro o j u hj
  rw [List.getElem?_map] at hj
  rcases Nat.lt_or_ge j zs.length with h|h
  ·rw [List.getElem?_eq_getElem h] at hj
   simp at hj
   subst hj
   have:=hcc j h
   rw [getD_lt zs j h] at this
   rw [addr_add]; exact cell_alloc _ this
  ·rw [List.getElem?_eq_none h] at hj; cases hj
 clear hc hcc
 have HO:Hid (∀ u∈zs.map (Value.int .i64),u.oneCell'=true):=by
  intro u hu
  obtain ⟨n,-,rfl⟩:=List.mem_map.1 hu
  rfl
 have HOw:Hid ((w.alloc (.cells #[] 3)).ownsRow w.heap.size 3 1 (.slice (some ⟨w.heap.size,0,none⟩) 0 0) 0 []):=World.ownsRow_lit w #[] 0 (Nat.le_refl _) (by unfold maxLen; omega) rfl
 have hnil:=sl_nil b off zs.length cap
 go_enter Tryz.func154,Tryz.ntmps154
 go_wp2_with (at_builtin; refine wpList_append_own _ rfl _ _ 34 rfl w.heap.size 3 i0 (.int .i64 0) 1 8 Tryz.underlying34 hi hz0 hz1 hz2 rfl (by decide) _ 0 [] rfl HOw.out ⟨b,off,none⟩ zs.length cap (zs.map (Value.int .i64)) rfl (by simp) (HC.out _) HO.out (by have:=HM.out; omega) (by omega) (by simp) ?_)
 intro v' w1 hown hgrow _
 have ho2:w1.ownsRow w.heap.size 3 1 v' zs.length (zs.map (Value.int .i64)):=by simpa using hown
 clear hown
 have HB:Hid (Below w.heap.size w w1):=((Below.refl _ _).alloc (Nat.le_refl _) (.cells #[] 3)).grown hgrow (by simp) (fun j hj=>(HOw.out.lt j hj).1)
 clear hgrow
 go_wp2_with fail
 go_ret
 exact ⟨_,rfl,ho2,HB.out⟩
def P0:PL:=⟨0,0,[⟨0,0,0⟩,⟨0,0,0⟩,⟨0,0,0⟩,⟨0,0,0⟩,⟨0,0,0⟩,⟨0,0,0⟩,⟨0,0,0⟩],0,0,false⟩
theorem P0_w (n:Nat):PW n P0:=⟨rfl,Int.le_refl _,Int.pow_pos (by decide)⟩
theorem check_ok (A:Nat→Addr) (v:Value) (zs:List Int) (w:World) (hv:IsSl w v zs) (hE:Held3 w A) (he:errW zs=0) :
  Calls Tryz.prog 153 #[v] w fun e w'=>e=.returned .nilIface∧w'=w:=by
 have:=check_any A v zs w hv hE
 rw [he] at this
 exact this
theorem ldbegin_ok (A:Nat→Addr) (v:Value) (zs:List Int) (id:Nat) (deal att:Int) (w:World) (hv:IsSl w v zs) (hE:Held3 w A) (he:errW zs=0) (hid':id<zs.length) (h0:0≤deal) (h1:deal<6) :
  Calls Tryz.prog 157 #[.int .i64 (id:Int),.int .i64 deal,v,.int .i64 att] w fun e w'=>∃ lb b cap,e=.returned (.tuple #[.pointer (some ⟨lb,0,none⟩),.nilIface])∧LD w' lb b cap id deal att zs P0∧Below w.heap.size w w'∧w.heap.size≤b:=by
 have HS:=hid hv
 have HE:=hid hE
 have HZ:=hid he
 obtain ⟨q1,q2,-,-⟩:=errW_zero he
 have hlen:(id:Int)<(zs.length:Int):=by omega
 have g1:¬ (zs.length:Int)≤(id:Int):=by omega
 obtain ⟨a,cap0,rfl,-,-,-⟩:=hv
 clear hE he
 go_enter Tryz.func157,Tryz.ntmps157
 go_wp2_with (go_at_call 153; refine (check_ok A _ zs _ HS.out HE.out HZ.out).mono ?_; rintro e w1 ⟨rfl,rfl⟩)
 refine (clone_any _ zs _ HS.out q1 (by omega)).mono ?_
 rintro e w1 ⟨v',rfl,ho,hb⟩
 rcases ho.2 with ⟨-,hz⟩|⟨g,cap,cur,rfl,hg,hgg,hle,hcap,hsz,htk⟩
 ·omega
 have HOw:=hid ho
 have HB:=hid hb
 clear ho hb hgg hle hcap hsz htk
 go_wp2_with fail
 go_ret2
 have hg2:g<w1.heap.size:=by
  rcases HOw.out.2 with ⟨hx,-⟩|⟨g',cap',cur',hx,-,hgg',-⟩
  ·cases hx
  ·cases hx
   exact row_ltJ hgg'
 refine ⟨w1.heap.size,g,cap,rfl,⟨heap_alloc_new w1 _,fun i hi=>cell_alloc _ ?_,hg2,P0_w _,fun j=>Nat.lt_of_lt_of_le (gW_lt HE.out j) HB.out.size⟩,HB.out.alloc HB.out.size _,hg⟩
 have:=HOw.out.cellAt i (by omega)
 rw [Nat.zero_add,this]
 simp [hi]
theorem ldBegin_ok (A:Nat→Addr) (v:Value) (zs:List Int) (id:Nat) (deal:Int) (w:World) (hv:IsSl w v zs) (hE:Held3 w A) (he:errW zs=0) (hid':id<zs.length) (h0:0≤deal) (h1:deal<6) :
  Calls Tryz.prog 103 #[.int .i64 (id:Int),.int .i64 deal,v] w fun e w'=>∃ lb b cap,e=.returned (.tuple #[.pointer (some ⟨lb,0,none⟩),.nilIface])∧LD w' lb b cap id deal 0 zs P0∧Below w.heap.size w w'∧w.heap.size≤b:=by
 have HC:=hid (ldbegin_ok A v zs id deal 0 w hv hE he hid' h0 h1)
 obtain ⟨a,cap0,rfl,-,-,-⟩:=hv
 clear hE he
 go_enter Tryz.func103,Tryz.ntmps103
 go_wp2_with fail
 refine HC.out.mono ?_
 rintro e w1 ⟨lb,b,cap,rfl,hl,hb,hg⟩
 have HL:=hid (And.intro hl (And.intro hb hg))
 clear hl hb hg
 go_wp2_with fail
 go_ret2
 exact ⟨lb,b,cap,rfl,HL.out⟩
theorem ldTry_ok (A:Nat→Addr) (v:Value) (zs:List Int) (id:Nat) (deal att:Int) (w:World) (hv:IsSl w v zs) (hE:Held3 w A) (he:errW zs=0) (hid':id<zs.length) (h0:0≤deal) (h1:deal<6) (a0:1≤att) (a1:att≤1048576) :
  Calls Tryz.prog 164 #[.int .i64 (id:Int),.int .i64 deal,v,.int .i64 att] w fun e w'=>∃ lb b cap,e=.returned (.tuple #[.pointer (some ⟨lb,0,none⟩),.nilIface])∧LD w' lb b cap id deal att zs P0∧Below w.heap.size w w'∧w.heap.size≤b:=by
 have HC:=hid (ldbegin_ok A v zs id deal att w hv hE he hid' h0 h1)
 obtain ⟨a,cap0,rfl,-,-,-⟩:=hv
 have g1:¬ att<1:=by omega
 have g2:¬ 1048576<att:=by omega
 clear hE he
 go_enter Tryz.func164,Tryz.ntmps164
 go_wp2_with fail
 refine HC.out.mono ?_
 rintro e w1 ⟨lb,b,cap,rfl,hl,hb,hg⟩
 have HL:=hid (And.intro hl (And.intro hb hg))
 clear hl hb hg
 go_wp2_with fail
 go_ret2
 exact ⟨lb,b,cap,rfl,HL.out⟩
theorem ldState_any {w:World} {lb b cap id:Nat} {deal att:Int} {zs:List Int} {P:PL} (h:LD w lb b cap id deal att zs P) :
  Calls Tryz.prog 133 #[.pointer (some ⟨lb,0,none⟩)] w fun e w'=>e=.returned (.string (stP P.stt))∧w'=w:=by
 have c4:=h.cells.2.2.2.2.1
 clear h
 go_enter Tryz.func133,Tryz.ntmps133
 go_wp2_with fail
 go_ret
 exact ⟨rfl,rfl⟩
theorem ldSeen_any {w:World} {lb b cap id:Nat} {deal att:Int} {zs:List Int} {P:PL} (h:LD w lb b cap id deal att zs P) :
  Calls Tryz.prog 189 #[.pointer (some ⟨lb,0,none⟩)] w fun e w'=>e=.returned (.int .i64 P.seen)∧w'=w:=by
 have c28:=h.cells.2.2.2.2.2.2.2.1
 clear h
 go_enter Tryz.func189,Tryz.ntmps189
 go_wp2_with fail
 go_ret
 exact ⟨rfl,rfl⟩
theorem ldStart0_any {w:World} {lb b cap id:Nat} {deal:Int} {zs:List Int} {P:PL} (hn:zs.length≤7) (h:LD w lb b cap id deal 0 zs P) :
  Calls Tryz.prog 105 #[.pointer (some ⟨lb,0,none⟩)] w fun e w'=>∃ v,e=.returned v∧FrB w.heap.size w' v (toL id deal 1 0 0 zs.length)∧Below w.heap.size w w':=by
 have c2:=h.cells.2.2.1
 have H:=hid h
 clear h
 go_enter Tryz.func105,Tryz.ntmps105
 go_wp2_with fail
 refine (ldtoAll_any lb b cap id deal 0 zs P 1 0 w H.out hn).mono ?_
 rintro e w1 ⟨v,rfl,ho,hb⟩
 have HV:=hid (And.intro ho hb)
 clear ho hb
 go_wp2_with fail
 go_ret
 exact ⟨_,rfl,HV.out⟩
def nameO:List Bs:=[[115,105,116,101,115],[98,101,103,105,110],[114,101,102,117,115,101],[116,105,99,107],[103,111],[108,111,115,101],[116,119,105,99,101],[108,105,110,107],[98,114,101,97,107],[99,117,116],[100,111,119,110],[117,112],[99,104,101,99,107],[97,108,108],[102,108,121],[115,116,97,116,101],[108,101,97,100],[105,115],[101,118,101,110,116,115]]
def formO:List Bs:=[[78],[83,68],[83,68],[83],[78],[78],[78],[83,83],[83,83],[83,78],[83],[83],[],[],[],[83,68],[83,68],[83],[]]
def cmdO (x:Bs):Option Nat:=nameO.findIdx? (fun y=>y == x)
def formB (i:Nat):ByteArray:=⟨(formO.getD i []).toArray⟩
def fnO (i:Nat):Nat:=[36,38,40,42,44,46,48,50,52,53,55,57,59,63,66,68,70,72,74].getD i 0
def RunO (w:World) (pb bb i:Nat) (f:Value):Prop :=
 (i=0∧f=.func (.func 36) #[ptrO pb] #[]) ∨
 (1≤i∧i≤12∧∃ x y z,f=.func (.func 128) #[] #[ptrO x,ptrO y]∧BoxO w x (ptrO pb)∧BoxO w y (cloO 99 z)∧BoxO w z (cloO (fnO i) bb)∧pb<x∧pb<y∧pb<z) ∨
 (13≤i∧∃ x y,f=.func (.func 128) #[] #[ptrO x,ptrO y]∧BoxO w x (ptrO pb)∧BoxO w y (cloO (fnO i) bb)∧pb<x∧pb<y)
def EntO (w:World) (pb bb i:Nat) (v:Value):Prop:=∃ f,v=.agg #[.string (formB i),.bool (i == 0),f]∧RunO w pb bb i f
def StayO (pb:Nat) (w w':World):Prop:=∀ b v,pb<b→BoxO w b v→BoxO w' b v
theorem EntO.stay {w w':World} {pb bb i:Nat} {v:Value} (h:EntO w pb bb i v) (hs:StayO pb w w'):EntO w' pb bb i v:=by
 obtain ⟨f,hv,hr⟩:=h
 refine ⟨f,hv,?_⟩
 rcases hr with h|⟨h1,h2,x,y,z,e,bx,by_,bz,lx,ly,lz⟩|⟨h1,x,y,e,bx,by_,lx,ly⟩
 ·exact .inl h
 ·exact .inr (.inl ⟨h1,h2,x,y,z,e,hs _ _ lx bx,hs _ _ ly by_,hs _ _ lz bz,lx,ly,lz⟩)
 ·exact .inr (.inr ⟨h1,x,y,e,hs _ _ lx bx,hs _ _ ly by_,lx,ly⟩)
def elO (v:Value):Option (DataW Value×List MemPlace):=some (.held v,[])
theorem tStr_keyed:Maps.Keyed Tryz.prog 9:=Maps.string_keyed Tryz.underlying9
theorem box_map {w:World} {b:Nat} {v:Value} {es:Array MapEntry} {c:Nat} {mb:Nat} (h:BoxO w b v) (hm:w.heap[mb]? = some (.map es c)):b≠mb:=fun e=>by
 subst e
 simp [BoxO,World.cell?,hm] at h
theorem orAll:((List.range 128).all fun s=>(List.range 7).all fun q=>Nat.testBit s q || decide (s ||| 2 ^ q=s+2 ^ q))=true:=by decide +kernel
theorem ansS_add {a:Int} {m:Nat} (h0:0≤a) (h1:a<128) (hm:m<7) (hb:bit a m=false):ansS a m=a+2 ^ m:=by
 obtain ⟨n,rfl⟩:=Int.eq_ofNat_of_zero_le h0
 have hn:n<128:=by omega
 have h:=List.all_eq_true.1 (List.all_eq_true.1 orAll n (List.mem_range.2 hn)) m (List.mem_range.2 hm)
 unfold bit at hb
 rw [Int.toNat_natCast] at hb
 rw [hb,Bool.false_or] at h
 have h2:=of_decide_eq_true h
 have h3:(2:Nat) ^ m<9223372036854775808:=Nat.lt_of_lt_of_le (Nat.pow_lt_pow_right (by decide) hm) (by decide)
 unfold ansS
 rw [pow_nat,bits_or_nat n (2 ^ m) (by omega) h3,h2,Int.natCast_add]
theorem waits_ways {P:PL} {att k:Int} (h:waitsB P att k=true):(k=2∧P.stt=0∧att=0) ∨ (k=4∧P.stt=0∧0<att) ∨ (k=6∧P.stt=1):=by
 unfold waitsB at h
 simp at h
 omega
end Go.Proofs.YtaehdgemkafinaaGreatDoor
