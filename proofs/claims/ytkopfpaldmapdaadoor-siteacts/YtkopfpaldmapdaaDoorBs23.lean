/-
  On the way to SActsProof: JO JQ JS RVP S5 S7.
-/
import Derived.Test.YtkopfpaldmapdaaDoorBs21
import Derived.Maps.OwnSet
set_option maxHeartbeats 8000000
set_option maxRecDepth 100000
namespace Go.Proofs.YtkopfpaldmapdaaDoor
open Go.RowKit
section
variable {B:ByteArray} {l:Int} {d:Nat} {s:St}
theorem nextK_le (hd:d<6) (m:Nat):nextK d m<12:=by unfold nextK; omega
theorem put_out (hB:216≤B.size) (hd:d<6) (hs:s.fits) (hn:(dealL B.data.toList d).1+1<4294967295) (hl:l≠-2) :
  ((putIn (dealL B.data.toList) B l d s).c=0∧(putIn (dealL B.data.toList) B l d s).over=false∧(putIn (dealL B.data.toList) B l d s).e=dealL (putIn (dealL B.data.toList) B l d s).b.data.toList∧(putIn (dealL B.data.toList) B l d s).l≠-2 ∧
   (dealL (putIn (dealL B.data.toList) B l d s).b.data.toList d).2=s∧(∀ e,e≠d→dealL (putIn (dealL B.data.toList) B l d s).b.data.toList e=dealL B.data.toList e)∧(dealL (putIn (dealL B.data.toList) B l d s).b.data.toList d).1≤(dealL B.data.toList d).1+1) ∨
  ((putIn (dealL B.data.toList) B l d s).c=6∧(putIn (dealL B.data.toList) B l d s).over=true∧(putIn (dealL B.data.toList) B l d s).l=-2∧dealL (putIn (dealL B.data.toList) B l d s).b.data.toList=dealL B.data.toList):=by
 have hk:=nextK_le hd (dealL B.data.toList d).1
 have ho:=fill3_out (B:=B) (l:=l) (k:=nextK d (dealL B.data.toList d).1) (n:=(dealL B.data.toList d).1+1) (s:=s) (by omega)
 unfold putIn
 by_cases h1:(dealL B.data.toList d).2=s
 ·rw [if_pos h1]
  exact .inl ⟨rfl,rfl,rfl,hl,h1,fun _ _=>rfl,by show (dealL B.data.toList d).1≤_; omega⟩
 ·rw [if_neg h1,if_neg (by omega)]
  rcases ho with ⟨c,z,o⟩|⟨c,t,o⟩
  ·rw [if_pos c]
   have e1:=deal_done (by omega) hs z
   have e2:∀ e,e≠d→dealL (fill3 B l (nextK d (dealL B.data.toList d).1) ((dealL B.data.toList d).1+1) s).b.data.toList e=dealL B.data.toList e:=fun e he=>deal_other z.1 he
   refine .inl ⟨rfl,rfl,?_,o,?_,e2,?_⟩
   ·funext e
    show updE _ d _ e=_
    unfold updE
    by_cases he:e=d
    ·subst he; rw [if_pos rfl]; exact e1.symm
    ·rw [if_neg he]; exact (e2 e he).symm
   ·show (dealL _ d).2=s; rw [e1]
   ·show (dealL _ d).1≤_; rw [e1]; exact Nat.le_refl _
  ·rw [if_neg (by omega)]
   refine .inr ⟨c,rfl,o,?_⟩
   funext e
   by_cases he:e=d
   ·subst he; exact deal_torn (by rw [← size_list]; omega) t
   ·exact deal_other t.1 he
theorem put_free (hB:216≤B.size) (hd:d<6) (hn:(dealL B.data.toList d).1+1<4294967295):(putIn (dealL B.data.toList) B (-1) d s).c=0∧(putIn (dealL B.data.toList) B (-1) d s).l=-1:=by
 have hk:=nextK_le hd (dealL B.data.toList d).1
 have ho:=fill3_free (B:=B) (k:=nextK d (dealL B.data.toList d).1) (n:=(dealL B.data.toList d).1+1) (s:=s) (by omega)
 unfold putIn
 by_cases h1:(dealL B.data.toList d).2=s
 ·rw [if_pos h1]; exact ⟨rfl,rfl⟩
 ·rw [if_neg h1,if_neg (by omega),if_pos ho.1]; exact ⟨rfl,ho.2⟩
end
theorem slot_zero (n k:Nat) (h:18 * (k+1)≤n):(slotL (zeroB n).data.toList k)[17]? = some 0:=by
 have e:(zeroB n).data.toList=List.replicate n 0:=by simp [zeroB]
 rw [slotL_get,if_pos (by decide),e,List.getElem?_replicate,if_pos (by omega)]
theorem deal_zero (n d:Nat) (h:36 * (d+1)≤n):dealL (zeroB n).data.toList d=(0,St.zero):=by
 have hz:∀ k,18 * (k+1)≤n→heldL k (slotL (zeroB n).data.toList k)=(0,St.zero):=fun k hk=>heldL_torn k _ 0 (last_of_17 (slotL_length (by rw [← size_list,zeroB_size]; exact hk)) (slot_zero n k hk)) (by decide)
 unfold dealL
 rw [hz _ (by omega),hz _ (by omega),if_neg (Nat.lt_irrefl _)]
section
variable {w0 w w1 w2:World} {j p q:Nat} {E:Nat→Nat×St} {over:Bool} {B:ByteArray} {l:Int} {A:Nat→Addr}
theorem jp_new (hb:Below w0.heap.size w0 w1) (h:Pl w1 p q B l) (hp:w0.heap.size≤p) (hq:w0.heap.size≤q) (hj:JR w2 j p E over) (hb2:Below w1.heap.size w1 w2) (hj0:w1.heap.size≤j) (h0:-2≤l) (h1:l≤9223372036854775807) (hs:B.size≤1000) (h6:216≤B.size):JP w0 w2 j p q E over B l:=by
 have e1:=row_lt h.head
 have e2:=row_lt h.row
 exact ⟨hb.trans (hb2.mono hb.size),hj,h.kept (S:=fun _=>False) (Kept.of_below hb2) (fun x=>x) (fun x=>x),by omega,by omega,Nat.le_trans hb.size hj0,hp,hq,h0,h1,hs,h6⟩
end
def sts (B:ByteArray):Nat→St:=fun d=>(dealL B.data.toList d).2
theorem st_neq (x0 x1 x2:Int) (w:World) :
  (binOp .neq 34 (.agg #[.int .i64 x0,.int .i64 x1,.int .i64 x2]) (.agg #[.int .i64 x0,.int .i64 x1,.int .i64 x2])).run Tryd.prog w=.ok (.bool false) w:=by
 go_simp
theorem get_is (j p d:Nat) (E:Nat→Nat×St) (over:Bool) (h1 h2 h3:Nat) (w:World) (h:JR w j p E over) (hd:d<6) (hs:(E d).2=⟨h1,h2,h3⟩) :
  Calls Tryd.prog 40 #[.pointer (some ⟨j,0,none⟩),.int .i64 (d:Int)] w fun e w'=>e=.returned (.tuple #[.agg #[.int .i64 (h1:Int),.int .i64 (h2:Int),.int .i64 (h3:Int)],.nilIface])∧Below w.heap.size w w':=by
 have:=get_ok j p d E over w h hd
 rw [hs] at this
 exact this
theorem get_isnt (A:Nat→Addr) (v:Value) (d:Int) (w:World) (hE:HeldE w A) (hd:¬ (0≤d∧d<6)) :
  Calls Tryd.prog 40 #[v,.int .i64 d] w fun e w'=>e=.returned (.tuple #[.agg #[.int .i64 0,.int .i64 0,.int .i64 0],.iface 189 (.pointer (some (A 1)))])∧Below w.heap.size w w':=get_bad A v d w hE hd
end Go.Proofs.YtkopfpaldmapdaaDoor
namespace Go.Proofs.YtkopfpaldmapdaaDoor
open Go.RowKit
def pOut (E:Nat→Nat×St) (over:Bool) (B:ByteArray) (l:Int) (dl ph pr a:Int):POut :=
 if over=true then ⟨6,E,true,B,l⟩ else if (0≤dl∧dl<6)∧fitsB ph pr a=true then putIn E B l dl.toNat ⟨ph.toNat,pr.toNat,a.toNat⟩ else ⟨2,E,false,B,l⟩
section
variable {w0 w w':World} {j p q m gn gs r:Nat} {E:Nat→Nat×St} {over dead:Bool} {B:ByteArray} {l:Int} {A:Nat→Addr}
theorem in_nat {dl ph pr a:Int} (h:(0≤dl∧dl<6)∧fitsB ph pr a=true):∃ d h1 h2 h3:Nat,dl=d∧ph=h1∧pr=h2∧a=h3:=by
 obtain ⟨b1,b2,b3,b4,b5,b6⟩:=of_decide_eq_true h.2
 exact ⟨dl.toNat,ph.toNat,pr.toNat,a.toNat,by omega,by omega,by omega,by omega⟩
theorem jput_any (dl ph pr a:Int) (o:POut) (ho:pOut E over B l dl ph pr a=o) (h:JP w0 w j p q E over B l) (hE:HeldE w0 A) (hn:∀ d,d<6→(E d).1<4294967296) :
  Calls Tryd.prog 44 #[.pointer (some ⟨j,0,none⟩),.int .i64 dl,.agg #[.int .i64 ph,.int .i64 pr,.int .i64 a]] w fun e w'=>e=.returned (ev A o.c)∧JP w0 w' j p q o.e o.over o.b o.l∧Kept (In3 j p q) w w':=by
 subst ho
 unfold pOut
 cases over with
 | true=>rw [if_pos rfl]; exact put_over A w0 w j p q E B l dl ph pr a h hE
 | false =>
  rw [if_neg (by decide)]
  by_cases hb:(0≤dl∧dl<6)∧fitsB ph pr a=true
  ·rw [if_pos hb]
   obtain ⟨d,h1,h2,h3,rfl,rfl,rfl,rfl⟩:=in_nat hb
   simp only [Int.toNat_natCast]
   exact put_in A w0 w j p q E B l d ⟨h1,h2,h3⟩ h hE (by omega) hb.2 (hn d (by omega))
  ·rw [if_neg hb]; exact put_bound A w0 w j p q E B l dl ph pr a h hE hb
theorem putIn_c (E:Nat→Nat×St) (B:ByteArray) (l:Int) (d:Nat) (s:St):(putIn E B l d s).c≤9:=by
 have h1:(fill1 B l (nextK d (E d).1)).c≤9:=by
  unfold fill1
  split
  ·show 6≤9; omega
  ·split
   ·exact Nat.zero_le _
   ·exact wC_le _ _ _ _
 have h2:(fill2 B l (nextK d (E d).1) ((E d).1+1) s).c≤9:=by
  unfold fill2
  split
  ·exact wC_le _ _ _ _
  ·exact h1
 have h3:(fill3 B l (nextK d (E d).1) ((E d).1+1) s).c≤9:=by
  unfold fill3
  split
  ·exact wC_le _ _ _ _
  ·exact h2
 unfold putIn
 split
 ·exact Nat.zero_le _
 ·split
  ·show 5≤9; omega
  ·split
   ·exact Nat.zero_le _
   ·exact h3
theorem pOut_c (dl ph pr a:Int):(pOut E over B l dl ph pr a).c≤9:=by
 unfold pOut
 split
 ·show 6≤9; omega
 ·split
  ·exact putIn_c _ _ _ _ _
  ·show 2≤9; omega
theorem pOut_n (dl ph pr a:Int) (hn:∀ d,d<6→(E d).1<4294967296):∀ d,d<6→((pOut E over B l dl ph pr a).e d).1<4294967296:=by
 intro d hd
 unfold pOut
 split
 ·exact hn d hd
 ·split
  ·rename_i h2
   unfold putIn
   split
   ·exact hn d hd
   ·split
    ·exact hn d hd
    ·rename_i h4
     split
     ·show (updE E dl.toNat _ d).1<_
      unfold updE
      split
      ·have:=hn dl.toNat (by omega)
       show (E dl.toNat).1+1<_
       omega
      ·exact hn d hd
     ·exact hn d hd
  ·exact hn d hd
theorem deal_lt (L:List UInt8) (d:Nat):(dealL L d).1<4294967296:=by
 unfold dealL
 split
 all_goals first|exact heldL_lt _ _|(split <;> exact heldL_lt _ _)
theorem JP.far {S:Nat→Prop} (h:JP w0 w j p q E over B l) (k:Kept S w w') (hS:∀ x,S x→w0.heap.size≤x) (hd:∀ x,In3 j p q x→¬ S x):JP w0 w' j p q E over B l :=
 ⟨k.below h.bel.size hS h.bel,k.row h.jr (hd j (.inl rfl)),h.pl.kept k (hd p (.inr (.inl rfl))) (hd q (.inr (.inr rfl))),h.jp,h.jq,h.j0,h.p0,h.q0,h.l0,h.l1,h.sz,h.s6⟩
theorem jon_jp (h:JP w0 w j p q E over B l) :
  Calls Tryd.prog 13 #[.pointer (some ⟨p,0,none⟩)] w fun e w'=>e=.returned (.tuple #[])∧JP w0 w' j p q E over B (-1)∧Kept (In3 j p q) w w':=by
 refine (pon_any p q B l w h.pl).mono ?_
 rintro e w' ⟨rfl,hp,hk⟩
 exact ⟨rfl,h.plate hk hp (by omega) (by omega) rfl,hk.mono (fun k e=>.inr e)⟩
end
theorem mlaw:Maps.Keyed Tryd.prog 3:=Maps.int_keyed Tryd.underlying3
theorem munit (w:World):(zeroValue 89).run Tryd.prog w=.ok (.agg #[]) w:=by kernel_rfl
theorem mkey {a:Int} (h:-9223372036854775808≤a∧a≤9223372036854775807):keyOf Tryd.prog 3 (.int .i64 a)=some (.int .i64 a):=by
 refine Maps.keyOf_int_mk Tryd.underlying3 ?_
 have h1:IntKind.i64.min=-9223372036854775808:=by decide
 have h2:IntKind.i64.max=9223372036854775807:=by decide
 simp only [Lit.wf,Bool.and_eq_true,decide_eq_true_eq,h1,h2]
 exact h
theorem mkeyN {d:Nat} (h:d<6):keyOf Tryd.prog 3 (.int .i64 (d:Int))=some (.int .i64 (d:Int)):=mkey (by omega)
structure SR (w:World) (s j mb:Nat) (id:Int) (R:Nat→Bool) (n:Nat):Prop where
 row:w.heap[s]? = some (.cells #[.pointer (some ⟨j,0,none⟩),.int .i64 id,.map (some mb)] 88 (0,0))
 ref:∃ D:DataW Unit,w.ownsMap Tryd.prog 3 unitElem mb n D∧∀ d:Nat,d<6→Maps.has D (.int .i64 (d:Int))=R d
theorem ownsMap_kept {S:Nat→Prop} {w w':World} {P:Program} {k:TypeId} {H:Type} {R:Value→Option (DataW H×List MemPlace)} {b n:Nat} {D:DataW H} (h:w.ownsMap P k R b n D) (hk:Kept S w w') (hs:¬ S b):w'.ownsMap P k R b n D:=by
 obtain ⟨es,cl,hb,r⟩:=h
 exact ⟨es,cl,hk.row hb hs,r⟩
section
variable {w w':World} {s j mb n:Nat} {id:Int} {R:Nat→Bool}
theorem SR.kept {S:Nat→Prop} (h:SR w s j mb id R n) (k:Kept S w w') (h1:¬ S s) (h2:¬ S mb):SR w' s j mb id R n:=by
 obtain ⟨r,D,hD,hh⟩:=h
 exact ⟨k.row r h1,D,ownsMap_kept hD k h2,hh⟩
theorem SR.later (h:SR w s j mb id R n) (hb:Below w.heap.size w w'):SR w' s j mb id R n:=h.kept (S:=fun _=>False) (Kept.of_below hb) (fun x=>x) (fun x=>x)
theorem SR.cells (h:SR w s j mb id R n):w.cell? ⟨s,0,none⟩=some (.pointer (some ⟨j,0,none⟩))∧w.cell? ⟨s,1,none⟩=some (.int .i64 id)∧w.cell? ⟨s,2,none⟩=some (.map (some mb)):=by
 refine ⟨?_,?_,?_⟩ <;> rw [cell_of_row _ _ _ _ _ _ h.row] <;> rfl
theorem SR.lts (h:SR w s j mb id R n):s<w.heap.size∧mb<w.heap.size:=by
 obtain ⟨r,D,hD,_⟩:=h
 exact ⟨row_ltJ r,hD.lt⟩
end
def updR (R:Nat→Bool) (d:Nat):Nat→Bool:=fun e=>if e=d then true else R e
structure SP (w0 w:World) (s j mb p q:Nat) (id:Int) (R:Nat→Bool) (n:Nat) (E:Nat→Nat×St) (over:Bool) (B:ByteArray) (l:Int):Prop where
 jp:JP w0 w j p q E over B l
 sr:SR w s j mb id R n
 ns:¬ In3 j p q s
 nm:¬ In3 j p q mb
 sm:s≠mb
 s0:w0.heap.size≤s
 m0:w0.heap.size≤mb
section
variable {w0 w w':World} {s j mb p q n:Nat} {id:Int} {R:Nat→Bool} {E E':Nat→Nat×St} {over over':Bool} {B B':ByteArray} {l l':Int}
theorem SP.later (h:SP w0 w s j mb p q id R n E over B l) (hb:Below w.heap.size w w'):SP w0 w' s j mb p q id R n E over B l:=⟨h.jp.later hb,h.sr.later hb,h.ns,h.nm,h.sm,h.s0,h.m0⟩
theorem SP.drew (h:SP w0 w s j mb p q id R n E over B l):SP w0 w.drew s j mb p q id R n E over B l:=h.later (Below.refl _ _).drew
theorem SP.turn (h:SP w0 w s j mb p q id R n E over B l) (hj:JP w0 w' j p q E' over' B' l') (hk:Kept (In3 j p q) w w'):SP w0 w' s j mb p q id R n E' over' B' l':=⟨hj,h.sr.kept hk h.ns h.nm,h.ns,h.nm,h.sm,h.s0,h.m0⟩
theorem SP.far {S:Nat→Prop} (h:SP w0 w s j mb p q id R n E over B l) (k:Kept S w w') (hS:∀ x,S x→w0.heap.size≤x) (hd:∀ x,In3 j p q x→¬ S x) (h1:¬ S s) (h2:¬ S mb):SP w0 w' s j mb p q id R n E over B l:=⟨h.jp.far k hS hd,h.sr.kept k h1 h2,h.ns,h.nm,h.sm,h.s0,h.m0⟩
theorem SP.lts (h:SP w0 w s j mb p q id R n E over B l):s<w.heap.size∧mb<w.heap.size∧j<w.heap.size∧p<w.heap.size∧q<w.heap.size:=⟨h.sr.lts.1,h.sr.lts.2,h.jp.jr.lt,row_lt h.jp.pl.head,row_lt h.jp.pl.row⟩
end
theorem isend_is (p:Nat) (b:Bool) (w:World) (h:finB p=b):Calls Tryd.prog 89 #[.int .i64 (p:Int)] w fun e w'=>e=.returned (.bool b)∧w'=w:=by
 subst h
 unfold finB
 by_cases h2:p=2
 ·subst h2
  go_enter Tryd.func89,Tryd.ntmps89
  go_wp2_with fail
  go_ret
  exact ⟨rfl,rfl⟩
 ·by_cases h3:p=3
  ·subst h3
   go_enter Tryd.func89,Tryd.ntmps89
   go_wp2_with fail
   go_ret
   exact ⟨rfl,rfl⟩
  ·rw [decide_eq_false (by omega)]
   have g2:¬ (p:Int)=2:=by omega
   have g3:¬ (p:Int)=3:=by omega
   go_enter Tryd.func89,Tryd.ntmps89
   go_wp2_with fail
   go_ret
   exact ⟨by simp; omega,rfl⟩
abbrev agS (h p a:Nat):Value:=.agg #[.int .i64 (h:Int),.int .i64 (p:Int),.int .i64 (a:Int)]
structure In2r (w W:World) (x y z:Int):Prop where
 a:W.heap[w.heap.size]? = some (.cells #[.int .i64 x,.int .i64 y,.int .i64 z] 34 (0,0))
 r:W.heap[w.heap.size+1]? = some (.cells #[.int .i64 0,.int .i64 0,.int .i64 0] 34 (0,0))
 b:Below w.heap.size w W
theorem in2r (w:World) (x y z:Int):In2r w ((w.alloc (.cells #[.int .i64 x,.int .i64 y,.int .i64 z] 34)).alloc (.cells #[.int .i64 0,.int .i64 0,.int .i64 0] 34)) x y z:=by
 have hs:(w.alloc (.cells #[.int .i64 x,.int .i64 y,.int .i64 z] 34)).heap.size=w.heap.size+1:=by simp
 refine ⟨?_,?_,((Below.refl _ _).alloc (Nat.le_refl _) _).alloc (by omega) _⟩
 ·rw [Below.heap_alloc _ _ _ (by omega)]; exact heap_alloc_new w _
 ·rw [← hs]; exact heap_alloc_new _ _
section
variable {w W:World} {x y z:Int}
theorem In2r.cells (h:In2r w W x y z):W.cell? ⟨w.heap.size,0,none⟩=some (.int .i64 x)∧W.cell? ⟨w.heap.size,1,none⟩=some (.int .i64 y)∧W.cell? ⟨w.heap.size,2,none⟩=some (.int .i64 z):=by
 refine ⟨?_,?_,?_⟩ <;> rw [cell_of_row _ _ _ _ _ _ h.a] <;> rfl
theorem In2r.rcells (h:In2r w W x y z):W.cell? ⟨w.heap.size+1,0,none⟩=some (.int .i64 0)∧W.cell? ⟨w.heap.size+1,1,none⟩=some (.int .i64 0)∧W.cell? ⟨w.heap.size+1,2,none⟩=some (.int .i64 0):=by
 refine ⟨?_,?_,?_⟩ <;> rw [cell_of_row _ _ _ _ _ _ h.r] <;> rfl
theorem In2r.fz (h:In2r w W x y z):W.frozen? ⟨w.heap.size,0,none⟩=false∧W.frozen? ⟨w.heap.size,1,none⟩=false∧W.frozen? ⟨w.heap.size+1,0,none⟩=false∧W.frozen? ⟨w.heap.size+1,1,none⟩=false∧W.frozen? ⟨w.heap.size+1,2,none⟩=false :=
 ⟨frozen_of_row _ _ 0 _ _ h.a,frozen_of_row _ _ 1 _ _ h.a,frozen_of_row _ _ 0 _ _ h.r,frozen_of_row _ _ 1 _ _ h.r,frozen_of_row _ _ 2 _ _ h.r⟩
theorem In2r.set (h:In2r w W x y z) (i:Nat) (v:Value):(W.setCell ⟨w.heap.size,i,none⟩ v).heap[w.heap.size+1]? = some (.cells #[.int .i64 0,.int .i64 0,.int .i64 0] 34 (0,0)):=(heap_setCell_other _ _ _ _ (by simp)).trans h.r
theorem In2r.out (h:In2r w W x y z) (a b c:Value):Below w.heap.size w (((W.setCell ⟨w.heap.size+1,0,none⟩ a).setCell ⟨w.heap.size+1,1,none⟩ b).setCell ⟨w.heap.size+1,2,none⟩ c):=((h.b.setCell (Nat.le_succ _) _).setCell (Nat.le_succ _) _).setCell (Nat.le_succ _) _
theorem In2r.out1 (h:In2r w W x y z) (i:Nat) (v a b c:Value):Below w.heap.size w ((((W.setCell ⟨w.heap.size,i,none⟩ v).setCell ⟨w.heap.size+1,0,none⟩ a).setCell ⟨w.heap.size+1,1,none⟩ b).setCell ⟨w.heap.size+1,2,none⟩ c):=(((h.b.setCell (Nat.le_refl _) _).setCell (Nat.le_succ _) _).setCell (Nat.le_succ _) _).setCell (Nat.le_succ _) _
end
theorem promise_no (sh sp sa a:Nat) (w:World) (h:¬ sp<a) :
  Calls Tryd.prog 64 #[agS sh sp sa,.int .i64 (a:Int)] w fun e w'=>e=.returned (.tuple #[agS sh sp sa,.bool false])∧Below w.heap.size w w':=by
 obtain ⟨W,HW⟩:∃ W,Hid (((w.alloc (.cells #[.int .i64 (sh:Int),.int .i64 (sp:Int),.int .i64 (sa:Int)] 34)).alloc (.cells #[.int .i64 0,.int .i64 0,.int .i64 0] 34))=W):=⟨_,rfl⟩
 have HI:Hid (In2r w W sh sp sa):=by rw [← HW.out]; exact in2r w _ _ _
 obtain ⟨c0,c1,c2⟩:=HI.out.cells
 obtain ⟨r0,r1,r2⟩:=HI.out.rcells
 obtain ⟨f0,f1,z0,z1,z2⟩:=HI.out.fz
 have hW:=HW.out
 have hi:(a:Int)≤(sp:Int):=by omega
 go_enter Tryd.func64,Tryd.ntmps64
 go_wp2_with fail
 refine bodyPost_ret (results_row2 rfl _ _ (w.heap.size+1) 34 _ (0,0) _ rfl (set3 HI.out.r _ _ _) Tryd.underlying34 rfl sizeState) rfl ?_
 exact ⟨rfl,HI.out.out _ _ _⟩
theorem promise_yes (sh sp sa a:Nat) (w:World) (h:sp<a) :
  Calls Tryd.prog 64 #[agS sh sp sa,.int .i64 (a:Int)] w fun e w'=>e=.returned (.tuple #[agS sh a sa,.bool true])∧Below w.heap.size w w':=by
 obtain ⟨W,HW⟩:∃ W,Hid (((w.alloc (.cells #[.int .i64 (sh:Int),.int .i64 (sp:Int),.int .i64 (sa:Int)] 34)).alloc (.cells #[.int .i64 0,.int .i64 0,.int .i64 0] 34))=W):=⟨_,rfl⟩
 have HI:Hid (In2r w W sh sp sa):=by rw [← HW.out]; exact in2r w _ _ _
 obtain ⟨c0,c1,c2⟩:=HI.out.cells
 obtain ⟨r0,r1,r2⟩:=HI.out.rcells
 obtain ⟨f0,f1,z0,z1,z2⟩:=HI.out.fz
 have hW:=HW.out
 have hi:¬ (a:Int)≤(sp:Int):=by omega
 go_enter Tryd.func64,Tryd.ntmps64
 go_wp2_with fail
 refine bodyPost_ret (results_row2 rfl _ _ (w.heap.size+1) 34 _ (0,0) _ rfl (set3 (HI.out.set 1 _) _ _ _) Tryd.underlying34 rfl sizeState) rfl ?_
 exact ⟨rfl,HI.out.out1 _ _ _ _ _⟩
theorem prepare_no (sh sp sa ph a:Nat) (fb:Bool) (w:World) (hf:finB sh=fb) (h:¬ (sp≤a∧fb=false)) :
  Calls Tryd.prog 65 #[agS sh sp sa,.int .i64 (ph:Int),.int .i64 (a:Int)] w fun e w'=>e=.returned (.tuple #[agS sh sp sa,.bool false])∧Below w.heap.size w w':=by
 obtain ⟨W,HW⟩:∃ W,Hid (((w.alloc (.cells #[.int .i64 (sh:Int),.int .i64 (sp:Int),.int .i64 (sa:Int)] 34)).alloc (.cells #[.int .i64 0,.int .i64 0,.int .i64 0] 34))=W):=⟨_,rfl⟩
 have HI:Hid (In2r w W sh sp sa):=by rw [← HW.out]; exact in2r w _ _ _
 obtain ⟨c0,c1,c2⟩:=HI.out.cells
 obtain ⟨r0,r1,r2⟩:=HI.out.rcells
 obtain ⟨f0,f1,z0,z1,z2⟩:=HI.out.fz
 have hW:=HW.out
 have HF:=hid hf
 clear hf
 by_cases hpa:sp≤a
 ·obtain rfl:fb=true:=by cases fb with|true=>rfl|false=>exact absurd ⟨hpa,rfl⟩ h
  clear h
  have hi:¬ (a:Int)<(sp:Int):=by omega
  go_enter Tryd.func65,Tryd.ntmps65
  go_wp2_with (go_at_call 89; (with_reducible refine (isend_is sh true _ HF.out).mono ?_); rintro e wx ⟨rfl,hx⟩; subst wx)
  refine bodyPost_ret (results_row2 rfl _ _ (w.heap.size+1) 34 _ (0,0) _ rfl (set3 HI.out.r _ _ _) Tryd.underlying34 rfl sizeState) rfl ?_
  exact ⟨rfl,HI.out.out _ _ _⟩
 ·clear h
  have hi:(a:Int)<(sp:Int):=by omega
  go_enter Tryd.func65,Tryd.ntmps65
  go_wp2_with (go_at_call 89; (with_reducible refine (isend_is sh fb _ HF.out).mono ?_); rintro e wx ⟨rfl,hx⟩; subst wx)
  refine bodyPost_ret (results_row2 rfl _ _ (w.heap.size+1) 34 _ (0,0) _ rfl (set3 HI.out.r _ _ _) Tryd.underlying34 rfl sizeState) rfl ?_
  exact ⟨rfl,HI.out.out _ _ _⟩
theorem prepare_yes (sh sp sa ph a:Nat) (w:World) (hf:finB sh=false) (h:sp≤a) :
  Calls Tryd.prog 65 #[agS sh sp sa,.int .i64 (ph:Int),.int .i64 (a:Int)] w fun e w'=>e=.returned (.tuple #[agS ph a a,.bool true])∧Below w.heap.size w w':=by
 obtain ⟨W,HW⟩:∃ W,Hid (((w.alloc (.cells #[.int .i64 (sh:Int),.int .i64 (sp:Int),.int .i64 (sa:Int)] 34)).alloc (.cells #[.int .i64 0,.int .i64 0,.int .i64 0] 34))=W):=⟨_,rfl⟩
 have HI:Hid (In2r w W sh sp sa):=by rw [← HW.out]; exact in2r w _ _ _
 obtain ⟨c0,c1,c2⟩:=HI.out.cells
 obtain ⟨r0,r1,r2⟩:=HI.out.rcells
 obtain ⟨f0,f1,z0,z1,z2⟩:=HI.out.fz
 have hW:=HW.out
 have HF:=hid hf
 clear hf
 have hi:¬ (a:Int)<(sp:Int):=by omega
 go_enter Tryd.func65,Tryd.ntmps65
 go_wp2_with (go_at_call 89; (with_reducible refine (isend_is sh false _ HF.out).mono ?_); rintro e wx ⟨rfl,hx⟩; subst wx)
 refine bodyPost_ret (results_row2 rfl _ _ (w.heap.size+1) 34 _ (0,0) _ rfl (set3 HI.out.r _ _ _) Tryd.underlying34 rfl sizeState) rfl ?_
 exact ⟨rfl,HI.out.out _ _ _⟩
theorem decide_no (sh sp sa ph:Nat) (fb fc:Bool) (w:World) (hf:finB sh=fb) (hc:finB ph=fc) (h:¬ (fc=true∧fb=false)) :
  Calls Tryd.prog 66 #[agS sh sp sa,.int .i64 (ph:Int)] w fun e w'=>e=.returned (agS sh sp sa)∧Below w.heap.size w w':=by
 obtain ⟨W,HW⟩:∃ W,Hid (((w.alloc (.cells #[.int .i64 (sh:Int),.int .i64 (sp:Int),.int .i64 (sa:Int)] 34)).alloc (.cells #[.int .i64 0,.int .i64 0,.int .i64 0] 34))=W):=⟨_,rfl⟩
 have HI:Hid (In2r w W sh sp sa):=by rw [← HW.out]; exact in2r w _ _ _
 obtain ⟨c0,c1,c2⟩:=HI.out.cells
 obtain ⟨r0,r1,r2⟩:=HI.out.rcells
 obtain ⟨f0,f1,z0,z1,z2⟩:=HI.out.fz
 have hW:=HW.out
 have HF:=hid hf
 have HC:=hid hc
 clear hf hc
 cases fc with
 | false =>
  clear h
  go_enter Tryd.func66,Tryd.ntmps66
  go_wp2_with (go_at_call 89; (with_reducible refine (isend_is ph false _ HC.out).mono ?_); rintro e wx ⟨rfl,hx⟩; subst wx)
  refine bodyPost_ret (results_cell_row rfl _ _ (w.heap.size+1) 34 _ (0,0) _ rfl (set3 HI.out.r _ _ _) Tryd.underlying34 rfl sizeState) rfl ?_
  exact ⟨rfl,HI.out.out _ _ _⟩
 | true =>
  obtain rfl:fb=true:=by cases fb with|true=>rfl|false=>exact absurd ⟨rfl,rfl⟩ h
  clear h
  go_enter Tryd.func66,Tryd.ntmps66
  go_wp2_with (go_at_call 89; first|((with_reducible refine (isend_is ph true _ HC.out).mono ?_); rintro e wx ⟨rfl,hx⟩; subst wx)|((with_reducible refine (isend_is sh true _ HF.out).mono ?_); rintro e wx ⟨rfl,hx⟩; subst wx))
  refine bodyPost_ret (results_cell_row rfl _ _ (w.heap.size+1) 34 _ (0,0) _ rfl (set3 HI.out.r _ _ _) Tryd.underlying34 rfl sizeState) rfl ?_
  exact ⟨rfl,HI.out.out _ _ _⟩
theorem decide_yes (sh sp sa ph:Nat) (w:World) (hf:finB sh=false) (hc:finB ph=true) :
  Calls Tryd.prog 66 #[agS sh sp sa,.int .i64 (ph:Int)] w fun e w'=>e=.returned (agS ph sp sa)∧Below w.heap.size w w':=by
 obtain ⟨W,HW⟩:∃ W,Hid (((w.alloc (.cells #[.int .i64 (sh:Int),.int .i64 (sp:Int),.int .i64 (sa:Int)] 34)).alloc (.cells #[.int .i64 0,.int .i64 0,.int .i64 0] 34))=W):=⟨_,rfl⟩
 have HI:Hid (In2r w W sh sp sa):=by rw [← HW.out]; exact in2r w _ _ _
 obtain ⟨c0,c1,c2⟩:=HI.out.cells
 obtain ⟨r0,r1,r2⟩:=HI.out.rcells
 obtain ⟨f0,f1,z0,z1,z2⟩:=HI.out.fz
 have hW:=HW.out
 have HF:=hid hf
 have HC:=hid hc
 clear hf hc
 go_enter Tryd.func66,Tryd.ntmps66
 go_wp2_with (go_at_call 89; first|((with_reducible refine (isend_is ph true _ HC.out).mono ?_); rintro e wx ⟨rfl,hx⟩; subst wx)|((with_reducible refine (isend_is sh false _ HF.out).mono ?_); rintro e wx ⟨rfl,hx⟩; subst wx))
 refine bodyPost_ret (results_cell_row rfl _ _ (w.heap.size+1) 34 _ (0,0) _ rfl (set3 (HI.out.set 0 _) _ _ _) Tryd.underlying34 rfl sizeState) rfl ?_
 exact ⟨rfl,HI.out.out1 _ _ _ _ _⟩
end Go.Proofs.YtkopfpaldmapdaaDoor
