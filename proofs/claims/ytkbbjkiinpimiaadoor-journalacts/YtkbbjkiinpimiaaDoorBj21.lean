/-
  On the way to ActsProof: JO JQ JS RVP JW JU.
-/
import Derived.Test.YtkbbjkiinpimiaaDoorBj18
set_option maxHeartbeats 8000000
set_option maxRecDepth 100000
namespace Go.Proofs.YtkbbjkiinpimiaaDoor
open Go.RowKit
section
variable {B:ByteArray} {l:Int} {d:Nat} {s:St}
theorem nextK_le (hd:d<6) (m:Nat):nextK d m<12:=by unfold nextK; omega
theorem put_out (hB:216≤B.size) (hd:d<6) (hs:s.fits) (hn:(dealL B.data.toList d).1+1<4294967295) (hl:l≠-2) :
  ((putIn (dealL B.data.toList) B l d s).c=0∧(putIn (dealL B.data.toList) B l d s).over=false∧(putIn (dealL B.data.toList) B l d s).e=dealL (putIn (dealL B.data.toList) B l d s).b.data.toList∧(putIn (dealL B.data.toList) B l d s).l≠-2 ∧
   (dealL (putIn (dealL B.data.toList) B l d s).b.data.toList d).2=s∧(∀ e,e≠d→dealL (putIn (dealL B.data.toList) B l d s).b.data.toList e=dealL B.data.toList e)∧(dealL (putIn (dealL B.data.toList) B l d s).b.data.toList d).1≤(dealL B.data.toList d).1+1) ∨
  ((putIn (dealL B.data.toList) B l d s).c=6∧(putIn (dealL B.data.toList) B l d s).over=true∧(putIn (dealL B.data.toList) B l d s).l=-2∧dealL (putIn (dealL B.data.toList) B l d s).b.data.toList=dealL B.data.toList):=by
 have hk:=nextK_le hd (dealL B.data.toList d).1
 have ho:=fill3_out (B:=B) (l:=l) (k:=nextK d (dealL B.data.toList d).1) (n:=(dealL B.data.toList d).1+1) (s:=s) (by omega)
 unfold putIn
 by_cases h1:(dealL B.data.toList d).2=s
 ·rw [if_pos h1]
  exact .inl ⟨rfl,rfl,rfl,hl,h1,fun _ _=>rfl,by show (dealL B.data.toList d).1≤_; omega⟩
 ·rw [if_neg h1,if_neg (by omega)]
  rcases ho with ⟨c,z,o⟩|⟨c,t,o⟩
  ·rw [if_pos c]
   have e1:=deal_done (by omega) hs z
   have e2:∀ e,e≠d→dealL (fill3 B l (nextK d (dealL B.data.toList d).1) ((dealL B.data.toList d).1+1) s).b.data.toList e=dealL B.data.toList e:=fun e he=>deal_other z.1 he
   refine .inl ⟨rfl,rfl,?_,o,?_,e2,?_⟩
   ·funext e
    show updE _ d _ e=_
    unfold updE
    by_cases he:e=d
    ·subst he; rw [if_pos rfl]; exact e1.symm
    ·rw [if_neg he]; exact (e2 e he).symm
   ·show (dealL _ d).2=s; rw [e1]
   ·show (dealL _ d).1≤_; rw [e1]; exact Nat.le_refl _
  ·rw [if_neg (by omega)]
   refine .inr ⟨c,rfl,o,?_⟩
   funext e
   by_cases he:e=d
   ·subst he; exact deal_torn (by rw [← size_list]; omega) t
   ·exact deal_other t.1 he
theorem put_free (hB:216≤B.size) (hd:d<6) (hn:(dealL B.data.toList d).1+1<4294967295):(putIn (dealL B.data.toList) B (-1) d s).c=0∧(putIn (dealL B.data.toList) B (-1) d s).l=-1:=by
 have hk:=nextK_le hd (dealL B.data.toList d).1
 have ho:=fill3_free (B:=B) (k:=nextK d (dealL B.data.toList d).1) (n:=(dealL B.data.toList d).1+1) (s:=s) (by omega)
 unfold putIn
 by_cases h1:(dealL B.data.toList d).2=s
 ·rw [if_pos h1]; exact ⟨rfl,rfl⟩
 ·rw [if_neg h1,if_neg (by omega),if_pos ho.1]; exact ⟨rfl,ho.2⟩
end
theorem slot_zero (n k:Nat) (h:18 * (k+1)≤n):(slotL (zeroB n).data.toList k)[17]? = some 0:=by
 have e:(zeroB n).data.toList=List.replicate n 0:=by simp [zeroB]
 rw [slotL_get,if_pos (by decide),e,List.getElem?_replicate,if_pos (by omega)]
theorem deal_zero (n d:Nat) (h:36 * (d+1)≤n):dealL (zeroB n).data.toList d=(0,St.zero):=by
 have hz:∀ k,18 * (k+1)≤n→heldL k (slotL (zeroB n).data.toList k)=(0,St.zero):=fun k hk=>heldL_torn k _ 0 (last_of_17 (slotL_length (by rw [← size_list,zeroB_size]; exact hk)) (slot_zero n k hk)) (by decide)
 unfold dealL
 rw [hz _ (by omega),hz _ (by omega),if_neg (Nat.lt_irrefl _)]
section
variable {w0 w w1 w2:World} {j p q:Nat} {E:Nat→Nat×St} {over:Bool} {B:ByteArray} {l:Int} {A:Nat→Addr}
theorem jp_new (hb:Below w0.heap.size w0 w1) (h:Pl w1 p q B l) (hp:w0.heap.size≤p) (hq:w0.heap.size≤q) (hj:JR w2 j p E over) (hb2:Below w1.heap.size w1 w2) (hj0:w1.heap.size≤j) (h0:-2≤l) (h1:l≤9223372036854775807) (hs:B.size≤1000) (h6:216≤B.size):JP w0 w2 j p q E over B l:=by
 have e1:=row_lt h.head
 have e2:=row_lt h.row
 exact ⟨hb.trans (hb2.mono hb.size),hj,h.kept (S:=fun _=>False) (Kept.of_below hb2) (fun x=>x) (fun x=>x),by omega,by omega,Nat.le_trans hb.size hj0,hp,hq,h0,h1,hs,h6⟩
theorem get_jp (d:Nat) (s:St) (h:JP w0 w j p q E over B l) (hd:d<6) (hs:(E d).2=s) :
  Calls Tryd.prog 49 #[.pointer (some ⟨j,0,none⟩),.int .i64 (d:Int)] w fun e w'=>e=.returned (.tuple #[.agg #[.int .i64 (s.ph:Int),.int .i64 (s.pr:Int),.int .i64 (s.at_:Int)],.nilIface])∧Below w.heap.size w w':=by
 have:=get_ok j p d E over w h.jr hd
 rw [hs] at this
 exact this
theorem put_ok (d:Nat) (s:St) (h:JP w0 w j p q E false B l) (hE:HeldE w0 A) (hd:d<6) (hf:fitsB s.ph s.pr s.at_=true) (hn:(E d).1<4294967296) (hc:(putIn E B l d s).c=0) :
  Calls Tryd.prog 48 #[.pointer (some ⟨j,0,none⟩),.int .i64 (d:Int),.agg #[.int .i64 (s.ph:Int),.int .i64 (s.pr:Int),.int .i64 (s.at_:Int)]] w fun e w'=>e=.returned .nilIface∧JP w0 w' j p q (putIn E B l d s).e (putIn E B l d s).over (putIn E B l d s).b (putIn E B l d s).l∧Kept (In3 j p q) w w':=by
 have:=put_in A w0 w j p q E B l d s h hE hd hf hn
 rw [hc] at this
 exact this
end
structure Put6 where
 deal:Int
 ph:Int
 pr:Int
 at_:Int
 cut:Int
 boot:Bool
def PutsIn (w:World) (ad:Option Addr) (xs:List Put6):Prop:=∀ i (h:i<xs.length),∃ b off,ad=some ⟨b,off,none⟩∧w.cell? ⟨b,off+i * 6,none⟩=some (.int .i64 (xs[i]'h).deal)∧w.cell? ⟨b,off+i * 6+1,none⟩=some (.int .i64 (xs[i]'h).ph)∧w.cell? ⟨b,off+i * 6+2,none⟩=some (.int .i64 (xs[i]'h).pr) ∧
  w.cell? ⟨b,off+i * 6+3,none⟩=some (.int .i64 (xs[i]'h).at_)∧w.cell? ⟨b,off+i * 6+4,none⟩=some (.int .i64 (xs[i]'h).cut)∧w.cell? ⟨b,off+i * 6+5,none⟩=some (.bool (xs[i]'h).boot)∧(xs[i]'h).cut≤9223372036854775807
def sts (B:ByteArray):Nat→St:=fun d=>(dealL B.data.toList d).2
theorem st_neq (x0 x1 x2:Int) (w:World) :
  (binOp .neq 74 (.agg #[.int .i64 x0,.int .i64 x1,.int .i64 x2]) (.agg #[.int .i64 x0,.int .i64 x1,.int .i64 x2])).run Tryd.prog w=.ok (.bool false) w:=by
 go_simp
theorem get_is (j p d:Nat) (E:Nat→Nat×St) (over:Bool) (h1 h2 h3:Nat) (w:World) (h:JR w j p E over) (hd:d<6) (hs:(E d).2=⟨h1,h2,h3⟩) :
  Calls Tryd.prog 49 #[.pointer (some ⟨j,0,none⟩),.int .i64 (d:Int)] w fun e w'=>e=.returned (.tuple #[.agg #[.int .i64 (h1:Int),.int .i64 (h2:Int),.int .i64 (h3:Int)],.nilIface])∧Below w.heap.size w w':=by
 have:=get_ok j p d E over w h hd
 rw [hs] at this
 exact this
theorem get_isnt (A:Nat→Addr) (v:Value) (d:Int) (w:World) (hE:HeldE w A) (hd:¬ (0≤d∧d<6)) :
  Calls Tryd.prog 49 #[v,.int .i64 d] w fun e w'=>e=.returned (.tuple #[.agg #[.int .i64 0,.int .i64 0,.int .i64 0],.iface 107 (.pointer (some (A 1)))])∧Below w.heap.size w w':=get_bad A v d w hE hd
end Go.Proofs.YtkbbjkiinpimiaaDoor
namespace Go.Proofs.YtkbbjkiinpimiaaDoor
open Go.RowKit
def pOut (E:Nat→Nat×St) (over:Bool) (B:ByteArray) (l:Int) (dl ph pr a:Int):POut :=
 if over=true then ⟨6,E,true,B,l⟩ else if (0≤dl∧dl<6)∧fitsB ph pr a=true then putIn E B l dl.toNat ⟨ph.toNat,pr.toNat,a.toNat⟩ else ⟨2,E,false,B,l⟩
section
variable {w0 w w':World} {j p q m gn gs r:Nat} {E:Nat→Nat×St} {over dead:Bool} {B:ByteArray} {l:Int} {A:Nat→Addr}
theorem in_nat {dl ph pr a:Int} (h:(0≤dl∧dl<6)∧fitsB ph pr a=true):∃ d h1 h2 h3:Nat,dl=d∧ph=h1∧pr=h2∧a=h3:=by
 obtain ⟨b1,b2,b3,b4,b5,b6⟩:=of_decide_eq_true h.2
 exact ⟨dl.toNat,ph.toNat,pr.toNat,a.toNat,by omega,by omega,by omega,by omega⟩
theorem jput_any (dl ph pr a:Int) (o:POut) (ho:pOut E over B l dl ph pr a=o) (h:JP w0 w j p q E over B l) (hE:HeldE w0 A) (hn:∀ d,d<6→(E d).1<4294967296) :
  Calls Tryd.prog 48 #[.pointer (some ⟨j,0,none⟩),.int .i64 dl,.agg #[.int .i64 ph,.int .i64 pr,.int .i64 a]] w fun e w'=>e=.returned (ev A o.c)∧JP w0 w' j p q o.e o.over o.b o.l∧Kept (In3 j p q) w w':=by
 subst ho
 unfold pOut
 cases over with
 | true=>rw [if_pos rfl]; exact put_over A w0 w j p q E B l dl ph pr a h hE
 | false =>
  rw [if_neg (by decide)]
  by_cases hb:(0≤dl∧dl<6)∧fitsB ph pr a=true
  ·rw [if_pos hb]
   obtain ⟨d,h1,h2,h3,rfl,rfl,rfl,rfl⟩:=in_nat hb
   simp only [Int.toNat_natCast]
   exact put_in A w0 w j p q E B l d ⟨h1,h2,h3⟩ h hE (by omega) hb.2 (hn d (by omega))
  ·rw [if_neg hb]; exact put_bound A w0 w j p q E B l dl ph pr a h hE hb
theorem putIn_c (E:Nat→Nat×St) (B:ByteArray) (l:Int) (d:Nat) (s:St):(putIn E B l d s).c≤9:=by
 have h1:(fill1 B l (nextK d (E d).1)).c≤9:=by
  unfold fill1
  split
  ·show 6≤9; omega
  ·split
   ·exact Nat.zero_le _
   ·exact wC_le _ _ _ _
 have h2:(fill2 B l (nextK d (E d).1) ((E d).1+1) s).c≤9:=by
  unfold fill2
  split
  ·exact wC_le _ _ _ _
  ·exact h1
 have h3:(fill3 B l (nextK d (E d).1) ((E d).1+1) s).c≤9:=by
  unfold fill3
  split
  ·exact wC_le _ _ _ _
  ·exact h2
 unfold putIn
 split
 ·exact Nat.zero_le _
 ·split
  ·show 5≤9; omega
  ·split
   ·exact Nat.zero_le _
   ·exact h3
theorem pOut_c (dl ph pr a:Int):(pOut E over B l dl ph pr a).c≤9:=by
 unfold pOut
 split
 ·show 6≤9; omega
 ·split
  ·exact putIn_c _ _ _ _ _
  ·show 2≤9; omega
theorem pOut_n (dl ph pr a:Int) (hn:∀ d,d<6→(E d).1<4294967296):∀ d,d<6→((pOut E over B l dl ph pr a).e d).1<4294967296:=by
 intro d hd
 unfold pOut
 split
 ·exact hn d hd
 ·split
  ·rename_i h2
   unfold putIn
   split
   ·exact hn d hd
   ·split
    ·exact hn d hd
    ·rename_i h4
     split
     ·show (updE E dl.toNat _ d).1<_
      unfold updE
      split
      ·have:=hn dl.toNat (by omega)
       show (E dl.toNat).1+1<_
       omega
      ·exact hn d hd
     ·exact hn d hd
  ·exact hn d hd
theorem deal_lt (L:List UInt8) (d:Nat):(dealL L d).1<4294967296:=by
 unfold dealL
 split
 all_goals first|exact heldL_lt _ _|(split <;> exact heldL_lt _ _)
theorem JP.far {S:Nat→Prop} (h:JP w0 w j p q E over B l) (k:Kept S w w') (hS:∀ x,S x→w0.heap.size≤x) (hd:∀ x,In3 j p q x→¬ S x):JP w0 w' j p q E over B l :=
 ⟨k.below h.bel.size hS h.bel,k.row h.jr (hd j (.inl rfl)),h.pl.kept k (hd p (.inr (.inl rfl))) (hd q (.inr (.inr rfl))),h.jp,h.jq,h.j0,h.p0,h.q0,h.l0,h.l1,h.sz,h.s6⟩
theorem jcut_jp (n:Int) (c:Nat) (l':Int) (h:JP w0 w j p q E over B l) (hE:HeldE w0 A) (h0:0≤n) (hn:n≤9223372036854775807) (hc:cC l n=c) (hl:cL l n=l') :
  Calls Tryd.prog 40 #[.pointer (some ⟨p,0,none⟩),.int .i64 n] w fun e w'=>e=.returned (ev A c)∧JP w0 w' j p q E over B l'∧Kept (In3 j p q) w w':=by
 subst hc hl
 refine (cut_pl A p q B l n w h.pl (h.held hE)).mono ?_
 rintro e w' ⟨rfl,hp,hk⟩
 refine ⟨rfl,h.plate hk hp ?_ ?_ rfl,hk.mono (fun k e=>.inr e)⟩
 ·unfold cL
  have:=h.l0
  split
  ·omega
  ·split <;> omega
 ·unfold cL
  have:=h.l1
  split
  ·omega
  ·split <;> omega
theorem jon_jp (h:JP w0 w j p q E over B l) :
  Calls Tryd.prog 42 #[.pointer (some ⟨p,0,none⟩)] w fun e w'=>e=.returned (.tuple #[])∧JP w0 w' j p q E over B (-1)∧Kept (In3 j p q) w w':=by
 refine (pon_any p q B l w h.pl).mono ?_
 rintro e w' ⟨rfl,hp,hk⟩
 exact ⟨rfl,h.plate hk hp (by omega) (by omega) rfl,hk.mono (fun k e=>.inr e)⟩
theorem jopen_jp (h:JP w0 w j p q E over B (-1)) (hE:HeldE w0 A) :
  Calls Tryd.prog 47 #[.pointer (some ⟨p,0,none⟩)] w fun e w'=>∃ j',e=.returned (.tuple #[.pointer (some ⟨j',0,none⟩),.nilIface])∧JP w0 w' j' p q (dealL B.data.toList) false B (-1)∧Below w.heap.size w w'∧w.heap.size≤j':=by
 refine (open_ok A p q B (-1) w h.pl (h.held hE) h.sz h.s6 (by decide)).mono ?_
 rintro e w' ⟨j',rfl,hj,hb,hj0⟩
 have hl:p<w.heap.size∧q<w.heap.size:=⟨row_lt h.pl.head,row_lt h.pl.row⟩
 have hz:=h.bel.size
 exact ⟨j',rfl,⟨h.bel.trans (hb.mono h.bel.size),hj,h.pl.kept (S:=fun _=>False) (Kept.of_below hb) (fun x=>x) (fun x=>x),by omega,by omega,by omega,h.p0,h.q0,by decide,by decide,h.sz,h.s6⟩,hb,hj0⟩
end
theorem put_five (A:Nat→Addr) (w0 w:World) (j p q:Nat) (h:JP w0 w j p q (dealL (zeroB 512).data.toList) false (zeroB 512) (-1)) (hE:HeldE w0 A) :
  Calls Tryd.prog 48 #[.pointer (some ⟨j,0,none⟩),.int .i64 5,.agg #[.int .i64 1,.int .i64 2,.int .i64 3]] w fun e w'=>e=.returned .nilIface∧(∃ E B l,JP w0 w' j p q E false B l∧(E 5).2=⟨1,2,3⟩)∧Kept (In3 j p q) w w':=by
 have hz:=deal_zero 512 5 (by omega)
 have hB:216≤(zeroB 512).size:=by rw [zeroB_size]; omega
 have hn:(dealL (zeroB 512).data.toList 5).1+1<4294967295:=by rw [hz]; decide
 have hf:=put_free (B:=zeroB 512) (d:=5) (s:=⟨1,2,3⟩) hB (by decide) hn
 refine (put_ok (d:=5) (s:=⟨1,2,3⟩) h hE (by decide) (by decide) (by rw [hz]; decide) hf.1).mono ?_
 rintro e w' ⟨rfl,hj,hk⟩
 rcases put_out (B:=zeroB 512) (l:=-1) (d:=5) (s:=⟨1,2,3⟩) hB (by decide) ⟨by decide,by decide,by decide⟩ hn (by decide) with ho|ho
 ·rw [ho.2.1,ho.2.2.1] at hj
  exact ⟨rfl,⟨_,_,_,hj,ho.2.2.2.2.1⟩,hk⟩
 ·rw [ho.1] at hf; cases hf.1
theorem get_five (w0 w:World) (j p q:Nat) (E:Nat→Nat×St) (B:ByteArray) (l:Int) (h:JP w0 w j p q E false B l) (hs:(E 5).2=⟨1,2,3⟩) :
  Calls Tryd.prog 49 #[.pointer (some ⟨j,0,none⟩),.int .i64 5] w fun e w'=>e=.returned (.tuple #[.agg #[.int .i64 1,.int .i64 2,.int .i64 3],.nilIface])∧Below w.heap.size w w':=get_jp 5 ⟨1,2,3⟩ h (by decide) hs
theorem written_any (A:Nat→Addr) (w:World) (hE:HeldE w A) :
  Calls Tryd.prog 46 #[] w fun e w'=>e=.returned (.bool true)∧Below w.heap.size w w':=by
 have HE:=hid hE
 clear hE
 go_enter Tryd.func46,Tryd.ntmps46
 go_wp2_with fail
 refine (pnew_ok 512 _ (by omega)).mono ?_
 rintro e w1 ⟨rfl,hP1,hb1,hs1⟩
 have HP1:=hid hP1
 have HB1:=hid hb1
 have HE1:=hid (HE.out.later hb1)
 clear hP1 hb1
 go_wp2_with fail
 refine (open_ok A _ _ _ (-1) _ HP1.out HE1.out (by rw [zeroB_size]; omega) (by rw [zeroB_size]; omega) (by omega)).mono ?_
 rintro e w2 ⟨j,rfl,hJ,hb2,hj0⟩
 have HJ:=hid (jp_new HB1.out HP1.out (by omega) (Nat.le_refl _) hJ hb2 hj0 (by omega) (by omega) (by rw [zeroB_size]; omega) (by rw [zeroB_size]; omega))
 clear hJ hb2 hj0
 obtain ⟨W,HW⟩:∃ W,Hid (w2.alloc (.cells #[.int .i64 1,.int .i64 2,.int .i64 3] 74)=W):=⟨_,rfl⟩
 have hW:=HW.out
 have RW:Hid (W.heap[w2.heap.size]? = some (.cells #[.int .i64 1,.int .i64 2,.int .i64 3] 74 (0,0))):=by rw [← HW.out]; exact heap_alloc_new w2 _
 have HJW:=hid (HJ.out.later (w':=W) (by rw [← HW.out]; exact (Below.refl _ _).alloc (Nat.le_refl _) _))
 have b0:W.cell? ⟨w2.heap.size,0,none⟩=some (.int .i64 1):=by rw [cell_of_row _ _ _ _ _ _ RW.out]; rfl
 have b1:W.cell? ⟨w2.heap.size,1,none⟩=some (.int .i64 2):=by rw [cell_of_row _ _ _ _ _ _ RW.out]; rfl
 have b2:W.cell? ⟨w2.heap.size,2,none⟩=some (.int .i64 3):=by rw [cell_of_row _ _ _ _ _ _ RW.out]; rfl
 go_wp2_with fail
 refine (put_five A w _ j _ _ HJW.out HE.out).mono ?_
 rintro e w3 ⟨rfl,⟨E,B,l,hJ3,hE5⟩,hk3⟩
 have n1:=HJ.out.jr.lt
 have n2:=row_lt HJ.out.pl.head
 have n3:=row_lt HJ.out.pl.row
 have R3:=hid (hk3.row RW.out (fun g=>by unfold In3 at g; omega))
 have HJ3:=hid hJ3
 have H5:=hid hE5
 clear hJ3 hE5 hk3
 go_wp2_with fail
 refine (get_five w _ j _ _ E B l HJ3.out H5.out).mono ?_
 rintro e w4 ⟨rfl,hb4⟩
 have hs3:w2.heap.size<w3.heap.size:=row_ltJ R3.out
 have R4:=hid ((hb4.block _ hs3).trans R3.out)
 have hs4:w2.heap.size<w4.heap.size:=row_ltJ R4.out
 have HB4:=hid ((HJ3.out.bel).trans (hb4.mono HJ3.out.bel.size))
 clear hb4
 have t0:w4.cell? ⟨w2.heap.size,0,none⟩=some (.int .i64 1):=by rw [cell_of_row _ _ _ _ _ _ R4.out]; rfl
 have t1:w4.cell? ⟨w2.heap.size,1,none⟩=some (.int .i64 2):=by rw [cell_of_row _ _ _ _ _ _ R4.out]; rfl
 have t2:w4.cell? ⟨w2.heap.size,2,none⟩=some (.int .i64 3):=by rw [cell_of_row _ _ _ _ _ _ R4.out]; rfl
 go_wp2_with fail
 go_ret
 exact ⟨rfl,HB4.out.alloc HB4.out.size _⟩
end Go.Proofs.YtkbbjkiinpimiaaDoor
namespace Go.Proofs.YtkbbjkiinpimiaaDoor
open Go.ChangeShapes Go.WideShapes Go.RowKit
theorem cellsPut:Tryd.prog.cellsOf 76=6:=by kernel_rfl
theorem put_of_trod {H:Type} {enc:TypeId×Value→H} {W:World} {base fuel:Nat} {cs:List Value} {x:DataW H×List MemPlace} {sp:Nat→Bool} {held:Bool}
  (h:DataW.trod enc Tryd.prog W base sp held fuel 76 cs=some x):∃ t:Put6,cs=[.int .i64 t.deal,.int .i64 t.ph,.int .i64 t.pr,.int .i64 t.at_,.int .i64 t.cut,.bool t.boot]∧t.cut≤9223372036854775807:=by
 obtain ⟨ys,n,_,_,hl,hlen,hf⟩:=DataW.trod_struct Tryd.underlying76 h
 rw [cellsPut] at hl
 obtain ⟨c0,c1,c2,c3,c4,c5,rfl⟩:=listOf6 cs hl
 obtain ⟨y0,y1,y2,y3,rfl⟩:=listOf4 ys hlen
 have f0:DataW.trod enc Tryd.prog W base sp held n 3 (([c0,c1,c2,c3,c4,c5].drop 0).take (Tryd.prog.cellsOf 3))=some y0:=hf 0 _ rfl
 have f1:DataW.trod enc Tryd.prog W base sp held n 74 (([c0,c1,c2,c3,c4,c5].drop 1).take (Tryd.prog.cellsOf 74))=some y1:=hf 1 _ rfl
 have f2:DataW.trod enc Tryd.prog W base sp held n 3 (([c0,c1,c2,c3,c4,c5].drop 4).take (Tryd.prog.cellsOf 3))=some y2:=hf 2 _ rfl
 have f3:DataW.trod enc Tryd.prog W base sp held n 4 (([c0,c1,c2,c3,c4,c5].drop 5).take (Tryd.prog.cellsOf 4))=some y3:=hf 3 _ rfl
 rw [cellsInt1] at f0 f2
 rw [cellsSt3] at f1
 rw [cellsBool1] at f3
 obtain ⟨i0,e0,_,_⟩:=DataW.trod_int Tryd.underlying3 f0
 obtain ⟨s0,s1,s2,es⟩:=st_of_trod f1
 obtain ⟨i2,e2,_,w2⟩:=DataW.trod_int Tryd.underlying3 f2
 obtain ⟨b3,e3,_⟩:=DataW.trod_bool Tryd.underlying4 f3
 simp at e0 es e2 e3
 obtain ⟨es0,es1,es2⟩:=es
 subst e0 es0 es1 es2 e2 e3
 exact ⟨⟨i0,s0,s1,s2,i2,b3⟩,rfl,int_le_of_wf w2⟩
theorem puts_of_trod {H:Type} {enc:TypeId×Value→H} {W:World} {a:Option Addr} {len cap fuel:Nat} {d:DataW H} {p:List MemPlace} {sp:Nat→Bool} {held:Bool}
  (hf:DataW.trod enc Tryd.prog W 0 sp held fuel 68 (Value.slice a len cap).cells.toList=some (d,p)):∃ xs:List Put6,xs.length=len∧xs.length≤maxLen∧PutsIn W a xs:=by
 rcases Deep.open_slice Tryd.underlying68 hf with ⟨hcs,_⟩|⟨x,l,c,m,n,D,Pl,hcs,_,hl,hm,hmm,_,hx⟩
 ·simp [Value.cells] at hcs
  obtain ⟨rfl,rfl,rfl⟩:=hcs
  exact ⟨[],rfl,Nat.zero_le _,fun i h=>absurd h (Nat.not_lt_zero _)⟩
 ·simp [Value.cells] at hcs
  obtain ⟨rfl,rfl,rfl⟩:=hcs
  have hlm:len≤m:=by rw [hmm]; split <;> omega
  have each:∀ i,i<len→∃ t:Put6,∃ b off,some x=some ⟨b,off,none⟩∧W.cell? ⟨b,off+i * 6,none⟩=some (.int .i64 t.deal)∧W.cell? ⟨b,off+i * 6+1,none⟩=some (.int .i64 t.ph)∧W.cell? ⟨b,off+i * 6+2,none⟩=some (.int .i64 t.pr) ∧
    W.cell? ⟨b,off+i * 6+3,none⟩=some (.int .i64 t.at_)∧W.cell? ⟨b,off+i * 6+4,none⟩=some (.int .i64 t.cut)∧W.cell? ⟨b,off+i * 6+5,none⟩=some (.bool t.boot)∧t.cut≤9223372036854775807:=by
   intro i hi
   obtain ⟨cs,h1,h2⟩:=hx i (by omega)
   obtain ⟨t,rfl,g1⟩:=put_of_trod h2
   rw [cellsPut] at h1
   obtain ⟨_,_,h3⟩:=World.cells?_some h1
   have q0:=h3 0 (by omega)
   have q1:=h3 1 (by omega)
   have q2:=h3 2 (by omega)
   have q3:=h3 3 (by omega)
   have q4:=h3 4 (by omega)
   have q5:=h3 5 (by omega)
   obtain ⟨b,off,spot⟩:=x
   obtain ⟨cs0,g3,g4⟩:=hx 0 (by omega)
   obtain ⟨t0,rfl,_⟩:=put_of_trod g4
   rw [cellsPut] at g3
   obtain ⟨_,_,g5⟩:=World.cells?_some g3
   have hz:=g5 0 (by omega)
   have hsp:spot=none:=by
    cases spot with
    | none=>rfl
    | some k=>unfold World.cell? Addr.add at hz; simp at hz; revert hz; split <;> simp
   subst hsp
   simp only [Addr.add_lit] at q0 q1 q2 q3 q4 q5
   exact ⟨t,b,off,rfl,by simpa using q0,by simpa using q1,by simpa using q2,by simpa using q3,by simpa using q4,by simpa using q5,g1⟩
  have:Inhabited Put6:=⟨⟨0,0,0,0,0,false⟩⟩
  obtain ⟨f,hf⟩:=Deep.choose_lt each
  refine ⟨(List.range len).map f,by simp,by simp; omega,fun i h=>?_⟩
  have hi:i<len:=by simpa using h
  simpa using hf i hi
end Go.Proofs.YtkbbjkiinpimiaaDoor
