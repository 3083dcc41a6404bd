/-
  On the way to SActsProof: JG JH JI JK JN.
-/
import Derived.Test.YtkopfpaldmapdaaDoorBs13
import Derived.Test.YtkopfpaldmapdaaDoorBs10
import Derived.Deep.MidRow
set_option maxHeartbeats 8000000
set_option maxRecDepth 100000
namespace Go.Proofs.YtkopfpaldmapdaaDoor
open Go.RowKit
def bst (L:List UInt8) (d:Nat):Nat→Nat×St
 | 0=>(0,St.zero)
 | 1=>heldL (2 * d) (slotL L (2 * d))
 | _=>dealL L d
theorem bst_step (L:List UInt8) (d k:Nat) (hk:k<2) :
  bst L d (k+1)=if (1≤readN (slotL L (2 * d+k))∧readN (slotL L (2 * d+k)) % 2=k∧bodyL (readN (slotL L (2 * d+k))) (readS (slotL L (2 * d+k))) ++ [165]=slotL L (2 * d+k))∧(bst L d k).1<readN (slotL L (2 * d+k))
   then (readN (slotL L (2 * d+k)),readS (slotL L (2 * d+k))) else bst L d k:=by
 have hh:heldL (2 * d+k) (slotL L (2 * d+k))=if (1≤readN (slotL L (2 * d+k))∧readN (slotL L (2 * d+k)) % 2=k∧bodyL (readN (slotL L (2 * d+k))) (readS (slotL L (2 * d+k))) ++ [165]=slotL L (2 * d+k)) then (readN (slotL L (2 * d+k)),readS (slotL L (2 * d+k))) else (0,St.zero):=by
  unfold heldL
  rw [show (2 * d+k) % 2=k by omega]
 obtain rfl|rfl:k=0 ∨ k=1:=by omega
 ·show heldL (2 * d+0) (slotL L (2 * d+0))=_
  rw [hh]
  by_cases c:(1≤readN (slotL L (2 * d+0))∧readN (slotL L (2 * d+0)) % 2=0∧bodyL (readN (slotL L (2 * d+0))) (readS (slotL L (2 * d+0))) ++ [165]=slotL L (2 * d+0))
  ·rw [if_pos c,if_pos ⟨c,c.1⟩]
  ·rw [if_neg c,if_neg (fun h=>c h.1)]; rfl
 ·show dealL L d=_
  unfold dealL
  rw [hh]
  by_cases c:(1≤readN (slotL L (2 * d+1))∧readN (slotL L (2 * d+1)) % 2=1∧bodyL (readN (slotL L (2 * d+1))) (readS (slotL L (2 * d+1))) ++ [165]=slotL L (2 * d+1))
  ·rw [if_pos c]
   by_cases c2:(heldL (2 * d) (slotL L (2 * d))).1<readN (slotL L (2 * d+1))
   ·rw [if_pos c2,if_pos ⟨c,c2⟩]
   ·rw [if_neg c2,if_neg (fun h=>c2 h.2)]; rfl
  ·rw [if_neg c,if_neg (Nat.not_lt_zero _)]
   exact (if_neg (fun h=>c h.1)).symm
theorem bst_lt (L:List UInt8) (d:Nat):∀ k,(bst L d k).1<4294967296
 | 0=>(by decide:(0:Nat)<4294967296)
 | 1=>heldL_lt _ _
 | _+2=>by
  show (dealL L d).1<_
  unfold dealL
  split
  ·exact heldL_lt _ _
  ·exact heldL_lt _ _
theorem ext_slot (B:ByteArray) (k:Nat):(B.extract (18 * k) (18 * k+18)).data.toList=slotL B.data.toList k:=by
 rw [ext_list]; unfold slotL; rw [Nat.add_sub_cancel_left]
theorem held_is (t:ByteArray) (l:List UInt8) (k n:Nat) (s:St) (b:Bool) (w:World) (hl:t.data.toList=l) (h18:l.length=18) (hn:readN l=n) (hs:readS l=s) (hb:decide (1≤n∧n % 2=k∧bodyL n s ++ [165]=l)=b) :
  Calls Tryd.prog 88 #[.string t,.int .u32 (k:Int)] w fun e w'=>e=.returned (.tuple #[.agg #[.int .i64 (s.ph:Int),.int .i64 (s.pr:Int),.int .i64 (s.at_:Int),.int .u32 (n:Int)],.bool b])∧Below w.heap.size w w':=by
 have h:=held_any t k w (by rw [size_list,hl]; exact h18)
 rw [hl,hn,hs,hb] at h
 exact h
theorem cell_allocJ {w:World} {x:Addr} {v:Value} {o:Obj} (h:w.cell? x=some v):(w.alloc o).cell? x=some v:=by
 rw [World.cell?_alloc_lt _ _ _ (World.block_lt_of_cell? w x h)]; exact h
theorem place_is (d n r:Nat) (w:World) (hd:d≤100) (hn:n<4294967296) (hr:18 * (2 * d+n % 2)=r) :
  Calls Tryd.prog 58 #[.int .i64 (d:Int),.int .u32 (n:Int)] w fun e w'=>e=.returned (.int .i64 (r:Int))∧w'=w:=by
 rw [← hr]; exact place_any d n w hd hn
theorem newest_any (B:ByteArray) (d:Nat) (w:World) (hB:B.size=216) (hd:d<6) :
  Calls Tryd.prog 59 #[.string B,.int .i64 (d:Int)] w fun e w'=>e=.returned (entV (dealL B.data.toList d).1 (dealL B.data.toList d).2)∧Below w.heap.size w w':=by
 have HZ:Hid (∀ k,k<2→(slotL B.data.toList (2 * d+k)).length=18):=fun k hk=>slotL_length (by rw [size_list] at hB; omega)
 have HS:Hid (∀ k,k<2→bst B.data.toList d (k+1)=_):=fun k hk=>bst_step B.data.toList d k hk
 have HL:Hid (∀ k,(bst B.data.toList d k).1<4294967296):=bst_lt _ _
 have HE:Hid (∀ k,(B.extract (18 * k) (18 * k+18)).data.toList=slotL B.data.toList k):=ext_slot B
 have HF:Hid (bst B.data.toList d 2=dealL B.data.toList d):=rfl
 rw [← HF.out]
 have HI:Hid (bst B.data.toList d 0=(0,St.zero)):=rfl
 go_enter Tryd.func59,Tryd.ntmps59
 go_wp2
 go_loopw [10] (fun i wr=>∃ k:Nat,k≤2∧i=.int .u32 (k:Int)∧wr.heap[w.heap.size]? = some (.cells (entCells 0 St.zero) 113 (0,0))∧wr.heap[w.heap.size+1]? = some (.cells (entCells (bst B.data.toList d k).1 (bst B.data.toList d k).2) 113 (0,0))∧Below w.heap.size w wr) (fun i _=>2 - (intOf i).toNat)
 case atStart=>exact ⟨0,by omega,rfl,heap_alloc2_old _ _ _,by rw [HI.out]; exact heap_alloc2_new _ _ _,((Below.refl _ _).alloc (Nat.le_refl _) _).alloc (by simp) _⟩
 case round =>
  obtain ⟨k,hk,rfl,r0,r1,hb⟩:=hrel
  have hsz:=row_ltJ r1
  by_cases hlt:k<2
  ·have hz:=hid (HZ.out k hlt)
   obtain ⟨l,HLs⟩:∃ l,Hid (slotL B.data.toList (2 * d+k)=l):=⟨_,rfl⟩
   obtain ⟨r,HR⟩:∃ r,Hid (18 * (2 * d+k % 2)=r):=⟨_,rfl⟩
   have hr1:18 * (2 * d+k)=r:=by rw [← HR.out]; omega
   have hr2:r+18≤216:=by omega
   have hx:=hid (HE.out (2 * d+k))
   have hstep:=HS.out k hlt
   rw [HLs.out] at hz hx hstep
   rw [hr1] at hx
   have hm:=HL.out k
   obtain ⟨⟨m,bs⟩,HM⟩:∃ x,Hid (bst B.data.toList d k=x):=⟨_,rfl⟩
   rw [HM.out] at hm hstep r1
   obtain ⟨n,HN⟩:∃ n,Hid (readN l=n):=⟨_,rfl⟩
   obtain ⟨⟨ph,pr,a⟩,HSt⟩:∃ n,Hid (readS l=n):=⟨_,rfl⟩
   have hn:n<4294967296:=by rw [← HN.out]; exact readN_lt l
   rw [HN.out,HSt.out] at hstep
   obtain ⟨b,Hb⟩:∃ b:Bool,Hid (decide (1≤n∧n % 2=k∧bodyL n ⟨ph,pr,a⟩ ++ [165]=l)=b):=⟨_,hid (Eq.refl _)⟩
   have HSt2:=hid hstep
   have hsl:=slice_mid B r (r+18) (r:Int) ((r:Int)+18) rfl (by omega) (by omega) (by omega)
   obtain ⟨tt,Htt⟩:∃ t,Hid (B.extract r (r+18)=t):=⟨_,rfl⟩
   rw [Htt.out] at hsl hx
   have R0:=hid r0
   have R1:=hid r1
   have HB:=hid hb
   clear r0 r1 hb hstep hr1
   go_wp2_with (go_at_call 58; (with_reducible refine (place_is d k r _ (by omega) (by omega) HR.out).mono ?_); rintro e wx ⟨rfl,hx⟩; subst wx)
   refine (held_is tt l k n ⟨ph,pr,a⟩ b _ hx.out hz.out HN.out HSt.out Hb.out).mono ?_
   rintro e w1 ⟨rfl,hb1⟩
   have R1b:=hid ((hb1.block _ hsz).trans R1.out)
   have R0b:=hid ((hb1.block w.heap.size (by omega)).trans R0.out)
   have hs1:=row_ltJ R1b.out
   have HB1:=hid (HB.out.trans (hb1.mono HB.out.size))
   clear hb1
   obtain ⟨W,HW⟩:∃ W,Hid (w1.alloc (.cells #[.int .i64 (ph:Int),.int .i64 (pr:Int),.int .i64 (a:Int),.int .u32 (n:Int)] 113)=W):=⟨_,rfl⟩
   have Q1:Hid (W.heap[w.heap.size+1]? = some (.cells (entCells m bs) 113 (0,0))):=by rw [← HW.out]; exact (Below.heap_alloc w1 _ _ hs1).trans R1b.out
   have Q0:Hid (W.heap[w.heap.size]? = some (.cells (entCells 0 St.zero) 113 (0,0))):=by rw [← HW.out]; exact (Below.heap_alloc w1 _ _ (by omega)).trans R0b.out
   have QE:Hid (W.heap[w1.heap.size]? = some (.cells #[.int .i64 (ph:Int),.int .i64 (pr:Int),.int .i64 (a:Int),.int .u32 (n:Int)] 113 (0,0))):=by rw [← HW.out]; exact heap_alloc_new w1 _
   have HBW:Hid (Below w.heap.size w W):=by rw [← HW.out]; exact HB1.out.alloc HB1.out.size _
   have hW:=HW.out
   have c0:W.cell? ⟨w.heap.size+1,0,none⟩=some (.int .i64 (bs.ph:Int)):=by rw [cell_of_row _ _ _ _ _ _ Q1.out]; rfl
   have c1:W.cell? ⟨w.heap.size+1,1,none⟩=some (.int .i64 (bs.pr:Int)):=by rw [cell_of_row _ _ _ _ _ _ Q1.out]; rfl
   have c2:W.cell? ⟨w.heap.size+1,2,none⟩=some (.int .i64 (bs.at_:Int)):=by rw [cell_of_row _ _ _ _ _ _ Q1.out]; rfl
   have c3:W.cell? ⟨w.heap.size+1,3,none⟩=some (.int .u32 (m:Int)):=by rw [cell_of_row _ _ _ _ _ _ Q1.out]; rfl
   have f0:=frozen_of_row W _ 0 _ _ Q1.out
   have f1:=frozen_of_row W _ 1 _ _ Q1.out
   have f2:=frozen_of_row W _ 2 _ _ Q1.out
   have f3:=frozen_of_row W _ 3 _ _ Q1.out
   have e0:W.cell? ⟨w1.heap.size,0,none⟩=some (.int .i64 (ph:Int)):=by rw [cell_of_row _ _ _ _ _ _ QE.out]; rfl
   have e1:W.cell? ⟨w1.heap.size,1,none⟩=some (.int .i64 (pr:Int)):=by rw [cell_of_row _ _ _ _ _ _ QE.out]; rfl
   have e2:W.cell? ⟨w1.heap.size,2,none⟩=some (.int .i64 (a:Int)):=by rw [cell_of_row _ _ _ _ _ _ QE.out]; rfl
   have e3:W.cell? ⟨w1.heap.size,3,none⟩=some (.int .u32 (n:Int)):=by rw [cell_of_row _ _ _ _ _ _ QE.out]; rfl
   have fin:∀ x,(1≤n∧n % 2=k∧bodyL n ⟨ph,pr,a⟩ ++ [165]=l)∧m<n→x=(n,(⟨ph,pr,a⟩:St))→Hid (bst B.data.toList d (k+1)=x):=fun x c hx=>by unfold Hid; rw [HSt2.out,if_pos c,hx]
   have fin2:¬ ((1≤n∧n % 2=k∧bodyL n ⟨ph,pr,a⟩ ++ [165]=l)∧m<n)→Hid (bst B.data.toList d (k+1)=(m,bs)):=fun c=>by unfold Hid; rw [HSt2.out,if_neg c]
   cases b with
   | false =>
    have G:=fin2 (fun c=>of_decide_eq_false Hb.out c.1)
    clear fin fin2 HSt2
    go_wp2_with fail
    go_roundw
    case rel=>exact ⟨k+1,by omega,by go_num,Q0.out,by rw [G.out]; exact Q1.out,HBW.out⟩
    case measure=>simp [intOf]; omega
   | true =>
    have hd:=of_decide_eq_true Hb.out
    by_cases hc:m<n
    ·have G:=fin _ ⟨hd,hc⟩ rfl
     clear fin fin2 HSt2 hd
     have hne:=hid hs1
     have RS:=hid (rows2_set (w:=w) ⟨Q0.out,Q1.out,HBW.out⟩ (.int .i64 (ph:Int)) (.int .i64 (pr:Int)) (.int .i64 (a:Int)) (.int .u32 (n:Int)))
     go_wp2_with fail
     go_roundw
     case rel=>exact ⟨k+1,by omega,by go_num,RS.out.1,by rw [G.out]; exact RS.out.2.1,RS.out.2.2⟩
     case measure=>simp [intOf]; omega
    ·have G:=fin2 (fun c=>hc c.2)
     clear fin fin2 HSt2 hd
     go_wp2_with fail
     go_roundw
     case rel=>exact ⟨k+1,by omega,by go_num,Q0.out,by rw [G.out]; exact Q1.out,HBW.out⟩
     case measure=>simp [intOf]; omega
  ·obtain rfl:k=2:=by omega
   have R0:=hid r0
   have R1:=hid r1
   have HB:=hid hb
   have c0:wr.cell? ⟨w.heap.size+1,0,none⟩=some (.int .i64 ((bst B.data.toList d 2).2.ph:Int)):=by rw [cell_of_row _ _ _ _ _ _ R1.out]; rfl
   have c1:wr.cell? ⟨w.heap.size+1,1,none⟩=some (.int .i64 ((bst B.data.toList d 2).2.pr:Int)):=by rw [cell_of_row _ _ _ _ _ _ R1.out]; rfl
   have c2:wr.cell? ⟨w.heap.size+1,2,none⟩=some (.int .i64 ((bst B.data.toList d 2).2.at_:Int)):=by rw [cell_of_row _ _ _ _ _ _ R1.out]; rfl
   have c3:wr.cell? ⟨w.heap.size+1,3,none⟩=some (.int .u32 ((bst B.data.toList d 2).1:Int)):=by rw [cell_of_row _ _ _ _ _ _ R1.out]; rfl
   have g0:wr.cell? ⟨w.heap.size,0,none⟩=some (.int .i64 0):=by rw [cell_of_row _ _ _ _ _ _ R0.out]; rfl
   have g1:wr.cell? ⟨w.heap.size,1,none⟩=some (.int .i64 0):=by rw [cell_of_row _ _ _ _ _ _ R0.out]; rfl
   have g2:wr.cell? ⟨w.heap.size,2,none⟩=some (.int .i64 0):=by rw [cell_of_row _ _ _ _ _ _ R0.out]; rfl
   have g3:wr.cell? ⟨w.heap.size,3,none⟩=some (.int .u32 0):=by rw [cell_of_row _ _ _ _ _ _ R0.out]; rfl
   have f0:=frozen_of_row wr _ 0 _ _ R0.out
   have f1:=frozen_of_row wr _ 1 _ _ R0.out
   have f2:=frozen_of_row wr _ 2 _ _ R0.out
   have f3:=frozen_of_row wr _ 3 _ _ R0.out
   clear r0 r1 hb
   go_wp2_with fail
   refine bodyPost_ret (results_cell_row rfl _ _ w.heap.size 113 _ (0,0) _ rfl (set4 R0.out _ _ _ _) Tryd.underlying113 rfl sizeEnt) rfl ?_
   exact ⟨rfl,(((HB.out.setCell (Nat.le_refl _) _).setCell (Nat.le_refl _) _).setCell (Nat.le_refl _) _).setCell (Nat.le_refl _) _⟩
def entL (x:Nat×St):List Value:=[.int .i64 x.2.ph,.int .i64 x.2.pr,.int .i64 x.2.at_,.int .u32 x.1]
def jL (p:Nat) (E:Nat→Nat×St) (over:Bool):List Value:=.pointer (some ⟨p,0,none⟩) :: (entL (E 0) ++ (entL (E 1) ++ (entL (E 2) ++ (entL (E 3) ++ (entL (E 4) ++ (entL (E 5) ++ [.bool over]))))))
def JR (w:World) (j p:Nat) (E:Nat→Nat×St) (over:Bool):Prop:=w.heap[j]? = some (.cells (jL p E over).toArray 116 (0,0))
def updE (E:Nat→Nat×St) (d:Nat) (x:Nat×St):Nat→Nat×St:=fun e=>if e=d then x else E e
theorem JR.cell {w:World} {j p:Nat} {E:Nat→Nat×St} {over:Bool} (h:JR w j p E over) (i:Nat):w.cell? ⟨j,i,none⟩=(jL p E over)[i]?:=by
 rw [cell_of_row w j i _ _ _ h,List.getElem?_toArray]
theorem JR.plate {w:World} {j p:Nat} {E:Nat→Nat×St} {over:Bool} (h:JR w j p E over):w.cell? ⟨j,0,none⟩=some (.pointer (some ⟨p,0,none⟩)):=h.cell 0
theorem JR.over {w:World} {j p:Nat} {E:Nat→Nat×St} {over:Bool} (h:JR w j p E over):w.cell? ⟨j,25,none⟩=some (.bool over):=h.cell 25
theorem JR.fz {w:World} {j p:Nat} {E:Nat→Nat×St} {over:Bool} (h:JR w j p E over) (i:Nat):w.frozen? ⟨j,i,none⟩=false:=frozen_of_row w j i _ _ h
theorem six {d:Nat} (hd:d<6):d=0 ∨ d=1 ∨ d=2 ∨ d=3 ∨ d=4 ∨ d=5:=by omega
theorem JR.ent {w:World} {j p d:Nat} {E:Nat→Nat×St} {over:Bool} (h:JR w j p E over) (hd:d<6) :
  w.cell? ⟨j,1+d * 4,none⟩=some (.int .i64 (E d).2.ph)∧w.cell? ⟨j,1+d * 4+1,none⟩=some (.int .i64 (E d).2.pr)∧w.cell? ⟨j,1+d * 4+2,none⟩=some (.int .i64 (E d).2.at_)∧w.cell? ⟨j,1+d * 4+3,none⟩=some (.int .u32 (E d).1):=by
 rw [h.cell,h.cell,h.cell,h.cell]
 rcases six hd with rfl|rfl|rfl|rfl|rfl|rfl <;> exact ⟨rfl,rfl,rfl,rfl⟩
theorem JR.set {w:World} {j p d:Nat} {E:Nat→Nat×St} {over:Bool} (h:JR w j p E over) (hd:d<6) (x:Nat×St) :
  JR ((((w.setCell ⟨j,1+d * 4,none⟩ (.int .i64 x.2.ph)).setCell ⟨j,1+d * 4+1,none⟩ (.int .i64 x.2.pr)).setCell ⟨j,1+d * 4+2,none⟩ (.int .i64 x.2.at_)).setCell ⟨j,1+d * 4+3,none⟩ (.int .u32 x.1)) j p (updE E d x) over:=by
 have h0:=heap_setCell_same w j (1+d * 4) _ _ (.int .i64 x.2.ph) h
 have h1:=heap_setCell_same _ j (1+d * 4+1) _ _ (.int .i64 x.2.pr) h0
 have h2:=heap_setCell_same _ j (1+d * 4+2) _ _ (.int .i64 x.2.at_) h1
 have h3:=heap_setCell_same _ j (1+d * 4+3) _ _ (.int .u32 x.1) h2
 unfold JR
 rw [h3]
 rcases six hd with rfl|rfl|rfl|rfl|rfl|rfl <;> rfl
theorem JR.setOver {w:World} {j p:Nat} {E:Nat→Nat×St} {over:Bool} (h:JR w j p E over) (b:Bool):JR (w.setCell ⟨j,25,none⟩ (.bool b)) j p E b:=by
 unfold JR
 rw [heap_setCell_same w j 25 _ _ _ h]
 rfl
theorem JR.ext {w:World} {j p:Nat} {E F:Nat→Nat×St} {over:Bool} (h:JR w j p E over) (he:∀ d,d<6→E d=F d):JR w j p F over:=by
 unfold JR jL at h ⊢
 rw [← he 0 (by decide),← he 1 (by decide),← he 2 (by decide),← he 3 (by decide),← he 4 (by decide),← he 5 (by decide)]
 exact h
theorem JR.drew {w:World} {j p:Nat} {E:Nat→Nat×St} {over:Bool} (h:JR w j p E over):JR w.drew j p E over:=h
theorem JR.later {w w':World} {j p B:Nat} {E:Nat→Nat×St} {over:Bool} (h:JR w j p E over) (hb:Below B w w') (hj:j<B):JR w' j p E over:=(hb.block j hj).trans h
theorem JR.lt {w:World} {j p:Nat} {E:Nat→Nat×St} {over:Bool} (h:JR w j p E over):j<w.heap.size:=row_ltJ h
theorem wr_of (B s:ByteArray) (l:Int) (a:Nat) (h:a+s.size≤B.size) (h0:0<s.size):Wr B.data.toList a s.data.toList (wB B s l a).data.toList (wC B s l a):=by
 have hb:¬ wBad B s a:=by unfold wBad; omega
 by_cases hl:l=-2
 ·simp only [wC,wB,if_neg hb,if_pos hl]
  exact .inr ⟨rfl,0,by rw [← size_list]; exact h0,by rw [List.take_zero,putL_nil]⟩
 ·by_cases hn:0≤l∧l<s.size
  ·simp only [wC,wB,if_neg hb,if_neg hl,if_pos hn,Int.toNat_natCast]
   refine .inr ⟨rfl,l.toNat,by rw [← size_list]; omega,?_⟩
   rw [putB_putL (by omega)]
  ·simp only [wC,wB,if_neg hb,if_neg hl,if_neg hn,Int.toNat_natCast]
   refine .inl ⟨rfl,?_⟩
   rw [putB_putL (Nat.le_refl _),size_list,List.take_length]
theorem wL_off (B s:ByteArray) (l:Int) (a:Nat) (h:wC B s l a=6):wL B s l a=-2:=by
 unfold wC at h
 unfold wL
 split at h
 ·cases h
 ·rename_i hb
  rw [if_neg hb]
  split at h
  ·rename_i hl; rw [if_pos hl]
  ·rename_i hl
   rw [if_neg hl]
   split at h
   ·rename_i hn; rw [if_pos hn]
   ·cases h
end Go.Proofs.YtkopfpaldmapdaaDoor
namespace Go.Proofs.YtkopfpaldmapdaaDoor
open Go.RowKit
theorem slotL_take (L:List UInt8) (k:Nat) (hk:k<12):slotL (L.take 216) k=slotL L k:=by
 apply List.ext_getElem?
 intro m
 rw [slotL_get,slotL_get]
 split
 ·rw [List.getElem?_take,if_pos (by omega)]
 ·rfl
theorem dealL_take (L:List UInt8) (d:Nat) (hd:d<6):dealL (L.take 216) d=dealL L d:=by
 unfold dealL
 rw [slotL_take L _ (by omega),slotL_take L _ (by omega)]
theorem newest_is (B:ByteArray) (d n ph pr a:Nat) (w:World) (hB:B.size=216) (hd:d<6) (h:dealL B.data.toList d=(n,⟨ph,pr,a⟩)) :
  Calls Tryd.prog 59 #[.string B,.int .i64 (d:Int)] w fun e w'=>e=.returned (.agg #[.int .i64 (ph:Int),.int .i64 (pr:Int),.int .i64 (a:Int),.int .u32 (n:Int)])∧Below w.heap.size w w':=by
 have:=newest_any B d w hB hd
 rw [h] at this
 exact this
def openE (L:List UInt8) (k:Nat):Nat→Nat×St:=fun d=>if d<k then dealL L d else (0,St.zero)
theorem openE_step (L:List UInt8) (k:Nat):openE L (k+1)=updE (openE L k) k (dealL L k):=by
 funext d
 unfold openE updE
 by_cases h:d=k
 ·subst h; rw [if_pos (by omega),if_pos rfl]
 ·rw [if_neg h]
  show _=if d<k then dealL L d else (0,St.zero)
  by_cases h2:d<k
  ·rw [if_pos (by omega),if_pos h2]
  ·rw [if_neg (by omega),if_neg h2]
theorem place6 (w:World):Calls Tryd.prog 58 #[.int .i64 6,.int .u32 0] w fun e w'=>e=.returned (.int .i64 216)∧w'=w:=place_any 6 0 w (by omega) (by omega)
theorem read6 (A:Nat→Addr) (p q:Nat) (B X:ByteArray) (l:Int) (w:World) (h:Pl w p q B l) (hE:HeldE w A) (hB:B.size≤1000) (hl:¬ l=-2) (hb:216≤B.size) (hX:B.extract 0 (0+216)=X) :
  Calls Tryd.prog 57 #[.pointer (some ⟨p,0,none⟩),.int .i64 0,.int .i64 216] w fun e w'=>e=.returned (.tuple #[.string X,.nilIface])∧w'=w:=by
 rw [← hX]; exact pread_ok A p q B l 0 216 w h hE hB hl (by omega)
theorem openE_all (L:List UInt8) (d:Nat) (hd:d<6):openE L 6 d=dealL L d:=if_pos hd
theorem open_ok (A:Nat→Addr) (p q:Nat) (B:ByteArray) (l:Int) (w:World) (h:Pl w p q B l) (hE:HeldE w A) (hB:B.size≤1000) (h6:216≤B.size) (hl:¬ l=-2) :
  Calls Tryd.prog 39 #[.pointer (some ⟨p,0,none⟩)] w fun e w'=>∃ j,e=.returned (.tuple #[.pointer (some ⟨j,0,none⟩),.nilIface])∧JR w' j p (dealL B.data.toList) false∧Below w.heap.size w w'∧w.heap.size≤j:=by
 have H:=hid h
 have HE:=hid hE
 have HL:=hid hl
 obtain ⟨X,HX⟩:∃ X,Hid (B.extract 0 (0+216)=X):=⟨_,rfl⟩
 have HXl:Hid (X.data.toList=B.data.toList.take 216):=by rw [← HX.out,]; unfold Hid; rw [ext_list]; rfl
 have hX:X.size=216:=by rw [size_list,HXl.out,List.length_take,← size_list]; omega
 have HF:Hid (∀ w' j,JR w' j p (openE X.data.toList 6) false→JR w' j p (dealL B.data.toList) false):=fun w' j hj=>hj.ext (fun d hd=>by rw [openE_all _ _ hd,HXl.out,dealL_take _ _ hd])
 have HS:Hid (∀ k,openE X.data.toList (k+1)=updE (openE X.data.toList k) k (dealL X.data.toList k)):=openE_step _
 have H0:Hid (openE X.data.toList 0=fun _=>(0,St.zero)):=by unfold Hid openE; funext d; rw [if_neg (by omega)]
 clear h hE hl
 go_enter Tryd.func39,Tryd.ntmps39
 go_wp2_with (first|(go_at_call 58; refine (place6 _).mono ?_; rintro e wx ⟨rfl,hx⟩; subst wx)|(go_at_call 57; refine (read6 A p q B X l _ H.out HE.out hB HL.out h6 HX.out).mono ?_; rintro e wx ⟨rfl,hx⟩; subst wx))
 go_loopw [23] (fun i wr=>∃ k:Nat,k≤6∧i=.int .i64 (k:Int)∧JR wr w.heap.size p (openE X.data.toList k) false∧Below w.heap.size w wr) (fun i _=>6 - (intOf i).toNat)
 case atStart=>exact ⟨0,by omega,rfl,by rw [H0.out]; exact heap_alloc_new w _,(Below.refl _ _).alloc (Nat.le_refl _) _⟩
 case round =>
  obtain ⟨k,hk,rfl,hJ,hb⟩:=hrel
  have HJ:=hid hJ
  have HB:=hid hb
  clear hJ hb
  by_cases hlt:k<6
  ·obtain ⟨⟨n,ph,pr,a⟩,HD⟩:∃ x,Hid (dealL X.data.toList k=x):=⟨_,rfl⟩
   go_wp2_with fail
   go_region_held3 (fun _=>True) (trivial) (first|(go_at_call 59; (with_reducible refine (newest_is X k n ph pr a _ hX hlt HD.out).mono ?_); rintro e w2 ⟨rfl,hb2⟩; have HJ2:=hid (HJ.out.drew.later hb2 HJ.out.lt); have HB2:=hid (HB.out.drew.trans (hb2.mono HB.out.size)); obtain ⟨c0,c1,c2,c3⟩:=HJ2.out.ent hlt; have f0:=HJ2.out.fz (1+k * 4); have f1:=HJ2.out.fz (1+k * 4+1); have f2:=HJ2.out.fz (1+k * 4+2); have f3:=HJ2.out.fz (1+k * 4+3); clear hb2))
   all_goals go_wp2_with fail
   all_goals go_roundw
   case rel=>exact ⟨k+1,by omega,by go_num,by rw [HS.out,HD.out]; exact HJ2.out.set hlt (n,⟨ph,pr,a⟩),(((HB2.out.setCell (Nat.le_refl _) _).setCell (Nat.le_refl _) _).setCell (Nat.le_refl _) _).setCell (Nat.le_refl _) _⟩
   case measure=>simp [intOf]; omega
  ·obtain rfl:k=6:=by omega
   go_wp2_with fail
   go_ret2
   exact ⟨w.heap.size,rfl,HF.out _ _ HJ.out,HB.out,Nat.le_refl _⟩
theorem sizeState:(Tryd.prog.info? 34).map (·.size)=some 3:=by kernel_rfl
theorem set3 {w:World} {g:Nat} {a b c:Value} {t:TypeId} (h:w.heap[g]? = some (.cells #[a,b,c] t (0,0))) (x0 x1 x2:Value) :
  (((w.setCell ⟨g,0,none⟩ x0).setCell ⟨g,1,none⟩ x1).setCell ⟨g,2,none⟩ x2).heap[g]? = some (.cells #[x0,x1,x2] t (0,0)):=by
 have h0:=heap_setCell_same w g 0 _ _ x0 h
 have h1:=heap_setCell_same _ g 1 _ _ x1 h0
 exact heap_setCell_same _ g 2 _ _ x2 h1
def stV (s:St):Value:=.agg #[.int .i64 s.ph,.int .i64 s.pr,.int .i64 s.at_]
theorem get_ok (j p d:Nat) (E:Nat→Nat×St) (over:Bool) (w:World) (h:JR w j p E over) (hd:d<6) :
  Calls Tryd.prog 40 #[.pointer (some ⟨j,0,none⟩),.int .i64 (d:Int)] w fun e w'=>e=.returned (.tuple #[stV (E d).2,.nilIface])∧Below w.heap.size w w':=by
 have HK:Hid (decide (0≤(d:Int)∧(d:Int)<6)=true):=decide_eq_true ⟨by omega,by omega⟩
 obtain ⟨c0,c1,c2,c3⟩:=h.ent hd
 have hj:=h.lt
 unfold stV
 generalize (E d).2.ph=ph at c0 ⊢
 generalize (E d).2.pr=pr at c1 ⊢
 generalize (E d).2.at_=a at c2 ⊢
 clear h
 go_enter Tryd.func40,Tryd.ntmps40
 go_wp2_with (go_at_call 60; refine (known_any d _).mono ?_; rw [HK.out]; rintro e wx ⟨rfl,hx⟩; subst wx)
 refine bodyPost_ret (results_row2 rfl _ _ w.heap.size 34 #[.int .i64 (ph:Int),.int .i64 (pr:Int),.int .i64 (a:Int)] (0,0) _ rfl (heap_alloc_new w _) Tryd.underlying34 rfl sizeState) rfl ?_
 exact ⟨rfl,(Below.refl _ _).alloc (Nat.le_refl _) _⟩
theorem get_bad (A:Nat→Addr) (v:Value) (d:Int) (w:World) (hE:HeldE w A) (hd:¬ (0≤d∧d<6)) :
  Calls Tryd.prog 40 #[v,.int .i64 d] w fun e w'=>e=.returned (.tuple #[stV St.zero,.iface 189 (.pointer (some (A 1)))])∧Below w.heap.size w w':=by
 have HK:Hid (decide (0≤d∧d<6)=false):=decide_eq_false hd
 have g1:=hE.g1
 have g1b:=cell_allocJ (o:=.cells #[.int .i64 0,.int .i64 0,.int .i64 0] 34) g1
 clear hE hd
 go_enter Tryd.func40,Tryd.ntmps40
 go_wp2_with (go_at_call 60; refine (known_any d _).mono ?_; rw [HK.out]; rintro e wx ⟨rfl,hx⟩; subst wx)
 go_region
 all_goals go_wp2
 refine bodyPost_ret (results_row2 rfl _ _ w.heap.size 34 #[.int .i64 0,.int .i64 0,.int .i64 0] (0,0) _ rfl (heap_alloc_new w _) Tryd.underlying34 rfl sizeState) rfl ?_
 exact ⟨rfl,((Below.refl _ _).alloc (Nat.le_refl _) _).drew⟩
theorem open_bad (A:Nat→Addr) (p q:Nat) (B:ByteArray) (l:Int) (c:Nat) (w:World) (h:Pl w p q B l) (hE:HeldE w A) (hB:B.size≤1000) (hc:rC B l 0 216=c+1) :
  Calls Tryd.prog 39 #[.pointer (some ⟨p,0,none⟩)] w fun e w'=>e=.returned (.tuple #[.pointer none,.iface 189 (.pointer (some (A c)))])∧w'=w:=by
 have H:=hid h
 have HE:=hid hE
 have HC:=hid hc
 clear h hE hc
 go_enter Tryd.func39,Tryd.ntmps39
 go_wp2_with (first|(go_at_call 58; refine (place6 _).mono ?_; rintro e wx ⟨rfl,hx⟩; subst wx)|(go_at_call 57; refine (read_bad A p q B l 0 216 c _ H.out HE.out hB (by omega) HC.out).mono ?_; rintro e wx ⟨rfl,hx⟩; subst wx))
 go_ret2
 exact ⟨rfl,rfl⟩
structure JP (w0 w:World) (j p q:Nat) (E:Nat→Nat×St) (over:Bool) (B:ByteArray) (l:Int):Prop where
 bel:Below w0.heap.size w0 w
 jr:JR w j p E over
 pl:Pl w p q B l
 jp:j≠p
 jq:j≠q
 j0:w0.heap.size≤j
 p0:w0.heap.size≤p
 q0:w0.heap.size≤q
 l0:-2≤l
 l1:l≤9223372036854775807
 sz:B.size≤1000
 s6:216≤B.size
section
variable {w0 w w':World} {j p q:Nat} {E:Nat→Nat×St} {over:Bool} {B B':ByteArray} {l l':Int} {A:Nat→Addr}
theorem JP.later (h:JP w0 w j p q E over B l) (hb:Below w.heap.size w w'):JP w0 w' j p q E over B l :=
 ⟨h.bel.trans (hb.mono h.bel.size),h.jr.later hb h.jr.lt,h.pl.kept (S:=fun _=>False) (Kept.of_below hb) (fun x=>x) (fun x=>x),h.jp,h.jq,h.j0,h.p0,h.q0,h.l0,h.l1,h.sz,h.s6⟩
theorem JP.drew (h:JP w0 w j p q E over B l):JP w0 w.drew j p q E over B l:=h.later (Below.refl _ _).drew
theorem JP.plate (h:JP w0 w j p q E over B l) (hk:Kept (In2 p q) w w') (hp:Pl w' p q B' l') (h0:-2≤l') (h1:l'≤9223372036854775807) (hs:B'.size=B.size):JP w0 w' j p q E over B' l' :=
 ⟨hk.below h.bel.size (fun k g=>by have:=h.p0; have:=h.q0; unfold In2 at g; omega) h.bel,hk.row h.jr (fun g=>g.elim h.jp h.jq),hp,h.jp,h.jq,h.j0,h.p0,h.q0,h0,h1,by rw [hs]; exact h.sz,by rw [hs]; exact h.s6⟩
theorem JP.held (h:JP w0 w j p q E over B l) (hE:HeldE w0 A):HeldE w A:=hE.later h.bel
theorem JP.gp (h:JP w0 w j p q E over B l) (hE:HeldE w0 A):1≠p∧1≠q:=by
 have:=cell_lt hE.g5
 have:=h.p0
 have:=h.q0
 exact ⟨fun e=>by subst e; simp at *; omega,fun e=>by subst e; simp at *; omega⟩
theorem JP.own {E':Nat→Nat×St} {over':Bool} (h:JP w0 w j p q E over B l) (hk:Kept (In1 j) w w') (hj:JR w' j p E' over'):JP w0 w' j p q E' over' B l :=
 ⟨hk.below h.bel.size (fun k g=>by have:=h.j0; unfold In1 at g; omega) h.bel,hj,h.pl.kept hk (fun g=>h.jp g.symm) (fun g=>h.jq g.symm),h.jp,h.jq,h.j0,h.p0,h.q0,h.l0,h.l1,h.sz,h.s6⟩
end
theorem wL_ge (B s:ByteArray) (l a:Int) (h:-2≤l):-2≤wL B s l a:=by
 unfold wL
 repeat' split
 all_goals omega
theorem wL_le (B s:ByteArray) (l a:Int) (h:l≤9223372036854775807):wL B s l a≤9223372036854775807:=by
 unfold wL
 repeat' split
 all_goals omega
theorem write_jp (A:Nat→Addr) (w0 w:World) (j p q:Nat) (E:Nat→Nat×St) (over:Bool) (B s:ByteArray) (l a:Int) (h:JP w0 w j p q E over B l) (hE:HeldE w0 A) (hs:s.size≤1000) (c:Nat) (hc:wC B s l a=c) :
  Calls Tryd.prog 91 #[.pointer (some ⟨p,0,none⟩),.int .i64 a,.string s] w fun e w'=>e=.returned (ev A c)∧JP w0 w' j p q E over (wB B s l a) (wL B s l a)∧Kept (In2 p q) w w':=by
 rw [← hc]
 refine (write_pl A p q B s l a w h.pl (h.held hE) h.sz hs h.l0 h.l1 (h.gp hE).1 (h.gp hE).2).mono ?_
 rintro e w' ⟨rfl,hp,hk⟩
 exact ⟨rfl,h.plate hk hp (wL_ge B s l a h.l0) (wL_le B s l a h.l1) (wB_size B s l a),hk⟩
structure Out where
 c:Nat
 b:ByteArray
 l:Int
def wOut (B s:ByteArray) (l:Int) (a:Nat):Out:=⟨wC B s l a,wB B s l a,wL B s l a⟩
def fill1 (B:ByteArray) (l:Int) (k:Nat):Out:=if l=-2 then ⟨6,B,l⟩ else if B.data.toList[18 * k+17]? = some 0 then ⟨0,B,l⟩ else wOut B (bA [0]) l (18 * k+17)
def fill2 (B:ByteArray) (l:Int) (k n:Nat) (s:St):Out:=if (fill1 B l k).c=0 then wOut (fill1 B l k).b (bA (bodyL n s)) (fill1 B l k).l (18 * k) else fill1 B l k
def fill3 (B:ByteArray) (l:Int) (k n:Nat) (s:St):Out:=if (fill2 B l k n s).c=0 then wOut (fill2 B l k n s).b (bA [165]) (fill2 B l k n s).l (18 * k+17) else fill2 B l k n s
end Go.Proofs.YtkopfpaldmapdaaDoor
namespace Go.Proofs.YtkopfpaldmapdaaDoor
theorem wL_on (B s:ByteArray) (l a:Int) (h:wC B s l a=0):wL B s l a≠-2:=by
 unfold wC at h
 unfold wL
 split at h
 ·cases h
 ·rename_i hb
  rw [if_neg hb]
  split at h
  ·cases h
  ·rename_i hl
   rw [if_neg hl]
   split at h
   ·cases h
   ·rename_i hn
    rw [if_neg hn]
    split <;> omega
theorem wFree (B s:ByteArray) (a:Nat) (h:a+s.size≤B.size):wC B s (-1) a=0∧wL B s (-1) a=-1:=by
 have hb:¬ wBad B s a:=by unfold wBad; omega
 unfold wC wL
 have h1:¬ ((-1:Int)=-2):=by decide
 have h2:¬ (0≤(-1:Int)∧(-1:Int)<s.size):=by omega
 rw [if_neg hb,if_neg hb,if_neg h1,if_neg h1,if_neg h2,if_neg h2,if_pos (by decide)]
 exact ⟨rfl,rfl⟩
section
variable {B:ByteArray} {l:Int} {k n:Nat} {s:St}
theorem fill1_out (hB:18 * (k+1)≤B.size):((fill1 B l k).c=0∧Zeroed B.data.toList k (fill1 B l k).b.data.toList∧(fill1 B l k).l≠-2) ∨ ((fill1 B l k).c=6∧Torn B.data.toList k (fill1 B l k).b.data.toList∧(fill1 B l k).l=-2):=by
 unfold fill1
 by_cases hl:l=-2
 ·rw [if_pos hl]
  exact .inr ⟨rfl,⟨Only.refl _ _,.inl rfl⟩,hl⟩
 ·rw [if_neg hl]
  by_cases hz:B.data.toList[18 * k+17]? = some 0
  ·rw [if_pos hz]
   exact .inl ⟨rfl,zero_skip hz,hl⟩
  ·rw [if_neg hz]
   have hw:=wr_of B (bA [0]) l (18 * k+17) (by rw [bA_size]; simp; omega) (by rw [bA_size]; exact Nat.one_pos)
   rw [bA_list] at hw
   rcases zero_wr (by rw [← size_list]; exact hB) hw with ⟨c,z⟩|⟨c,t⟩
   ·exact .inl ⟨c,z,wL_on _ _ _ _ c⟩
   ·exact .inr ⟨c,t,wL_off _ _ _ _ c⟩
theorem fill1_size:(fill1 B l k).b.size=B.size:=by
 unfold fill1
 repeat' split
 ·rfl
 ·rfl
 ·exact wB_size _ _ _ _
theorem fill2_size:(fill2 B l k n s).b.size=B.size:=by
 unfold fill2
 split
 ·exact (wB_size _ _ _ _).trans fill1_size
 ·exact fill1_size
theorem fill2_out (hB:18 * (k+1)≤B.size):((fill2 B l k n s).c=0∧Bodied B.data.toList k n s (fill2 B l k n s).b.data.toList∧(fill2 B l k n s).l≠-2) ∨ ((fill2 B l k n s).c=6∧Torn B.data.toList k (fill2 B l k n s).b.data.toList∧(fill2 B l k n s).l=-2):=by
 have hs:=fill1_size (B:=B) (l:=l) (k:=k)
 unfold fill2
 rcases fill1_out (l:=l) hB with ⟨c,z,ho⟩|⟨c,t,ho⟩
 ·rw [if_pos c]
  have hw:=wr_of (fill1 B l k).b (bA (bodyL n s)) (fill1 B l k).l (18 * k) (by rw [bA_size,bodyL_length,hs]; omega) (by rw [bA_size,bodyL_length]; decide)
  rw [bA_list] at hw
  rcases body_wr (by rw [← size_list]; exact hB) z hw with ⟨c2,z2⟩|⟨c2,t2⟩
  ·exact .inl ⟨c2,z2,wL_on _ _ _ _ c2⟩
  ·exact .inr ⟨c2,t2,wL_off _ _ _ _ c2⟩
 ·rw [if_neg (by omega)]
  exact .inr ⟨c,t,ho⟩
theorem fill3_out (hB:18 * (k+1)≤B.size):((fill3 B l k n s).c=0∧Done B.data.toList k n s (fill3 B l k n s).b.data.toList∧(fill3 B l k n s).l≠-2) ∨ ((fill3 B l k n s).c=6∧Torn B.data.toList k (fill3 B l k n s).b.data.toList∧(fill3 B l k n s).l=-2):=by
 have hs:=fill2_size (B:=B) (l:=l) (k:=k) (n:=n) (s:=s)
 unfold fill3
 rcases fill2_out (l:=l) (n:=n) (s:=s) hB with ⟨c,z,ho⟩|⟨c,t,ho⟩
 ·rw [if_pos c]
  have hw:=wr_of (fill2 B l k n s).b (bA [165]) (fill2 B l k n s).l (18 * k+17) (by rw [bA_size,hs]; simp; omega) (by rw [bA_size]; exact Nat.one_pos)
  rw [bA_list] at hw
  rcases last_wr (by rw [← size_list]; exact hB) z hw with ⟨c2,z2⟩|⟨c2,t2⟩
  ·exact .inl ⟨c2,z2,wL_on _ _ _ _ c2⟩
  ·exact .inr ⟨c2,t2,wL_off _ _ _ _ c2⟩
 ·rw [if_neg (by omega)]
  exact .inr ⟨c,t,ho⟩
theorem fill3_free (hB:18 * (k+1)≤B.size):(fill3 B (-1) k n s).c=0∧(fill3 B (-1) k n s).l=-1:=by
 have h1:(fill1 B (-1) k).c=0∧(fill1 B (-1) k).l=-1:=by
  unfold fill1
  rw [if_neg (by decide)]
  split
  ·exact ⟨rfl,rfl⟩
  ·exact wFree _ _ (18 * k+17) (by rw [bA_size]; simp; omega)
 have s1:=fill1_size (B:=B) (l:=-1) (k:=k)
 have h2:(fill2 B (-1) k n s).c=0∧(fill2 B (-1) k n s).l=-1:=by
  unfold fill2
  rw [if_pos h1.1,h1.2]
  exact wFree _ _ (18 * k) (by rw [bA_size,bodyL_length,s1]; omega)
 have s2:=fill2_size (B:=B) (l:=-1) (k:=k) (n:=n) (s:=s)
 unfold fill3
 rw [if_pos h2.1,h2.2]
 exact wFree _ _ (18 * k+17) (by rw [bA_size,s2]; simp; omega)
end
end Go.Proofs.YtkopfpaldmapdaaDoor
