/-
  On the way to SPlaysProof: JF JG JH L4 L5 L6 RB.
-/
import Derived.Test.YtaehdgemkafinaaGreatDoorBw3
import Derived.Test.YtaehdgemkafinaaGreatDoorBw5
import Derived.Deep.MidRow
set_option maxHeartbeats 8000000
set_option maxRecDepth 100000
namespace Go.Proofs.YtaehdgemkafinaaGreatDoor
open Go.RowKit
theorem results_row2 {P:Program} {fn:Func} {p u:Tmp} {ty:TypeId} (h:fn.results=#[.cell p ty,.tmp u]) (tmps:Array Value) (w:World) (g:Nat) (t:TypeId) (cs:Array Value) (fr:Nat×Nat) (d:TypeDesc)
  (hp:tmps.getD p undef=.pointer (some ⟨g,0,none⟩)) (hg:w.heap[g]? = some (.cells cs t fr))
  (hu:P.underlying ty=some d) (hd:(match d with|.struct _|.array _ _=>true|_=>false)=true) (hi:(P.info? ty).map (·.size)=some cs.size) :
  (results fn tmps).run P w=.ok (.tuple #[.agg cs,tmps.getD u undef]) w:=by
 rw [results_cell_tmp h,hp]
 simp [asAddr,run_loadVar_row w g t ty cs fr d hg hu hd hi]
theorem set4 {w:World} {g:Nat} {a b c d:Value} {t:TypeId} (h:w.heap[g]? = some (.cells #[a,b,c,d] t (0,0))) (x0 x1 x2 x3:Value) :
  ((((w.setCell ⟨g,0,none⟩ x0).setCell ⟨g,1,none⟩ x1).setCell ⟨g,2,none⟩ x2).setCell ⟨g,3,none⟩ x3).heap[g]? = some (.cells #[x0,x1,x2,x3] t (0,0)):=by
 have h0:=heap_setCell_same w g 0 _ _ x0 h
 have h1:=heap_setCell_same _ g 1 _ _ x1 h0
 have h2:=heap_setCell_same _ g 2 _ _ x2 h1
 exact heap_setCell_same _ g 3 _ _ x3 h2
theorem heap_drewJ (w:World) (n:Nat):(w.drewN n).heap=w.heap:=by
 induction n with
 | zero=>rfl
 | succ n ih=>first|exact ih|(unfold World.drewN; exact ih)|(simp [World.drewN]; done)
def Rows2 (w wx:World) (z e:Obj):Prop:=wx.heap[w.heap.size]? = some z∧wx.heap[w.heap.size+1]? = some e∧Below w.heap.size w wx
theorem rows2_a (w:World) (z e:Obj) (m:Nat):Rows2 w (((w.alloc z).drewN m).alloc e) z e:=by
 have h1:((w.alloc z).drewN m).heap.size=w.heap.size+1:=by rw [heap_drewJ]; simp
 refine ⟨?_,?_,?_⟩
 ·rw [Below.heap_alloc _ _ _ (by omega),heap_drewJ]; exact heap_alloc_new w z
 ·rw [← h1]; exact heap_alloc_new _ _
 ·exact (below_drewN ((Below.refl _ _).alloc (Nat.le_refl _) z) m).alloc (by omega) e
theorem rows2_drew {w wx:World} {z e:Obj} (h:Rows2 w wx z e) (m:Nat):Rows2 w (wx.drewN m) z e :=
 ⟨by rw [heap_drewJ]; exact h.1,by rw [heap_drewJ]; exact h.2.1,below_drewN h.2.2 m⟩
theorem rows2_set {w wx:World} {z:Obj} {a b c d:Value} {t:TypeId} (h:Rows2 w wx z (.cells #[a,b,c,d] t (0,0))) (x0 x1 x2 x3:Value) :
  Rows2 w ((((wx.setCell ⟨w.heap.size+1,0,none⟩ x0).setCell ⟨w.heap.size+1,1,none⟩ x1).setCell ⟨w.heap.size+1,2,none⟩ x2).setCell ⟨w.heap.size+1,3,none⟩ x3) z (.cells #[x0,x1,x2,x3] t (0,0)):=by
 refine ⟨?_,set4 h.2.1 x0 x1 x2 x3,(((h.2.2.setCell (Nat.le_succ _) _).setCell (Nat.le_succ _) _).setCell (Nat.le_succ _) _).setCell (Nat.le_succ _) _⟩
 rw [heap_setCell_other _ _ _ _ (by simp),heap_setCell_other _ _ _ _ (by simp),heap_setCell_other _ _ _ _ (by simp),heap_setCell_other _ _ _ _ (by simp)]
 exact h.1
theorem rows2_b (w:World) (z:Obj) (a b c d:Value) (t:TypeId) (m m':Nat) (x0 x1 x2 x3:Value) :
  Rows2 w (((((((w.alloc z).drewN m).alloc (.cells #[a,b,c,d] t (0,0))).drewN m').setCell ⟨w.heap.size+1,0,none⟩ x0).setCell ⟨w.heap.size+1,1,none⟩ x1).setCell ⟨w.heap.size+1,2,none⟩ x2 |>.setCell ⟨w.heap.size+1,3,none⟩ x3) z (.cells #[x0,x1,x2,x3] t (0,0)) :=
 rows2_set (rows2_drew (rows2_a w z _ m) m') x0 x1 x2 x3
theorem rows2_c (w:World) (z:Obj) (a b c d:Value) (t:TypeId) (m':Nat) (x0 x1 x2 x3:Value) :
  Rows2 w ((((((w.alloc z).alloc (.cells #[a,b,c,d] t (0,0))).drewN m').setCell ⟨w.heap.size+1,0,none⟩ x0).setCell ⟨w.heap.size+1,1,none⟩ x1).setCell ⟨w.heap.size+1,2,none⟩ x2 |>.setCell ⟨w.heap.size+1,3,none⟩ x3) z (.cells #[x0,x1,x2,x3] t (0,0)) :=
 rows2_set (rows2_drew (rows2_a w z _ 0) m') x0 x1 x2 x3
theorem sizeEnt:(Tryz.prog.info? 164).map (·.size)=some 4:=by kernel_rfl
def entCells (n:Nat) (s:St):Array Value:=#[.int .i64 s.ph,.int .i64 s.pr,.int .i64 s.at_,.int .u32 n]
theorem numL_lt4 (l:List UInt8):numL (l.take 4)<4294967296:=readN_lt l
theorem readS_fits (t:List UInt8):(readS t).fits:=by
 have h1:=numL_lt ((t.drop 4).take 1)
 have h1':256 ^ ((t.drop 4).take 1).length≤256 ^ 1:=Nat.pow_le_pow_right (by decide) (by simp; omega)
 refine ⟨by show numL _<_; omega,numL_lt4 _,numL_lt4 _⟩
theorem slot_ag (n ph p a:Nat) (w:World) (hn:n<4294967296) (h1:ph<256) (h2:p<4294967296) (h3:a<4294967296) :
  Calls Tryz.prog 245 #[.agg #[.int .i64 (ph:Int),.int .i64 (p:Int),.int .i64 (a:Int),.int .u32 (n:Int)]] w fun e w'=>e=.returned (.string (bA (bodyL n ⟨ph,p,a⟩ ++ [165])))∧Below w.heap.size w w' :=
 slot_any n ⟨ph,p,a⟩ w hn ⟨h1,h2,h3⟩
theorem held_any (t:ByteArray) (k:Nat) (w:World) (ht:t.size=18) :
  Calls Tryz.prog 225 #[.string t,.int .u32 k] w fun e w'=>e=.returned (.tuple #[entV (readN t.data.toList) (readS t.data.toList),.bool (decide (1≤readN t.data.toList∧readN t.data.toList % 2=k∧bodyL (readN t.data.toList) (readS t.data.toList) ++ [165]=t.data.toList))])∧Below w.heap.size w w':=by
 have x4:=idx_str t 4 4 (by omega) rfl
 have s5:=slice_low t 5 5 rfl (by omega)
 have s9:=slice_low t 9 9 rfl (by omega)
 have b4:(t[4]'(by omega)).toNat<256:=UInt8.toNat_lt (t[4]'(by omega))
 obtain ⟨n,HN⟩:∃ n,Hid (numL (t.data.toList.take 4)=n):=⟨_,rfl⟩
 obtain ⟨p,HP⟩:∃ n,Hid (numL ((t.extract 5 t.size).data.toList.take 4)=n):=⟨_,rfl⟩
 obtain ⟨a,HA⟩:∃ n,Hid (numL ((t.extract 9 t.size).data.toList.take 4)=n):=⟨_,rfl⟩
 have hn:n<4294967296:=by rw [← HN.out]; exact numL_lt4 _
 have hp:p<4294967296:=by rw [← HP.out]; exact numL_lt4 _
 have ha:a<4294967296:=by rw [← HA.out]; exact numL_lt4 _
 have Z5:Hid (4≤(t.extract 5 t.size).size):=by unfold Hid; rw [size_list,ext_list]; simp; omega
 have Z9:Hid (4≤(t.extract 9 t.size).size):=by unfold Hid; rw [size_list,ext_list]; simp; omega
 have Z0:Hid (4≤t.size):=by unfold Hid; omega
 have HS:Hid (readS t.data.toList=⟨(t[4]'(by omega)).toNat,p,a⟩):=by
  unfold Hid readS
  have e5:(t.extract 5 t.size).data.toList=t.data.toList.drop 5:=by rw [ext_list]; apply List.take_of_length_le; simp
  have e9:(t.extract 9 t.size).data.toList=t.data.toList.drop 9:=by rw [ext_list]; apply List.take_of_length_le; simp
  rw [← HP.out,← HA.out,e5,e9]
  congr 1
  rw [getB,List.drop_eq_getElem_cons (by rw [size_list] at ht; omega)]
  simp [numL]
 have HR:Hid (readN t.data.toList=n):=HN
 generalize t.extract 5 t.size=u5 at s5 HP Z5
 generalize t.extract 9 t.size=u9 at s9 HA Z9
 generalize (t[4]'(by omega)).toNat=ph at x4 b4 HS
 rw [HR.out,HS.out]
 unfold entV
 obtain ⟨q,HQ⟩:∃ q:Bool,Hid (q=decide (1≤n∧n % 2=k∧bodyL n ⟨ph,p,a⟩ ++ [165]=t.data.toList)):=⟨_,hid (Eq.refl _)⟩
 rw [← HQ.out]
 have hw1:IntKind.i64.wrap (ph:Int)=ph:=by rw [IntKind.wrap_i64]; omega
 have hw2:IntKind.i64.wrap (p:Int)=p:=by rw [IntKind.wrap_i64]; omega
 have hw3:IntKind.i64.wrap (a:Int)=a:=by rw [IntKind.wrap_i64]; omega
 go_enter Tryz.func225,Tryz.ntmps225
 go_wp2_with fail
 go_cut [6] from 7 (fun s6 wx=>s6=.pointer (some ⟨w.heap.size+1,0,none⟩)∧Rows2 w wx (.cells #[.int .i64 0,.int .i64 0,.int .i64 0,.int .u32 0] 164 (0,0)) (.cells #[.int .i64 (ph:Int),.int .i64 (p:Int),.int .i64 (a:Int),.int .u32 (n:Int)] 164 (0,0)))
 case first =>
  go_region_held3 (fun _=>True) (trivial) (first|(go_at_call 248; (with_reducible refine (four_is u5 p _ Z5.out HP.out).mono ?_); rintro e wx ⟨rfl,m,rfl⟩)|(go_at_call 248; (with_reducible refine (four_is u9 a _ Z9.out HA.out).mono ?_); rintro e wx ⟨rfl,m,rfl⟩)|(go_at_call 248; (with_reducible refine (four_is t n _ Z0.out HN.out).mono ?_); rintro e wx ⟨rfl,m,rfl⟩))
  all_goals go_step
  all_goals go_step
  all_goals go_meet
  all_goals refine ⟨rfl,?_⟩
  all_goals first|(with_reducible exact rows2_a _ _ _ _)|(with_reducible exact rows2_b _ _ _ _ _ _ _ _ _ _ _ _ _)|(with_reducible exact rows2_c _ _ _ _ _ _ _ _ _ _ _ _)
 case rest =>
  obtain ⟨rfl,r0,r1,hb⟩:=hcut
  have HB:=hid hb
  have R0:=hid r0
  have R1:=hid r1
  clear hb r0 r1
  have hsz:w.heap.size+1<wc.heap.size:=row_ltJ R1.out
  have hs0:w.heap.size<wc.heap.size:=by omega
  have E0:wc.cell? ⟨w.heap.size+1,0,none⟩=some (.int .i64 ph):=by rw [cell_of_row _ _ _ _ _ _ R1.out]; rfl
  have E1:wc.cell? ⟨w.heap.size+1,1,none⟩=some (.int .i64 p):=by rw [cell_of_row _ _ _ _ _ _ R1.out]; rfl
  have E2:wc.cell? ⟨w.heap.size+1,2,none⟩=some (.int .i64 a):=by rw [cell_of_row _ _ _ _ _ _ R1.out]; rfl
  have E3:wc.cell? ⟨w.heap.size+1,3,none⟩=some (.int .u32 n):=by rw [cell_of_row _ _ _ _ _ _ R1.out]; rfl
  have D0:wc.cell? ⟨w.heap.size,0,none⟩=some (.int .i64 0):=by rw [cell_of_row _ _ _ _ _ _ R0.out]; rfl
  have D1:wc.cell? ⟨w.heap.size,1,none⟩=some (.int .i64 0):=by rw [cell_of_row _ _ _ _ _ _ R0.out]; rfl
  have D2:wc.cell? ⟨w.heap.size,2,none⟩=some (.int .i64 0):=by rw [cell_of_row _ _ _ _ _ _ R0.out]; rfl
  have D3:wc.cell? ⟨w.heap.size,3,none⟩=some (.int .u32 0):=by rw [cell_of_row _ _ _ _ _ _ R0.out]; rfl
  have F0:=frozen_of_row wc w.heap.size 0 _ _ R0.out
  have F1:=frozen_of_row wc w.heap.size 1 _ _ R0.out
  have F2:=frozen_of_row wc w.heap.size 2 _ _ R0.out
  have F3:=frozen_of_row wc w.heap.size 3 _ _ R0.out
  by_cases g0:0<n
  ·have tm:(n:Int).tmod 2=((n % 2:Nat):Int):=by rw [Int.tmod_eq_emod_of_nonneg (by omega)]; omega
   rcases g1:((n:Int).tmod 2 == (k:Int)) with _|_
   ·have g4:¬ n % 2=k:=by rw [tm] at g1; simp at g1; omega
    have g5:(n % 2 == k)=false:=by simpa using g4
    have g6:decide (n % 2=k)=false:=by simpa using g4
    have g7:((n:Int) % 2 == (k:Int))=false:=by simp; omega
    have g8:decide ((n:Int) % 2=(k:Int))=false:=by simp; omega
    clear tm
    have HF:Hid (q=false):=by rw [HQ.out]; exact decide_eq_false (fun h=>g4 h.2.1)
    go_wp2_with fail
    go_big_region
    go_wp2
    refine bodyPost_ret (results_row2 rfl _ _ w.heap.size 164 _ (0,0) _ rfl (set4 R0.out _ _ _ _) Tryz.underlying164 rfl sizeEnt) rfl ?_
    exact ⟨by rw [HF.out]; rfl,((((HB.out.setCell (Nat.le_refl _) _).setCell (Nat.le_refl _) _).setCell (Nat.le_refl _) _).setCell (Nat.le_refl _) _).drew⟩
   ·have g4:n % 2=k:=by rw [tm] at g1; simp at g1; omega
    have g7:((n:Int) % 2 == (k:Int))=true:=by simp; omega
    obtain ⟨eqb,HEQ⟩:∃ eqb:Bool,Hid (((bA (bodyL n ⟨ph,p,a⟩ ++ [165])).toList == t.toList)=eqb):=⟨_,hid (Eq.refl _)⟩
    have HF:Hid (q=eqb):=by
     unfold Hid
     rw [HQ.out,← HEQ.out,ByteArray.toList_eq,ByteArray.toList_eq,bA_list]
     by_cases hxy:bodyL n ⟨ph,p,a⟩ ++ [165]=t.data.toList
     ·rw [decide_eq_true ⟨g0,g4,hxy⟩,hxy]; simp
     ·rw [decide_eq_false (fun h=>hxy h.2.2)]; exact (beq_eq_false_iff_ne.2 hxy).symm
    have heq:=HEQ.out
    clear tm
    go_wp2_with fail
    go_region_held3 (fun w'=>w'.cell? ⟨w.heap.size+1,0,none⟩=some (.int .i64 ph)∧w'.cell? ⟨w.heap.size+1,1,none⟩=some (.int .i64 p)∧w'.cell? ⟨w.heap.size+1,2,none⟩=some (.int .i64 a)∧w'.cell? ⟨w.heap.size+1,3,none⟩=some (.int .u32 n)) (go_keep) (first|(go_at_call 245; (with_reducible refine (slot_ag n ph p a _ hn b4 hp ha).mono ?_); rintro e w2 ⟨rfl,hb2⟩; have y0:=(hb2.cell (p:=⟨w.heap.size+1,0,none⟩) hsz).trans E0; have y1:=(hb2.cell (p:=⟨w.heap.size+1,1,none⟩) hsz).trans E1; have y2:=(hb2.cell (p:=⟨w.heap.size+1,2,none⟩) hsz).trans E2; have y3:=(hb2.cell (p:=⟨w.heap.size+1,3,none⟩) hsz).trans E3; have z0:=(hb2.cell (p:=⟨w.heap.size,0,none⟩) hs0).trans D0; have z1:=(hb2.cell (p:=⟨w.heap.size,1,none⟩) hs0).trans D1; have z2:=(hb2.cell (p:=⟨w.heap.size,2,none⟩) hs0).trans D2; have z3:=(hb2.cell (p:=⟨w.heap.size,3,none⟩) hs0).trans D3; have f0:=(hb2.frozen (p:=⟨w.heap.size,0,none⟩) hs0).trans F0; have f1:=(hb2.frozen (p:=⟨w.heap.size,1,none⟩) hs0).trans F1; have f2:=(hb2.frozen (p:=⟨w.heap.size,2,none⟩) hs0).trans F2; have f3:=(hb2.frozen (p:=⟨w.heap.size,3,none⟩) hs0).trans F3; have HB2:=hid hb2; clear hb2))
    have R2:=hid ((HB2.out.block w.heap.size hs0).trans R0.out)
    have HB3:=hid (HB.out.drew.trans ((HB2.out).mono (show w.heap.size≤wc.heap.size by omega)))
    go_wp2
    refine bodyPost_ret (results_row2 rfl _ _ w.heap.size 164 _ (0,0) _ rfl (set4 R2.out _ _ _ _) Tryz.underlying164 rfl sizeEnt) rfl ?_
    exact ⟨by rw [HF.out]; rfl,((((HB3.out.setCell (Nat.le_refl _) _).setCell (Nat.le_refl _) _).setCell (Nat.le_refl _) _).setCell (Nat.le_refl _) _)⟩
  ·have HF:Hid (q=false):=by rw [HQ.out]; exact decide_eq_false (fun h=>g0 h.1)
   go_wp2_with fail
   go_big_region
   go_wp2
   refine bodyPost_ret (results_row2 rfl _ _ w.heap.size 164 _ (0,0) _ rfl (set4 R0.out _ _ _ _) Tryz.underlying164 rfl sizeEnt) rfl ?_
   exact ⟨by rw [HF.out]; rfl,((((HB.out.setCell (Nat.le_refl _) _).setCell (Nat.le_refl _) _).setCell (Nat.le_refl _) _).setCell (Nat.le_refl _) _).drew⟩
def bst (L:List UInt8) (d:Nat):Nat→Nat×St
 | 0=>(0,St.zero)
 | 1=>heldL (2 * d) (slotL L (2 * d))
 | _=>dealL L d
theorem bst_step (L:List UInt8) (d k:Nat) (hk:k<2) :
  bst L d (k+1)=if (1≤readN (slotL L (2 * d+k))∧readN (slotL L (2 * d+k)) % 2=k∧bodyL (readN (slotL L (2 * d+k))) (readS (slotL L (2 * d+k))) ++ [165]=slotL L (2 * d+k))∧(bst L d k).1<readN (slotL L (2 * d+k))
   then (readN (slotL L (2 * d+k)),readS (slotL L (2 * d+k))) else bst L d k:=by
 have hh:heldL (2 * d+k) (slotL L (2 * d+k))=if (1≤readN (slotL L (2 * d+k))∧readN (slotL L (2 * d+k)) % 2=k∧bodyL (readN (slotL L (2 * d+k))) (readS (slotL L (2 * d+k))) ++ [165]=slotL L (2 * d+k)) then (readN (slotL L (2 * d+k)),readS (slotL L (2 * d+k))) else (0,St.zero):=by
  unfold heldL
  rw [show (2 * d+k) % 2=k by omega]
 obtain rfl|rfl:k=0 ∨ k=1:=by omega
 ·show heldL (2 * d+0) (slotL L (2 * d+0))=_
  rw [hh]
  by_cases c:(1≤readN (slotL L (2 * d+0))∧readN (slotL L (2 * d+0)) % 2=0∧bodyL (readN (slotL L (2 * d+0))) (readS (slotL L (2 * d+0))) ++ [165]=slotL L (2 * d+0))
  ·rw [if_pos c,if_pos ⟨c,c.1⟩]
  ·rw [if_neg c,if_neg (fun h=>c h.1)]; rfl
 ·show dealL L d=_
  unfold dealL
  rw [hh]
  by_cases c:(1≤readN (slotL L (2 * d+1))∧readN (slotL L (2 * d+1)) % 2=1∧bodyL (readN (slotL L (2 * d+1))) (readS (slotL L (2 * d+1))) ++ [165]=slotL L (2 * d+1))
  ·rw [if_pos c]
   by_cases c2:(heldL (2 * d) (slotL L (2 * d))).1<readN (slotL L (2 * d+1))
   ·rw [if_pos c2,if_pos ⟨c,c2⟩]
   ·rw [if_neg c2,if_neg (fun h=>c2 h.2)]; rfl
  ·rw [if_neg c,if_neg (Nat.not_lt_zero _)]
   exact (if_neg (fun h=>c h.1)).symm
theorem bst_lt (L:List UInt8) (d:Nat):∀ k,(bst L d k).1<4294967296
 | 0=>(by decide:(0:Nat)<4294967296)
 | 1=>heldL_lt _ _
 | _+2=>by
  show (dealL L d).1<_
  unfold dealL
  split
  ·exact heldL_lt _ _
  ·exact heldL_lt _ _
theorem ext_slot (B:ByteArray) (k:Nat):(B.extract (18 * k) (18 * k+18)).data.toList=slotL B.data.toList k:=by
 rw [ext_list]; unfold slotL; rw [Nat.add_sub_cancel_left]
theorem held_is (t:ByteArray) (l:List UInt8) (k n:Nat) (s:St) (b:Bool) (w:World) (hl:t.data.toList=l) (h18:l.length=18) (hn:readN l=n) (hs:readS l=s) (hb:decide (1≤n∧n % 2=k∧bodyL n s ++ [165]=l)=b) :
  Calls Tryz.prog 225 #[.string t,.int .u32 (k:Int)] w fun e w'=>e=.returned (.tuple #[.agg #[.int .i64 (s.ph:Int),.int .i64 (s.pr:Int),.int .i64 (s.at_:Int),.int .u32 (n:Int)],.bool b])∧Below w.heap.size w w':=by
 have h:=held_any t k w (by rw [size_list,hl]; exact h18)
 rw [hl,hn,hs,hb] at h
 exact h
theorem cell_allocJ {w:World} {x:Addr} {v:Value} {o:Obj} (h:w.cell? x=some v):(w.alloc o).cell? x=some v:=by
 rw [World.cell?_alloc_lt _ _ _ (World.block_lt_of_cell? w x h)]; exact h
theorem place_is (d n r:Nat) (w:World) (hd:d≤100) (hn:n<4294967296) (hr:18 * (2 * d+n % 2)=r) :
  Calls Tryz.prog 198 #[.int .i64 (d:Int),.int .u32 (n:Int)] w fun e w'=>e=.returned (.int .i64 (r:Int))∧w'=w:=by
 rw [← hr]; exact place_any d n w hd hn
theorem newest_any (B:ByteArray) (d:Nat) (w:World) (hB:B.size=216) (hd:d<6) :
  Calls Tryz.prog 199 #[.string B,.int .i64 (d:Int)] w fun e w'=>e=.returned (entV (dealL B.data.toList d).1 (dealL B.data.toList d).2)∧Below w.heap.size w w':=by
 have HZ:Hid (∀ k,k<2→(slotL B.data.toList (2 * d+k)).length=18):=fun k hk=>slotL_length (by rw [size_list] at hB; omega)
 have HS:Hid (∀ k,k<2→bst B.data.toList d (k+1)=_):=fun k hk=>bst_step B.data.toList d k hk
 have HL:Hid (∀ k,(bst B.data.toList d k).1<4294967296):=bst_lt _ _
 have HE:Hid (∀ k,(B.extract (18 * k) (18 * k+18)).data.toList=slotL B.data.toList k):=ext_slot B
 have HF:Hid (bst B.data.toList d 2=dealL B.data.toList d):=rfl
 rw [← HF.out]
 have HI:Hid (bst B.data.toList d 0=(0,St.zero)):=rfl
 go_enter Tryz.func199,Tryz.ntmps199
 go_wp2
 go_loopw [10] (fun i wr=>∃ k:Nat,k≤2∧i=.int .u32 (k:Int)∧wr.heap[w.heap.size]? = some (.cells (entCells 0 St.zero) 164 (0,0))∧wr.heap[w.heap.size+1]? = some (.cells (entCells (bst B.data.toList d k).1 (bst B.data.toList d k).2) 164 (0,0))∧Below w.heap.size w wr) (fun i _=>2 - (intOf i).toNat)
 case atStart=>exact ⟨0,by omega,rfl,heap_alloc2_old _ _ _,by rw [HI.out]; exact heap_alloc2_new _ _ _,((Below.refl _ _).alloc (Nat.le_refl _) _).alloc (by simp) _⟩
 case round =>
  obtain ⟨k,hk,rfl,r0,r1,hb⟩:=hrel
  have hsz:=row_ltJ r1
  by_cases hlt:k<2
  ·have hz:=hid (HZ.out k hlt)
   obtain ⟨l,HLs⟩:∃ l,Hid (slotL B.data.toList (2 * d+k)=l):=⟨_,rfl⟩
   obtain ⟨r,HR⟩:∃ r,Hid (18 * (2 * d+k % 2)=r):=⟨_,rfl⟩
   have hr1:18 * (2 * d+k)=r:=by rw [← HR.out]; omega
   have hr2:r+18≤216:=by omega
   have hx:=hid (HE.out (2 * d+k))
   have hstep:=HS.out k hlt
   rw [HLs.out] at hz hx hstep
   rw [hr1] at hx
   have hm:=HL.out k
   obtain ⟨⟨m,bs⟩,HM⟩:∃ x,Hid (bst B.data.toList d k=x):=⟨_,rfl⟩
   rw [HM.out] at hm hstep r1
   obtain ⟨n,HN⟩:∃ n,Hid (readN l=n):=⟨_,rfl⟩
   obtain ⟨⟨ph,pr,a⟩,HSt⟩:∃ n,Hid (readS l=n):=⟨_,rfl⟩
   have hn:n<4294967296:=by rw [← HN.out]; exact readN_lt l
   rw [HN.out,HSt.out] at hstep
   obtain ⟨b,Hb⟩:∃ b:Bool,Hid (decide (1≤n∧n % 2=k∧bodyL n ⟨ph,pr,a⟩ ++ [165]=l)=b):=⟨_,hid (Eq.refl _)⟩
   have HSt2:=hid hstep
   have hsl:=slice_mid B r (r+18) (r:Int) ((r:Int)+18) rfl (by omega) (by omega) (by omega)
   obtain ⟨tt,Htt⟩:∃ t,Hid (B.extract r (r+18)=t):=⟨_,rfl⟩
   rw [Htt.out] at hsl hx
   have R0:=hid r0
   have R1:=hid r1
   have HB:=hid hb
   clear r0 r1 hb hstep hr1
   go_wp2_with (go_at_call 198; (with_reducible refine (place_is d k r _ (by omega) (by omega) HR.out).mono ?_); rintro e wx ⟨rfl,hx⟩; subst wx)
   refine (held_is tt l k n ⟨ph,pr,a⟩ b _ hx.out hz.out HN.out HSt.out Hb.out).mono ?_
   rintro e w1 ⟨rfl,hb1⟩
   have R1b:=hid ((hb1.block _ hsz).trans R1.out)
   have R0b:=hid ((hb1.block w.heap.size (by omega)).trans R0.out)
   have hs1:=row_ltJ R1b.out
   have HB1:=hid (HB.out.trans (hb1.mono HB.out.size))
   clear hb1
   obtain ⟨W,HW⟩:∃ W,Hid (w1.alloc (.cells #[.int .i64 (ph:Int),.int .i64 (pr:Int),.int .i64 (a:Int),.int .u32 (n:Int)] 164)=W):=⟨_,rfl⟩
   have Q1:Hid (W.heap[w.heap.size+1]? = some (.cells (entCells m bs) 164 (0,0))):=by rw [← HW.out]; exact (Below.heap_alloc w1 _ _ hs1).trans R1b.out
   have Q0:Hid (W.heap[w.heap.size]? = some (.cells (entCells 0 St.zero) 164 (0,0))):=by rw [← HW.out]; exact (Below.heap_alloc w1 _ _ (by omega)).trans R0b.out
   have QE:Hid (W.heap[w1.heap.size]? = some (.cells #[.int .i64 (ph:Int),.int .i64 (pr:Int),.int .i64 (a:Int),.int .u32 (n:Int)] 164 (0,0))):=by rw [← HW.out]; exact heap_alloc_new w1 _
   have HBW:Hid (Below w.heap.size w W):=by rw [← HW.out]; exact HB1.out.alloc HB1.out.size _
   have hW:=HW.out
   have c0:W.cell? ⟨w.heap.size+1,0,none⟩=some (.int .i64 (bs.ph:Int)):=by rw [cell_of_row _ _ _ _ _ _ Q1.out]; rfl
   have c1:W.cell? ⟨w.heap.size+1,1,none⟩=some (.int .i64 (bs.pr:Int)):=by rw [cell_of_row _ _ _ _ _ _ Q1.out]; rfl
   have c2:W.cell? ⟨w.heap.size+1,2,none⟩=some (.int .i64 (bs.at_:Int)):=by rw [cell_of_row _ _ _ _ _ _ Q1.out]; rfl
   have c3:W.cell? ⟨w.heap.size+1,3,none⟩=some (.int .u32 (m:Int)):=by rw [cell_of_row _ _ _ _ _ _ Q1.out]; rfl
   have f0:=frozen_of_row W _ 0 _ _ Q1.out
   have f1:=frozen_of_row W _ 1 _ _ Q1.out
   have f2:=frozen_of_row W _ 2 _ _ Q1.out
   have f3:=frozen_of_row W _ 3 _ _ Q1.out
   have e0:W.cell? ⟨w1.heap.size,0,none⟩=some (.int .i64 (ph:Int)):=by rw [cell_of_row _ _ _ _ _ _ QE.out]; rfl
   have e1:W.cell? ⟨w1.heap.size,1,none⟩=some (.int .i64 (pr:Int)):=by rw [cell_of_row _ _ _ _ _ _ QE.out]; rfl
   have e2:W.cell? ⟨w1.heap.size,2,none⟩=some (.int .i64 (a:Int)):=by rw [cell_of_row _ _ _ _ _ _ QE.out]; rfl
   have e3:W.cell? ⟨w1.heap.size,3,none⟩=some (.int .u32 (n:Int)):=by rw [cell_of_row _ _ _ _ _ _ QE.out]; rfl
   have fin:∀ x,(1≤n∧n % 2=k∧bodyL n ⟨ph,pr,a⟩ ++ [165]=l)∧m<n→x=(n,(⟨ph,pr,a⟩:St))→Hid (bst B.data.toList d (k+1)=x):=fun x c hx=>by unfold Hid; rw [HSt2.out,if_pos c,hx]
   have fin2:¬ ((1≤n∧n % 2=k∧bodyL n ⟨ph,pr,a⟩ ++ [165]=l)∧m<n)→Hid (bst B.data.toList d (k+1)=(m,bs)):=fun c=>by unfold Hid; rw [HSt2.out,if_neg c]
   cases b with
   | false =>
    have G:=fin2 (fun c=>of_decide_eq_false Hb.out c.1)
    clear fin fin2 HSt2
    go_wp2_with fail
    go_roundw
    case rel=>exact ⟨k+1,by omega,by go_num,Q0.out,by rw [G.out]; exact Q1.out,HBW.out⟩
    case measure=>simp [intOf]; omega
   | true =>
    have hd:=of_decide_eq_true Hb.out
    by_cases hc:m<n
    ·have G:=fin _ ⟨hd,hc⟩ rfl
     clear fin fin2 HSt2 hd
     have hne:=hid hs1
     have RS:=hid (rows2_set (w:=w) ⟨Q0.out,Q1.out,HBW.out⟩ (.int .i64 (ph:Int)) (.int .i64 (pr:Int)) (.int .i64 (a:Int)) (.int .u32 (n:Int)))
     go_wp2_with fail
     go_roundw
     case rel=>exact ⟨k+1,by omega,by go_num,RS.out.1,by rw [G.out]; exact RS.out.2.1,RS.out.2.2⟩
     case measure=>simp [intOf]; omega
    ·have G:=fin2 (fun c=>hc c.2)
     clear fin fin2 HSt2 hd
     go_wp2_with fail
     go_roundw
     case rel=>exact ⟨k+1,by omega,by go_num,Q0.out,by rw [G.out]; exact Q1.out,HBW.out⟩
     case measure=>simp [intOf]; omega
  ·obtain rfl:k=2:=by omega
   have R0:=hid r0
   have R1:=hid r1
   have HB:=hid hb
   have c0:wr.cell? ⟨w.heap.size+1,0,none⟩=some (.int .i64 ((bst B.data.toList d 2).2.ph:Int)):=by rw [cell_of_row _ _ _ _ _ _ R1.out]; rfl
   have c1:wr.cell? ⟨w.heap.size+1,1,none⟩=some (.int .i64 ((bst B.data.toList d 2).2.pr:Int)):=by rw [cell_of_row _ _ _ _ _ _ R1.out]; rfl
   have c2:wr.cell? ⟨w.heap.size+1,2,none⟩=some (.int .i64 ((bst B.data.toList d 2).2.at_:Int)):=by rw [cell_of_row _ _ _ _ _ _ R1.out]; rfl
   have c3:wr.cell? ⟨w.heap.size+1,3,none⟩=some (.int .u32 ((bst B.data.toList d 2).1:Int)):=by rw [cell_of_row _ _ _ _ _ _ R1.out]; rfl
   have g0:wr.cell? ⟨w.heap.size,0,none⟩=some (.int .i64 0):=by rw [cell_of_row _ _ _ _ _ _ R0.out]; rfl
   have g1:wr.cell? ⟨w.heap.size,1,none⟩=some (.int .i64 0):=by rw [cell_of_row _ _ _ _ _ _ R0.out]; rfl
   have g2:wr.cell? ⟨w.heap.size,2,none⟩=some (.int .i64 0):=by rw [cell_of_row _ _ _ _ _ _ R0.out]; rfl
   have g3:wr.cell? ⟨w.heap.size,3,none⟩=some (.int .u32 0):=by rw [cell_of_row _ _ _ _ _ _ R0.out]; rfl
   have f0:=frozen_of_row wr _ 0 _ _ R0.out
   have f1:=frozen_of_row wr _ 1 _ _ R0.out
   have f2:=frozen_of_row wr _ 2 _ _ R0.out
   have f3:=frozen_of_row wr _ 3 _ _ R0.out
   clear r0 r1 hb
   go_wp2_with fail
   refine bodyPost_ret (results_cell_row rfl _ _ w.heap.size 164 _ (0,0) _ rfl (set4 R0.out _ _ _ _) Tryz.underlying164 rfl sizeEnt) rfl ?_
   exact ⟨rfl,(((HB.out.setCell (Nat.le_refl _) _).setCell (Nat.le_refl _) _).setCell (Nat.le_refl _) _).setCell (Nat.le_refl _) _⟩
def entL (x:Nat×St):List Value:=[.int .i64 x.2.ph,.int .i64 x.2.pr,.int .i64 x.2.at_,.int .u32 x.1]
def jL (p:Nat) (E:Nat→Nat×St) (over:Bool):List Value:=.pointer (some ⟨p,0,none⟩) :: (entL (E 0) ++ (entL (E 1) ++ (entL (E 2) ++ (entL (E 3) ++ (entL (E 4) ++ (entL (E 5) ++ [.bool over]))))))
def JR (w:World) (j p:Nat) (E:Nat→Nat×St) (over:Bool):Prop:=w.heap[j]? = some (.cells (jL p E over).toArray 167 (0,0))
def updE (E:Nat→Nat×St) (d:Nat) (x:Nat×St):Nat→Nat×St:=fun e=>if e=d then x else E e
theorem JR.cell {w:World} {j p:Nat} {E:Nat→Nat×St} {over:Bool} (h:JR w j p E over) (i:Nat):w.cell? ⟨j,i,none⟩=(jL p E over)[i]?:=by
 rw [cell_of_row w j i _ _ _ h,List.getElem?_toArray]
theorem JR.plate {w:World} {j p:Nat} {E:Nat→Nat×St} {over:Bool} (h:JR w j p E over):w.cell? ⟨j,0,none⟩=some (.pointer (some ⟨p,0,none⟩)):=h.cell 0
theorem JR.over {w:World} {j p:Nat} {E:Nat→Nat×St} {over:Bool} (h:JR w j p E over):w.cell? ⟨j,25,none⟩=some (.bool over):=h.cell 25
theorem JR.fz {w:World} {j p:Nat} {E:Nat→Nat×St} {over:Bool} (h:JR w j p E over) (i:Nat):w.frozen? ⟨j,i,none⟩=false:=frozen_of_row w j i _ _ h
theorem six {d:Nat} (hd:d<6):d=0 ∨ d=1 ∨ d=2 ∨ d=3 ∨ d=4 ∨ d=5:=by omega
theorem JR.ent {w:World} {j p d:Nat} {E:Nat→Nat×St} {over:Bool} (h:JR w j p E over) (hd:d<6) :
  w.cell? ⟨j,1+d * 4,none⟩=some (.int .i64 (E d).2.ph)∧w.cell? ⟨j,1+d * 4+1,none⟩=some (.int .i64 (E d).2.pr)∧w.cell? ⟨j,1+d * 4+2,none⟩=some (.int .i64 (E d).2.at_)∧w.cell? ⟨j,1+d * 4+3,none⟩=some (.int .u32 (E d).1):=by
 rw [h.cell,h.cell,h.cell,h.cell]
 rcases six hd with rfl|rfl|rfl|rfl|rfl|rfl <;> exact ⟨rfl,rfl,rfl,rfl⟩
theorem JR.set {w:World} {j p d:Nat} {E:Nat→Nat×St} {over:Bool} (h:JR w j p E over) (hd:d<6) (x:Nat×St) :
  JR ((((w.setCell ⟨j,1+d * 4,none⟩ (.int .i64 x.2.ph)).setCell ⟨j,1+d * 4+1,none⟩ (.int .i64 x.2.pr)).setCell ⟨j,1+d * 4+2,none⟩ (.int .i64 x.2.at_)).setCell ⟨j,1+d * 4+3,none⟩ (.int .u32 x.1)) j p (updE E d x) over:=by
 have h0:=heap_setCell_same w j (1+d * 4) _ _ (.int .i64 x.2.ph) h
 have h1:=heap_setCell_same _ j (1+d * 4+1) _ _ (.int .i64 x.2.pr) h0
 have h2:=heap_setCell_same _ j (1+d * 4+2) _ _ (.int .i64 x.2.at_) h1
 have h3:=heap_setCell_same _ j (1+d * 4+3) _ _ (.int .u32 x.1) h2
 unfold JR
 rw [h3]
 rcases six hd with rfl|rfl|rfl|rfl|rfl|rfl <;> rfl
theorem JR.setOver {w:World} {j p:Nat} {E:Nat→Nat×St} {over:Bool} (h:JR w j p E over) (b:Bool):JR (w.setCell ⟨j,25,none⟩ (.bool b)) j p E b:=by
 unfold JR
 rw [heap_setCell_same w j 25 _ _ _ h]
 rfl
theorem JR.ext {w:World} {j p:Nat} {E F:Nat→Nat×St} {over:Bool} (h:JR w j p E over) (he:∀ d,d<6→E d=F d):JR w j p F over:=by
 unfold JR jL at h ⊢
 rw [← he 0 (by decide),← he 1 (by decide),← he 2 (by decide),← he 3 (by decide),← he 4 (by decide),← he 5 (by decide)]
 exact h
theorem JR.drew {w:World} {j p:Nat} {E:Nat→Nat×St} {over:Bool} (h:JR w j p E over):JR w.drew j p E over:=h
theorem JR.later {w w':World} {j p B:Nat} {E:Nat→Nat×St} {over:Bool} (h:JR w j p E over) (hb:Below B w w') (hj:j<B):JR w' j p E over:=(hb.block j hj).trans h
theorem JR.lt {w:World} {j p:Nat} {E:Nat→Nat×St} {over:Bool} (h:JR w j p E over):j<w.heap.size:=row_ltJ h
def stB (k:Nat):ByteArray:=if k=0 then ⟨#[97,115,107,105,110,103]⟩ else if k=1 then ⟨#[112,114,101,112,97,114,105,110,103]⟩ else if k=2 then ⟨#[100,111,110,101]⟩ else ⟨#[114,101,102,117,115,101,100]⟩
theorem stB0:stB 0=⟨#[97,115,107,105,110,103]⟩:=rfl
theorem stB1:stB 1=⟨#[112,114,101,112,97,114,105,110,103]⟩:=rfl
theorem stB2:stB 2=⟨#[100,111,110,101]⟩:=rfl
theorem stB3:stB 3=⟨#[114,101,102,117,115,101,100]⟩:=rfl
section
variable {w w':World} {lb id n cap:Nat} {deal att:Int} {aw:Option Addr} {st:ByteArray} {wait:Int} {vh:Value} {hs:List F9} {ph seen:Int}
theorem RLd.ownSet (h:RLd w lb id n cap deal att aw st wait vh hs ph seen) (i:Nat) (v:Value):(w.setCell ⟨lb,i,none⟩ v).ownsRow (lb+1) 125 9 vh hs.length (frCells hs):=by
 refine ⟨h.own.1,?_⟩
 rcases h.own.2 with hn|⟨g,cap,cur,rfl,hb',hgg,rest⟩
 ·exact .inl hn
 ·exact .inr ⟨g,cap,cur,rfl,hb',(heap_setCell_other _ _ _ _ (by show g≠lb; omega)).trans hgg,rest⟩
theorem RLd.setSt (h:RLd w lb id n cap deal att aw st wait vh hs ph seen) (x:ByteArray):RLd (w.setCell ⟨lb,4,none⟩ (.string x)) lb id n cap deal att aw x wait vh hs ph seen :=
 ⟨by rw [heap_setCell_same w lb 4 _ _ _ h.row]; rfl,h.ownSet 4 _⟩
theorem RLd.setWait (h:RLd w lb id n cap deal att aw st wait vh hs ph seen) (x:Int):RLd (w.setCell ⟨lb,5,none⟩ (.int .i64 x)) lb id n cap deal att aw st x vh hs ph seen :=
 ⟨by rw [heap_setCell_same w lb 5 _ _ _ h.row]; rfl,h.ownSet 5 _⟩
theorem RLd.setNone (h:RLd w lb id n cap deal att aw st wait vh hs ph seen):RLd (w.setCell ⟨lb,6,none⟩ (.slice none 0 0)) lb id n cap deal att aw st wait (.slice none 0 0) [] ph seen :=
 ⟨by rw [heap_setCell_same w lb 6 _ _ _ h.row]; rfl,World.ownsRow_nil _ _ _ _⟩
theorem RLd.setPh (h:RLd w lb id n cap deal att aw st wait vh hs ph seen) (x:Int):RLd (w.setCell ⟨lb,7,none⟩ (.int .i64 x)) lb id n cap deal att aw st wait vh hs x seen :=
 ⟨by rw [heap_setCell_same w lb 7 _ _ _ h.row]; rfl,h.ownSet 7 _⟩
theorem RLd.setSeen (h:RLd w lb id n cap deal att aw st wait vh hs ph seen) (x:Int):RLd (w.setCell ⟨lb,8,none⟩ (.int .i64 x)) lb id n cap deal att aw st wait vh hs ph x :=
 ⟨by rw [heap_setCell_same w lb 8 _ _ _ h.row]; rfl,h.ownSet 8 _⟩
theorem rldecide_any (p:Int) (h:RLd w lb id n cap deal att aw st wait vh hs ph seen) (hn:n≤30) :
  Calls Tryz.prog 146 #[.pointer (some ⟨lb,0,none⟩),.int .i64 p] w fun e w'=>∃ v,e=.returned v∧IsFr w' v (sentL id deal 7 att p true n)∧RLd w' lb id n cap deal att aw (stB 2) 0 vh hs ph seen∧Kept (In1 lb) w w':=by
 obtain ⟨c0,c1,c2,c3,c4,c5,c6,c7,c8⟩:=h.cells
 have z4:=h.fz 4
 have z5:=h.fz 5
 have HX:=hid ((h.setSt (stB 2)).setWait 0)
 have HK:Hid (Kept (In1 lb) w ((w.setCell ⟨lb,4,none⟩ (.string (stB 2))).setCell ⟨lb,5,none⟩ (.int .i64 0))):=((Kept.refl _ _).set1 4 _).set1 5 _
 rw [stB2] at HX HK ⊢
 clear h
 go_enter Tryz.func146,Tryz.ntmps146
 go_wp2_with fail
 refine (rlsend_any lb id n cap deal 7 att p true aw _ 0 vh ph seen _ HX.out.row hn).mono ?_
 rintro e w1 ⟨v,rfl,ho,hb⟩
 have HV:=hid (IsFr.owned ho)
 have HR:=hid (HX.out.later hb)
 have HK2:=hid (HK.out.trans (Kept.of_below hb))
 clear ho hb
 go_wp2_with fail
 go_ret
 exact ⟨_,rfl,HV.out,HR.out,HK2.out⟩
theorem rlprepare_any (p:Int) (h:RLd w lb id n cap deal att aw st wait vh hs ph seen) (hn:n≤30) :
  Calls Tryz.prog 148 #[.pointer (some ⟨lb,0,none⟩),.int .i64 p] w fun e w'=>∃ v,e=.returned v∧IsFr w' v (sentL id deal 5 att p true n)∧RLd w' lb id n cap deal att aw (stB 1) 6 (.slice none 0 0) [] p seen∧Kept (In1 lb) w w':=by
 obtain ⟨c0,c1,c2,c3,c4,c5,c6,c7,c8⟩:=h.cells
 have z4:=h.fz 4
 have z5:=h.fz 5
 have z6:=h.fz 6
 have z7:=h.fz 7
 have HX:=hid ((((h.setSt (stB 1)).setWait 6).setNone).setPh p)
 have HK:Hid (Kept (In1 lb) w ((((w.setCell ⟨lb,4,none⟩ (.string (stB 1))).setCell ⟨lb,5,none⟩ (.int .i64 6)).setCell ⟨lb,6,none⟩ (.slice none 0 0)).setCell ⟨lb,7,none⟩ (.int .i64 p))):=((((Kept.refl _ _).set1 4 _).set1 5 _).set1 6 _).set1 7 _
 rw [stB1] at HX HK ⊢
 clear h
 go_enter Tryz.func148,Tryz.ntmps148
 go_wp2_with fail
 refine (rlsend_any lb id n cap deal 5 att p true aw _ 6 _ p seen _ HX.out.row hn).mono ?_
 rintro e w1 ⟨v,rfl,ho,hb⟩
 have HV:=hid (IsFr.owned ho)
 have HR:=hid (HX.out.later hb)
 have HK2:=hid (HK.out.trans (Kept.of_below hb))
 clear ho hb
 go_wp2_with fail
 go_ret
 exact ⟨_,rfl,HV.out,HR.out,HK2.out⟩
def startL (id:Nat) (deal att:Int) (n:Nat):List F9:=if att=0 then sentL id deal 1 att 0 true n else sentL id deal 3 att 0 false n
theorem rlstart_any (h:RLd w lb id n cap deal att aw st wait vh hs ph seen) (hn:n≤30) :
  Calls Tryz.prog 84 #[.pointer (some ⟨lb,0,none⟩)] w fun e w'=>∃ v,e=.returned v∧IsFr w' v (startL id deal att n)∧Below w.heap.size w w':=by
 obtain ⟨c0,c1,c2,c3,c4,c5,c6,c7,c8⟩:=h.cells
 have HX:=hid h
 clear h
 unfold startL
 by_cases ha:att=0
 ·rw [if_pos ha]
  subst ha
  go_enter Tryz.func84,Tryz.ntmps84
  go_wp2_with fail
  refine (rlsend_any lb id n cap deal 1 0 0 true aw _ wait vh ph seen _ HX.out.row hn).mono ?_
  rintro e w1 ⟨v,rfl,ho,hb⟩
  have HV:=hid (IsFr.owned ho)
  have HB:=hid hb
  clear ho hb
  go_wp2_with fail
  go_ret
  exact ⟨_,rfl,HV.out,HB.out⟩
 ·rw [if_neg ha]
  go_enter Tryz.func84,Tryz.ntmps84
  go_wp2_with fail
  refine (rlsend_any lb id n cap deal 3 att 0 false aw _ wait vh ph seen _ HX.out.row hn).mono ?_
  rintro e w1 ⟨v,rfl,ho,hb⟩
  have HV:=hid (IsFr.owned ho)
  have HB:=hid hb
  clear ho hb
  go_wp2_with fail
  go_ret
  exact ⟨_,rfl,HV.out,HB.out⟩
end
theorem rlnew_any (id n cap:Nat) (deal att:Int) (aw:Option Addr) (w:World) :
  Calls Tryz.prog 82 #[.int .i64 (id:Int),.int .i64 deal,.slice aw n cap,.int .i64 att] w fun e w'=>∃ lb,e=.returned (.pointer (some ⟨lb,0,none⟩))∧RLd w' lb id n cap deal att aw (stB 0) (if att=0 then 2 else 4) (.slice none 0 0) [] 0 0∧Below w.heap.size w w'∧w.heap.size≤lb:=by
 rw [stB0]
 by_cases ha:att=0
 ·rw [if_pos ha]
  subst ha
  go_enter Tryz.func82,Tryz.ntmps82
  go_wp2_with fail
  go_ret
  exact ⟨_,rfl,⟨heap_alloc_new w _,World.ownsRow_nil _ _ _ _⟩,(Below.refl _ _).alloc (Nat.le_refl _) _,Nat.le_refl _⟩
 ·rw [if_neg ha]
  go_enter Tryz.func82,Tryz.ntmps82
  go_wp2_with fail
  go_ret
  exact ⟨_,rfl,⟨heap_alloc_new w _,World.ownsRow_nil _ _ _ _⟩,(Below.refl _ _).alloc (Nat.le_refl _) _,Nat.le_refl _⟩
end Go.Proofs.YtaehdgemkafinaaGreatDoor
namespace Go.Proofs.YtaehdgemkafinaaGreatDoor
structure LSt where
 wait:Int
 stt:Nat
 hs:List F9
 ph:Int
 seen:Int
abbrev forL (n id:Nat) (deal att:Int) (L:LSt) (f:F9):Prop:=L.wait≠0∧f.k=L.wait∧f.d=deal∧f.a=att∧f.t=id∧0≤f.f∧f.f<n
def toldTo (hs:List F9):Nat→List S3
 | 0=>[]
 | k+1=>match fromL hs k with
  | none=>toldTo hs k
  | some x=>toldTo hs k ++ [⟨x.ph,x.pr,x.pa⟩]
def setTo (hs:List F9):Nat→Int
 | 0=>0
 | k+1=>if (fromL hs k).isSome=true then setTo hs k+2 ^ k else setTo hs k
theorem setTo_bd (hs:List F9):∀ k,0≤setTo hs k∧setTo hs k<2 ^ k
 | 0=>⟨Int.le_refl _,by show (0:Int)<1; decide⟩
 | k+1=>by
  obtain ⟨h0,h1⟩:=setTo_bd hs k
  have e:(2:Int) ^ (k+1)=2 * 2 ^ k:=by rw [Int.pow_succ]; omega
  unfold setTo
  rw [e]
  split <;> omega
theorem toldTo_le (hs:List F9):∀ k,(toldTo hs k).length≤k
 | 0=>Nat.le_refl _
 | k+1=>by
  have:=toldTo_le hs k
  unfold toldTo
  split
  ·omega
  ·rw [List.length_append]; simp; omega
def seenL (L:LSt) (f:F9):Int:=if f.k≠2∧L.seen<f.pr then f.pr else L.seen
def lhear (zs:List Int) (id:Nat) (deal att:Int) (L:LSt) (f:F9):LSt×Option (Int×Int) :=
 if forL zs.length id deal att L f∧(fromL L.hs f.f).isSome=false then
  (if f.y=false then (if f.k=2 then (⟨0,2,L.hs,L.ph,seenL L f⟩,some (7,3)) else (⟨0,3,L.hs,L.ph,seenL L f⟩,none))
  else if f.k=2 then (if (L.hs ++ [f]).length=zs.length then (⟨6,1,[],4,seenL L f⟩,some (5,4)) else (⟨L.wait,L.stt,L.hs ++ [f],L.ph,seenL L f⟩,none))
  else if enoughB zs (setTo (L.hs ++ [f]) zs.length)=false then (⟨L.wait,L.stt,L.hs ++ [f],L.ph,seenL L f⟩,none)
  else if f.k=6 then (⟨0,2,L.hs ++ [f],L.ph,seenL L f⟩,some (7,afterI L.ph))
  else if (refL (toldTo (L.hs ++ [f]) zs.length)).2=true then (⟨0,2,L.hs ++ [f],L.ph,seenL L f⟩,some (7,(refL (toldTo (L.hs ++ [f]) zs.length)).1))
  else (⟨6,1,[],(refL (toldTo (L.hs ++ [f]) zs.length)).1,seenL L f⟩,some (5,(refL (toldTo (L.hs ++ [f]) zs.length)).1)))
 else (L,none)
theorem lhear_pass {zs:List Int} {id:Nat} {deal att:Int} {L:LSt} {f:F9} (h:¬ (forL zs.length id deal att L f∧(fromL L.hs f.f).isSome=false)):lhear zs id deal att L f=(L,none):=by
 unfold lhear
 exact if_neg h
section
variable {zs:List Int} {id:Nat} {deal att:Int} {L:LSt} {f:F9}
theorem lhear_no (h:forL zs.length id deal att L f∧(fromL L.hs f.f).isSome=false) (hy:f.y=false) (hk:f.k≠2):lhear zs id deal att L f=(⟨0,3,L.hs,L.ph,seenL L f⟩,none):=by
 unfold lhear
 rw [if_pos h,if_pos hy,if_neg hk]
theorem lhear_no2 (h:forL zs.length id deal att L f∧(fromL L.hs f.f).isSome=false) (hy:f.y=false) (hk:f.k=2):lhear zs id deal att L f=(⟨0,2,L.hs,L.ph,seenL L f⟩,some (7,3)):=by
 unfold lhear
 rw [if_pos h,if_pos hy,if_pos hk]
theorem lhear_all (h:forL zs.length id deal att L f∧(fromL L.hs f.f).isSome=false) (hy:¬ f.y=false) (hk:f.k=2) (hn:(L.hs ++ [f]).length=zs.length):lhear zs id deal att L f=(⟨6,1,[],4,seenL L f⟩,some (5,4)):=by
 unfold lhear
 rw [if_pos h,if_neg hy,if_pos hk,if_pos hn]
theorem lhear_some (h:forL zs.length id deal att L f∧(fromL L.hs f.f).isSome=false) (hy:¬ f.y=false) (hk:f.k=2) (hn:¬ (L.hs ++ [f]).length=zs.length):lhear zs id deal att L f=(⟨L.wait,L.stt,L.hs ++ [f],L.ph,seenL L f⟩,none):=by
 unfold lhear
 rw [if_pos h,if_neg hy,if_pos hk,if_neg hn]
theorem lhear_few (h:forL zs.length id deal att L f∧(fromL L.hs f.f).isSome=false) (hy:¬ f.y=false) (hk:¬ f.k=2) (hn:enoughB zs (setTo (L.hs ++ [f]) zs.length)=false):lhear zs id deal att L f=(⟨L.wait,L.stt,L.hs ++ [f],L.ph,seenL L f⟩,none):=by
 unfold lhear
 rw [if_pos h,if_neg hy,if_neg hk,if_pos hn]
theorem lhear_ack (h:forL zs.length id deal att L f∧(fromL L.hs f.f).isSome=false) (hy:¬ f.y=false) (hk:¬ f.k=2) (hn:¬ enoughB zs (setTo (L.hs ++ [f]) zs.length)=false) (h6:f.k=6):lhear zs id deal att L f=(⟨0,2,L.hs ++ [f],L.ph,seenL L f⟩,some (7,afterI L.ph)):=by
 unfold lhear
 rw [if_pos h,if_neg hy,if_neg hk,if_neg hn,if_pos h6]
theorem lhear_fin (h:forL zs.length id deal att L f∧(fromL L.hs f.f).isSome=false) (hy:¬ f.y=false) (hk:¬ f.k=2) (hn:¬ enoughB zs (setTo (L.hs ++ [f]) zs.length)=false) (h6:¬ f.k=6) {p:Int} (hc:refL (toldTo (L.hs ++ [f]) zs.length)=(p,true)):lhear zs id deal att L f=(⟨0,2,L.hs ++ [f],L.ph,seenL L f⟩,some (7,p)):=by
 unfold lhear
 rw [if_pos h,if_neg hy,if_neg hk,if_neg hn,if_neg h6,hc,if_pos rfl]
theorem lhear_pre (h:forL zs.length id deal att L f∧(fromL L.hs f.f).isSome=false) (hy:¬ f.y=false) (hk:¬ f.k=2) (hn:¬ enoughB zs (setTo (L.hs ++ [f]) zs.length)=false) (h6:¬ f.k=6) {p:Int} (hc:refL (toldTo (L.hs ++ [f]) zs.length)=(p,false)):lhear zs id deal att L f=(⟨6,1,[],p,seenL L f⟩,some (5,p)):=by
 unfold lhear
 rw [if_pos h,if_neg hy,if_neg hk,if_neg hn,if_neg h6,hc,if_neg (fun h=>by cases h)]
end
end Go.Proofs.YtaehdgemkafinaaGreatDoor
namespace Go.Proofs.YtaehdgemkafinaaGreatDoor
open Go.RowKit
section
variable {w:World} {lb id n cap:Nat} {deal att:Int} {aw:Option Addr} {st:ByteArray} {wait:Int} {vh:Value} {hs:List F9} {ph seen:Int}
theorem rlhear_not (f t d k a:Int) (y:Bool) (p1 p2 p3:Int) (h:RLd w lb id n cap deal att aw st wait vh hs ph seen) (hf:¬ (wait≠0∧k=wait∧d=deal∧a=att∧t=id∧0≤f∧f<n)) :
  Calls Tryz.prog 88 #[.pointer (some ⟨lb,0,none⟩),frV f t d k a y p1 p2 p3] w fun e w'=>e=.returned (.slice none 0 0)∧Below w.heap.size w w':=by
 obtain ⟨W,HW⟩:∃ W,Hid (w.alloc (.cells #[.int .i64 f,.int .i64 t,.int .i64 d,.int .i64 k,.int .i64 a,.bool y,.int .i64 p1,.int .i64 p2,.int .i64 p3] 125)=W):=⟨_,rfl⟩
 have HB:Hid (Below w.heap.size w W):=by rw [← HW.out]; exact (Below.refl _ _).alloc (Nat.le_refl _) _
 have HR:Hid (W.heap[w.heap.size]? = some (.cells #[.int .i64 f,.int .i64 t,.int .i64 d,.int .i64 k,.int .i64 a,.bool y,.int .i64 p1,.int .i64 p2,.int .i64 p3] 125 (0,0))):=by rw [← HW.out]; exact heap_alloc_new w _
 obtain ⟨b0,b1,b2,b3,b4,b5,b6,b7,b8⟩:=nine HR.out
 obtain ⟨c0,c1,c2,c3,c4,c5,c6,c7,c8⟩:=(h.later HB.out).cells
 have hW:=HW.out
 clear h
 by_cases g0:wait=0
 ·subst g0
  clear hf
  go_enter Tryz.func88,Tryz.ntmps88
  go_wp2_with fail
  go_quiet (fail)
  go_wp2
  go_ret
  exact ⟨rfl,below_drewN HB.out _⟩
 have e0:(wait == 0)=false:=beq_eq_false_iff_ne.2 g0
 by_cases g1:k=wait
 ·subst g1
  by_cases g2:d=deal
  ·subst g2
   by_cases g3:a=att
   ·subst g3
    by_cases g4:t=(id:Int)
    ·subst g4
     by_cases g5:f<0
     ·clear hf
      go_enter Tryz.func88,Tryz.ntmps88
      go_wp2_with fail
      go_quiet (fail)
      go_wp2
      go_ret
      exact ⟨rfl,below_drewN HB.out _⟩
     ·by_cases g6:(n:Int)≤f
      ·clear hf
       go_enter Tryz.func88,Tryz.ntmps88
       go_wp2_with fail
       go_quiet (fail)
       go_wp2
       go_ret
       exact ⟨rfl,below_drewN HB.out _⟩
      ·exact absurd ⟨g0,rfl,rfl,rfl,rfl,by omega,by omega⟩ hf
    ·have e4:(t != (id:Int))=true:=bne_iff_ne.2 g4
     clear hf
     go_enter Tryz.func88,Tryz.ntmps88
     go_wp2_with fail
     go_quiet (fail)
     go_wp2
     go_ret
     exact ⟨rfl,below_drewN HB.out _⟩
   ·have e3:(a != att)=true:=bne_iff_ne.2 g3
    clear hf
    go_enter Tryz.func88,Tryz.ntmps88
    go_wp2_with fail
    go_quiet (fail)
    go_wp2
    go_ret
    exact ⟨rfl,below_drewN HB.out _⟩
  ·have e2:(d != deal)=true:=bne_iff_ne.2 g2
   clear hf
   go_enter Tryz.func88,Tryz.ntmps88
   go_wp2_with fail
   go_quiet (fail)
   go_wp2
   go_ret
   exact ⟨rfl,below_drewN HB.out _⟩
 ·have e1:(k != wait)=true:=bne_iff_ne.2 g1
  clear hf
  go_enter Tryz.func88,Tryz.ntmps88
  go_wp2_with fail
  go_quiet (fail)
  go_wp2
  go_ret
  exact ⟨rfl,below_drewN HB.out _⟩
end
theorem wide4_is (n:Nat) (t:ByteArray) (w:World) (hn:n<9223372036854775808) (ht:bA (wideL n 4)=t) :
  Calls Tryz.prog 212 #[.int .i64 (n:Int),.int .i64 4] w fun e w'=>e=.returned (.string t)∧Below w.heap.size w w':=by
 rw [← ht]; exact wide_any n 4 w hn (by omega)
theorem wide1_is (n:Nat) (t:ByteArray) (w:World) (hn:n<9223372036854775808) (ht:bA (wideL n 1)=t) :
  Calls Tryz.prog 212 #[.int .i64 (n:Int),.int .i64 1] w fun e w'=>e=.returned (.string t)∧Below w.heap.size w w':=by
 rw [← ht]; exact wide_any n 1 w hn (by omega)
theorem crc_is (s:ByteArray) (c:Nat) (w:World) (hs:s.size≤1000) (hc:crcL s.data.toList=c) :
  Calls Tryz.prog 213 #[.string s] w fun e w'=>e=.returned (.int .i64 (c:Int))∧w'=w:=by
 rw [← hc]; exact crc_any s w hs
theorem below_step {a b c:World} (h:Hid (Below a.heap.size a b)) (k:Below b.heap.size b c):Hid (Below a.heap.size a c):=h.out.trans (k.mono h.out.size)
theorem body_any (n h1 h2 h3:Nat) (w:World) (hn:n<4294967296) (b1:h1<256) (b2:h2<4294967296) (b3:h3<4294967296) :
  Calls Tryz.prog 185 #[.int .i64 (n:Int),.agg #[.int .i64 (h1:Int),.int .i64 (h2:Int),.int .i64 (h3:Int)]] w fun e w'=>e=.returned (.string (bA (bodyL n ⟨h1,h2,h3⟩)))∧Below w.heap.size w w':=by
 obtain ⟨W,HW⟩:∃ W,Hid (w.alloc (.cells #[.int .i64 (h1:Int),.int .i64 (h2:Int),.int .i64 (h3:Int)] 80)=W):=⟨_,rfl⟩
 have hW:=HW.out
 have RW:Hid (W.heap[w.heap.size]? = some (.cells #[.int .i64 (h1:Int),.int .i64 (h2:Int),.int .i64 (h3:Int)] 80 (0,0))):=by rw [← HW.out]; exact heap_alloc_new w _
 have hsW:w.heap.size<W.heap.size:=(Array.getElem?_eq_some_iff.1 RW.out).1
 have HBW:Hid (Below w.heap.size w W):=by rw [← HW.out]; exact (Below.refl _ _).alloc (Nat.le_refl _) _
 obtain ⟨s1,S1⟩:∃ t,Hid (bA (wideL n 4)=t):=⟨_,rfl⟩
 obtain ⟨s2,S2⟩:∃ t,Hid (bA (wideL h1 1)=t):=⟨_,rfl⟩
 obtain ⟨s3,S3⟩:∃ t,Hid (bA (wideL h2 4)=t):=⟨_,rfl⟩
 obtain ⟨s4,S4⟩:∃ t,Hid (bA (wideL h3 4)=t):=⟨_,rfl⟩
 have z1:s1.size=4:=by rw [← S1.out,bA_size,wideL_length]
 have z2:s2.size=1:=by rw [← S2.out,bA_size,wideL_length]
 have z3:s3.size=4:=by rw [← S3.out,bA_size,wideL_length]
 have z4:s4.size=4:=by rw [← S4.out,bA_size,wideL_length]
 have HT:Hid (s1 ++ s2 ++ s3 ++ s4=bA (textL n ⟨h1,h2,h3⟩)):=by unfold Hid textL; rw [← S1.out,← S2.out,← S3.out,← S4.out,bA_append,bA_append,bA_append]
 have HC:Hid (∀ wx,Below W.heap.size W wx→wx.cell? ⟨w.heap.size,0,none⟩=some (.int .i64 (h1:Int))∧wx.cell? ⟨w.heap.size,1,none⟩=some (.int .i64 (h2:Int))∧wx.cell? ⟨w.heap.size,2,none⟩=some (.int .i64 (h3:Int))):=by
  intro wx hb
  have r:=(hb.block _ hsW).trans RW.out
  exact ⟨by rw [cell_of_row _ _ _ _ _ _ r]; rfl,by rw [cell_of_row _ _ _ _ _ _ r]; rfl,by rw [cell_of_row _ _ _ _ _ _ r]; rfl⟩
 obtain ⟨c0,c1,c2⟩:=HC.out _ (Below.refl _ _)
 go_enter Tryz.func185,Tryz.ntmps185
 go_wp2_with fail
 have HD0:Hid (Below W.heap.size W W.drew):=(Below.refl _ _).drew
 go_cut [5] from 6 (fun s5 wx=>s5=.string (s1 ++ s2 ++ s3 ++ s4)∧Hid (Below W.heap.size W wx))
 case first =>
  go_region_held3 (fun w'=>w'.cell? ⟨w.heap.size,0,none⟩=some (.int .i64 (h1:Int))∧w'.cell? ⟨w.heap.size,1,none⟩=some (.int .i64 (h2:Int))∧w'.cell? ⟨w.heap.size,2,none⟩=some (.int .i64 (h3:Int))) (go_keep) (first|(go_at_call 212; (with_reducible refine (wide4_is n s1 _ (by omega) S1.out).mono ?_); rintro e wn ⟨rfl,hbn⟩; have HBn:=below_step (by assumption) hbn; obtain ⟨x0,x1,x2⟩:=HC.out _ HBn.out; clear hbn)|(go_at_call 212; (with_reducible refine (wide1_is h1 s2 _ (by omega) S2.out).mono ?_); rintro e wn ⟨rfl,hbn⟩; have HBn:=below_step (by assumption) hbn; obtain ⟨x0,x1,x2⟩:=HC.out _ HBn.out; clear hbn)|(go_at_call 212; (with_reducible refine (wide4_is h2 s3 _ (by omega) S3.out).mono ?_); rintro e wn ⟨rfl,hbn⟩; have HBn:=below_step (by assumption) hbn; obtain ⟨x0,x1,x2⟩:=HC.out _ HBn.out; clear hbn)|(go_at_call 212; (with_reducible refine (wide4_is h3 s4 _ (by omega) S4.out).mono ?_); rintro e wn ⟨rfl,hbn⟩; have HBn:=below_step (by assumption) hbn; obtain ⟨x0,x1,x2⟩:=HC.out _ HBn.out; clear hbn))
  all_goals go_step
  all_goals go_step
  all_goals go_meet
  all_goals exact ⟨rfl,by assumption⟩
 case rest =>
  obtain ⟨rfl,hb⟩:=hcut
  rw [HT.out]
  have zt:(bA (textL n ⟨h1,h2,h3⟩)).size=13:=by rw [bA_size,textL_length]
  obtain ⟨c,HCc⟩:∃ c,Hid (crcL (textL n ⟨h1,h2,h3⟩)=c):=⟨_,rfl⟩
  have hc:c<9223372036854775808:=by rw [← HCc.out]; have:=crcL_lt (textL n ⟨h1,h2,h3⟩); omega
  obtain ⟨s5,S5⟩:∃ t,Hid (bA (wideL c 4)=t):=⟨_,rfl⟩
  have z5:s5.size=4:=by rw [← S5.out,bA_size,wideL_length]
  have HR:Hid (bA (textL n ⟨h1,h2,h3⟩) ++ s5=bA (bodyL n ⟨h1,h2,h3⟩)):=by unfold Hid bodyL; rw [← S5.out,bA_append,HCc.out]
  have HBc:=hb
  clear hb
  go_wp2_with fail
  refine (crc_is _ c _ (by rw [zt]; decide) (by rw [bA_list]; exact HCc.out)).mono ?_
  rintro e wx ⟨rfl,hx⟩
  subst wx
  go_wp2_with fail
  refine (wide4_is c s5 _ hc S5.out).mono ?_
  rintro e w9 ⟨rfl,hb9⟩
  have HB9:=below_step HBc hb9
  clear hb9
  go_wp2_with fail
  go_ret
  exact ⟨by rw [← HR.out]; rfl,HBW.out.trans (HB9.out.mono HBW.out.size)⟩
end Go.Proofs.YtaehdgemkafinaaGreatDoor
