/-
  On the way to WStepsProof, WCommitsProof, WAgreesProof, WEndsProof, WWaitsProof, JTampersProof, PAgreesProof, PAgainProof: JF JG JH.
-/
import Derived.Test.YtadhpkopkkjmfaaGreatDoorBz4
import Derived.Laws.ResultCell
import Derived.Deep.MidRow
set_option maxHeartbeats 8000000
set_option maxRecDepth 100000
namespace Go.Proofs.YtadhpkopkkjmfaaGreatDoor
open Go.RowKit
theorem results_row2 {P:Program} {fn:Func} {p u:Tmp} {ty:TypeId} (h:fn.results=#[.cell p ty,.tmp u]) (tmps:Array Value) (w:World) (g:Nat) (t:TypeId) (cs:Array Value) (fr:Nat×Nat) (d:TypeDesc)
  (hp:tmps.getD p undef=.pointer (some ⟨g,0,none⟩)) (hg:w.heap[g]? = some (.cells cs t fr))
  (hu:P.underlying ty=some d) (hd:(match d with|.struct _|.array _ _=>true|_=>false)=true) (hi:(P.info? ty).map (·.size)=some cs.size) :
  (results fn tmps).run P w=.ok (.tuple #[.agg cs,tmps.getD u undef]) w:=by
 rw [results_cell_tmp h,hp]
 simp [asAddr,run_loadVar_row w g t ty cs fr d hg hu hd hi]
theorem set4 {w:World} {g:Nat} {a b c d:Value} {t:TypeId} (h:w.heap[g]? = some (.cells #[a,b,c,d] t (0,0))) (x0 x1 x2 x3:Value) :
  ((((w.setCell ⟨g,0,none⟩ x0).setCell ⟨g,1,none⟩ x1).setCell ⟨g,2,none⟩ x2).setCell ⟨g,3,none⟩ x3).heap[g]? = some (.cells #[x0,x1,x2,x3] t (0,0)):=by
 have h0:=heap_setCell_same w g 0 _ _ x0 h
 have h1:=heap_setCell_same _ g 1 _ _ x1 h0
 have h2:=heap_setCell_same _ g 2 _ _ x2 h1
 exact heap_setCell_same _ g 3 _ _ x3 h2
theorem heap_drewJ (w:World) (n:Nat):(w.drewN n).heap=w.heap:=by
 induction n with
 | zero=>rfl
 | succ n ih=>first|exact ih|(unfold World.drewN; exact ih)|(simp [World.drewN]; done)
def Rows2 (w wx:World) (z e:Obj):Prop:=wx.heap[w.heap.size]? = some z∧wx.heap[w.heap.size+1]? = some e∧Below w.heap.size w wx
theorem rows2_a (w:World) (z e:Obj) (m:Nat):Rows2 w (((w.alloc z).drewN m).alloc e) z e:=by
 have h1:((w.alloc z).drewN m).heap.size=w.heap.size+1:=by rw [heap_drewJ]; simp
 refine ⟨?_,?_,?_⟩
 ·rw [Below.heap_alloc _ _ _ (by omega),heap_drewJ]; exact heap_alloc_new w z
 ·rw [← h1]; exact heap_alloc_new _ _
 ·exact (below_drewN ((Below.refl _ _).alloc (Nat.le_refl _) z) m).alloc (by omega) e
theorem rows2_drew {w wx:World} {z e:Obj} (h:Rows2 w wx z e) (m:Nat):Rows2 w (wx.drewN m) z e :=
 ⟨by rw [heap_drewJ]; exact h.1,by rw [heap_drewJ]; exact h.2.1,below_drewN h.2.2 m⟩
theorem rows2_set {w wx:World} {z:Obj} {a b c d:Value} {t:TypeId} (h:Rows2 w wx z (.cells #[a,b,c,d] t (0,0))) (x0 x1 x2 x3:Value) :
  Rows2 w ((((wx.setCell ⟨w.heap.size+1,0,none⟩ x0).setCell ⟨w.heap.size+1,1,none⟩ x1).setCell ⟨w.heap.size+1,2,none⟩ x2).setCell ⟨w.heap.size+1,3,none⟩ x3) z (.cells #[x0,x1,x2,x3] t (0,0)):=by
 refine ⟨?_,set4 h.2.1 x0 x1 x2 x3,(((h.2.2.setCell (Nat.le_succ _) _).setCell (Nat.le_succ _) _).setCell (Nat.le_succ _) _).setCell (Nat.le_succ _) _⟩
 rw [heap_setCell_other _ _ _ _ (by simp),heap_setCell_other _ _ _ _ (by simp),heap_setCell_other _ _ _ _ (by simp),heap_setCell_other _ _ _ _ (by simp)]
 exact h.1
theorem rows2_b (w:World) (z:Obj) (a b c d:Value) (t:TypeId) (m m':Nat) (x0 x1 x2 x3:Value) :
  Rows2 w (((((((w.alloc z).drewN m).alloc (.cells #[a,b,c,d] t (0,0))).drewN m').setCell ⟨w.heap.size+1,0,none⟩ x0).setCell ⟨w.heap.size+1,1,none⟩ x1).setCell ⟨w.heap.size+1,2,none⟩ x2 |>.setCell ⟨w.heap.size+1,3,none⟩ x3) z (.cells #[x0,x1,x2,x3] t (0,0)) :=
 rows2_set (rows2_drew (rows2_a w z _ m) m') x0 x1 x2 x3
theorem rows2_c (w:World) (z:Obj) (a b c d:Value) (t:TypeId) (m':Nat) (x0 x1 x2 x3:Value) :
  Rows2 w ((((((w.alloc z).alloc (.cells #[a,b,c,d] t (0,0))).drewN m').setCell ⟨w.heap.size+1,0,none⟩ x0).setCell ⟨w.heap.size+1,1,none⟩ x1).setCell ⟨w.heap.size+1,2,none⟩ x2 |>.setCell ⟨w.heap.size+1,3,none⟩ x3) z (.cells #[x0,x1,x2,x3] t (0,0)) :=
 rows2_set (rows2_drew (rows2_a w z _ 0) m') x0 x1 x2 x3
theorem sizeEnt:(Tryz.prog.info? 134).map (·.size)=some 4:=by kernel_rfl
def entCells (n:Nat) (s:St):Array Value:=#[.int .i64 s.ph,.int .i64 s.pr,.int .i64 s.at_,.int .u32 n]
theorem numL_lt4 (l:List UInt8):numL (l.take 4)<4294967296:=readN_lt l
theorem readS_fits (t:List UInt8):(readS t).fits:=by
 have h1:=numL_lt ((t.drop 4).take 1)
 have h1':256 ^ ((t.drop 4).take 1).length≤256 ^ 1:=Nat.pow_le_pow_right (by decide) (by simp; omega)
 refine ⟨by show numL _<_; omega,numL_lt4 _,numL_lt4 _⟩
theorem slot_ag (n ph p a:Nat) (w:World) (hn:n<4294967296) (h1:ph<256) (h2:p<4294967296) (h3:a<4294967296) :
  Calls Tryz.prog 188 #[.agg #[.int .i64 (ph:Int),.int .i64 (p:Int),.int .i64 (a:Int),.int .u32 (n:Int)]] w fun e w'=>e=.returned (.string (bA (bodyL n ⟨ph,p,a⟩ ++ [165])))∧Below w.heap.size w w' :=
 slot_any n ⟨ph,p,a⟩ w hn ⟨h1,h2,h3⟩
theorem held_any (t:ByteArray) (k:Nat) (w:World) (ht:t.size=18) :
  Calls Tryz.prog 167 #[.string t,.int .u32 k] w fun e w'=>e=.returned (.tuple #[entV (readN t.data.toList) (readS t.data.toList),.bool (decide (1≤readN t.data.toList∧readN t.data.toList % 2=k∧bodyL (readN t.data.toList) (readS t.data.toList) ++ [165]=t.data.toList))])∧Below w.heap.size w w':=by
 have x4:=idx_str t 4 4 (by omega) rfl
 have s5:=slice_low t 5 5 rfl (by omega)
 have s9:=slice_low t 9 9 rfl (by omega)
 have b4:(t[4]'(by omega)).toNat<256:=UInt8.toNat_lt (t[4]'(by omega))
 obtain ⟨n,HN⟩:∃ n,Hid (numL (t.data.toList.take 4)=n):=⟨_,rfl⟩
 obtain ⟨p,HP⟩:∃ n,Hid (numL ((t.extract 5 t.size).data.toList.take 4)=n):=⟨_,rfl⟩
 obtain ⟨a,HA⟩:∃ n,Hid (numL ((t.extract 9 t.size).data.toList.take 4)=n):=⟨_,rfl⟩
 have hn:n<4294967296:=by rw [← HN.out]; exact numL_lt4 _
 have hp:p<4294967296:=by rw [← HP.out]; exact numL_lt4 _
 have ha:a<4294967296:=by rw [← HA.out]; exact numL_lt4 _
 have Z5:Hid (4≤(t.extract 5 t.size).size):=by unfold Hid; rw [size_list,ext_list]; simp; omega
 have Z9:Hid (4≤(t.extract 9 t.size).size):=by unfold Hid; rw [size_list,ext_list]; simp; omega
 have Z0:Hid (4≤t.size):=by unfold Hid; omega
 have HS:Hid (readS t.data.toList=⟨(t[4]'(by omega)).toNat,p,a⟩):=by
  unfold Hid readS
  have e5:(t.extract 5 t.size).data.toList=t.data.toList.drop 5:=by rw [ext_list]; apply List.take_of_length_le; simp
  have e9:(t.extract 9 t.size).data.toList=t.data.toList.drop 9:=by rw [ext_list]; apply List.take_of_length_le; simp
  rw [← HP.out,← HA.out,e5,e9]
  congr 1
  rw [getB,List.drop_eq_getElem_cons (by rw [size_list] at ht; omega)]
  simp [numL]
 have HR:Hid (readN t.data.toList=n):=HN
 generalize t.extract 5 t.size=u5 at s5 HP Z5
 generalize t.extract 9 t.size=u9 at s9 HA Z9
 generalize (t[4]'(by omega)).toNat=ph at x4 b4 HS
 rw [HR.out,HS.out]
 unfold entV
 obtain ⟨q,HQ⟩:∃ q:Bool,Hid (q=decide (1≤n∧n % 2=k∧bodyL n ⟨ph,p,a⟩ ++ [165]=t.data.toList)):=⟨_,hid (Eq.refl _)⟩
 rw [← HQ.out]
 have hw1:IntKind.i64.wrap (ph:Int)=ph:=by rw [IntKind.wrap_i64]; omega
 have hw2:IntKind.i64.wrap (p:Int)=p:=by rw [IntKind.wrap_i64]; omega
 have hw3:IntKind.i64.wrap (a:Int)=a:=by rw [IntKind.wrap_i64]; omega
 go_enter Tryz.func167,Tryz.ntmps167
 go_wp2_with fail
 go_cut [6] from 7 (fun s6 wx=>s6=.pointer (some ⟨w.heap.size+1,0,none⟩)∧Rows2 w wx (.cells #[.int .i64 0,.int .i64 0,.int .i64 0,.int .u32 0] 134 (0,0)) (.cells #[.int .i64 (ph:Int),.int .i64 (p:Int),.int .i64 (a:Int),.int .u32 (n:Int)] 134 (0,0)))
 case first =>
  go_region_held3 (fun _=>True) (trivial) (first|(go_at_call 187; (with_reducible refine (four_is u5 p _ Z5.out HP.out).mono ?_); rintro e wx ⟨rfl,m,rfl⟩)|(go_at_call 187; (with_reducible refine (four_is u9 a _ Z9.out HA.out).mono ?_); rintro e wx ⟨rfl,m,rfl⟩)|(go_at_call 187; (with_reducible refine (four_is t n _ Z0.out HN.out).mono ?_); rintro e wx ⟨rfl,m,rfl⟩))
  all_goals go_step
  all_goals go_step
  all_goals go_meet
  all_goals refine ⟨rfl,?_⟩
  all_goals first|(with_reducible exact rows2_a _ _ _ _)|(with_reducible exact rows2_b _ _ _ _ _ _ _ _ _ _ _ _ _)|(with_reducible exact rows2_c _ _ _ _ _ _ _ _ _ _ _ _)
 case rest =>
  obtain ⟨rfl,r0,r1,hb⟩:=hcut
  have HB:=hid hb
  have R0:=hid r0
  have R1:=hid r1
  clear hb r0 r1
  have hsz:w.heap.size+1<wc.heap.size:=row_ltJ R1.out
  have hs0:w.heap.size<wc.heap.size:=by omega
  have E0:wc.cell? ⟨w.heap.size+1,0,none⟩=some (.int .i64 ph):=by rw [cell_of_row _ _ _ _ _ _ R1.out]; rfl
  have E1:wc.cell? ⟨w.heap.size+1,1,none⟩=some (.int .i64 p):=by rw [cell_of_row _ _ _ _ _ _ R1.out]; rfl
  have E2:wc.cell? ⟨w.heap.size+1,2,none⟩=some (.int .i64 a):=by rw [cell_of_row _ _ _ _ _ _ R1.out]; rfl
  have E3:wc.cell? ⟨w.heap.size+1,3,none⟩=some (.int .u32 n):=by rw [cell_of_row _ _ _ _ _ _ R1.out]; rfl
  have D0:wc.cell? ⟨w.heap.size,0,none⟩=some (.int .i64 0):=by rw [cell_of_row _ _ _ _ _ _ R0.out]; rfl
  have D1:wc.cell? ⟨w.heap.size,1,none⟩=some (.int .i64 0):=by rw [cell_of_row _ _ _ _ _ _ R0.out]; rfl
  have D2:wc.cell? ⟨w.heap.size,2,none⟩=some (.int .i64 0):=by rw [cell_of_row _ _ _ _ _ _ R0.out]; rfl
  have D3:wc.cell? ⟨w.heap.size,3,none⟩=some (.int .u32 0):=by rw [cell_of_row _ _ _ _ _ _ R0.out]; rfl
  have F0:=frozen_of_row wc w.heap.size 0 _ _ R0.out
  have F1:=frozen_of_row wc w.heap.size 1 _ _ R0.out
  have F2:=frozen_of_row wc w.heap.size 2 _ _ R0.out
  have F3:=frozen_of_row wc w.heap.size 3 _ _ R0.out
  by_cases g0:0<n
  ·have tm:(n:Int).tmod 2=((n % 2:Nat):Int):=by rw [Int.tmod_eq_emod_of_nonneg (by omega)]; omega
   rcases g1:((n:Int).tmod 2 == (k:Int)) with _|_
   ·have g4:¬ n % 2=k:=by rw [tm] at g1; simp at g1; omega
    have g5:(n % 2 == k)=false:=by simpa using g4
    have g6:decide (n % 2=k)=false:=by simpa using g4
    have g7:((n:Int) % 2 == (k:Int))=false:=by simp; omega
    have g8:decide ((n:Int) % 2=(k:Int))=false:=by simp; omega
    clear tm
    have HF:Hid (q=false):=by rw [HQ.out]; exact decide_eq_false (fun h=>g4 h.2.1)
    go_wp2_with fail
    go_big_region
    go_wp2
    refine bodyPost_ret (results_row2 rfl _ _ w.heap.size 134 _ (0,0) _ rfl (set4 R0.out _ _ _ _) Tryz.underlying134 rfl sizeEnt) rfl ?_
    exact ⟨by rw [HF.out]; rfl,((((HB.out.setCell (Nat.le_refl _) _).setCell (Nat.le_refl _) _).setCell (Nat.le_refl _) _).setCell (Nat.le_refl _) _).drew⟩
   ·have g4:n % 2=k:=by rw [tm] at g1; simp at g1; omega
    have g7:((n:Int) % 2 == (k:Int))=true:=by simp; omega
    obtain ⟨eqb,HEQ⟩:∃ eqb:Bool,Hid (((bA (bodyL n ⟨ph,p,a⟩ ++ [165])).toList == t.toList)=eqb):=⟨_,hid (Eq.refl _)⟩
    have HF:Hid (q=eqb):=by
     unfold Hid
     rw [HQ.out,← HEQ.out,ByteArray.toList_eq,ByteArray.toList_eq,bA_list]
     by_cases hxy:bodyL n ⟨ph,p,a⟩ ++ [165]=t.data.toList
     ·rw [decide_eq_true ⟨g0,g4,hxy⟩,hxy]; simp
     ·rw [decide_eq_false (fun h=>hxy h.2.2)]; exact (beq_eq_false_iff_ne.2 hxy).symm
    have heq:=HEQ.out
    clear tm
    go_wp2_with fail
    go_region_held3 (fun w'=>w'.cell? ⟨w.heap.size+1,0,none⟩=some (.int .i64 ph)∧w'.cell? ⟨w.heap.size+1,1,none⟩=some (.int .i64 p)∧w'.cell? ⟨w.heap.size+1,2,none⟩=some (.int .i64 a)∧w'.cell? ⟨w.heap.size+1,3,none⟩=some (.int .u32 n)) (go_keep) (first|(go_at_call 188; (with_reducible refine (slot_ag n ph p a _ hn b4 hp ha).mono ?_); rintro e w2 ⟨rfl,hb2⟩; have y0:=(hb2.cell (p:=⟨w.heap.size+1,0,none⟩) hsz).trans E0; have y1:=(hb2.cell (p:=⟨w.heap.size+1,1,none⟩) hsz).trans E1; have y2:=(hb2.cell (p:=⟨w.heap.size+1,2,none⟩) hsz).trans E2; have y3:=(hb2.cell (p:=⟨w.heap.size+1,3,none⟩) hsz).trans E3; have z0:=(hb2.cell (p:=⟨w.heap.size,0,none⟩) hs0).trans D0; have z1:=(hb2.cell (p:=⟨w.heap.size,1,none⟩) hs0).trans D1; have z2:=(hb2.cell (p:=⟨w.heap.size,2,none⟩) hs0).trans D2; have z3:=(hb2.cell (p:=⟨w.heap.size,3,none⟩) hs0).trans D3; have f0:=(hb2.frozen (p:=⟨w.heap.size,0,none⟩) hs0).trans F0; have f1:=(hb2.frozen (p:=⟨w.heap.size,1,none⟩) hs0).trans F1; have f2:=(hb2.frozen (p:=⟨w.heap.size,2,none⟩) hs0).trans F2; have f3:=(hb2.frozen (p:=⟨w.heap.size,3,none⟩) hs0).trans F3; have HB2:=hid hb2; clear hb2))
    have R2:=hid ((HB2.out.block w.heap.size hs0).trans R0.out)
    have HB3:=hid (HB.out.drew.trans ((HB2.out).mono (show w.heap.size≤wc.heap.size by omega)))
    go_wp2
    refine bodyPost_ret (results_row2 rfl _ _ w.heap.size 134 _ (0,0) _ rfl (set4 R2.out _ _ _ _) Tryz.underlying134 rfl sizeEnt) rfl ?_
    exact ⟨by rw [HF.out]; rfl,((((HB3.out.setCell (Nat.le_refl _) _).setCell (Nat.le_refl _) _).setCell (Nat.le_refl _) _).setCell (Nat.le_refl _) _)⟩
  ·have HF:Hid (q=false):=by rw [HQ.out]; exact decide_eq_false (fun h=>g0 h.1)
   go_wp2_with fail
   go_big_region
   go_wp2
   refine bodyPost_ret (results_row2 rfl _ _ w.heap.size 134 _ (0,0) _ rfl (set4 R0.out _ _ _ _) Tryz.underlying134 rfl sizeEnt) rfl ?_
   exact ⟨by rw [HF.out]; rfl,((((HB.out.setCell (Nat.le_refl _) _).setCell (Nat.le_refl _) _).setCell (Nat.le_refl _) _).setCell (Nat.le_refl _) _).drew⟩
def bst (L:List UInt8) (d:Nat):Nat→Nat×St
 | 0=>(0,St.zero)
 | 1=>heldL (2 * d) (slotL L (2 * d))
 | _=>dealL L d
theorem bst_step (L:List UInt8) (d k:Nat) (hk:k<2) :
  bst L d (k+1)=if (1≤readN (slotL L (2 * d+k))∧readN (slotL L (2 * d+k)) % 2=k∧bodyL (readN (slotL L (2 * d+k))) (readS (slotL L (2 * d+k))) ++ [165]=slotL L (2 * d+k))∧(bst L d k).1<readN (slotL L (2 * d+k))
   then (readN (slotL L (2 * d+k)),readS (slotL L (2 * d+k))) else bst L d k:=by
 have hh:heldL (2 * d+k) (slotL L (2 * d+k))=if (1≤readN (slotL L (2 * d+k))∧readN (slotL L (2 * d+k)) % 2=k∧bodyL (readN (slotL L (2 * d+k))) (readS (slotL L (2 * d+k))) ++ [165]=slotL L (2 * d+k)) then (readN (slotL L (2 * d+k)),readS (slotL L (2 * d+k))) else (0,St.zero):=by
  unfold heldL
  rw [show (2 * d+k) % 2=k by omega]
 obtain rfl|rfl:k=0 ∨ k=1:=by omega
 ·show heldL (2 * d+0) (slotL L (2 * d+0))=_
  rw [hh]
  by_cases c:(1≤readN (slotL L (2 * d+0))∧readN (slotL L (2 * d+0)) % 2=0∧bodyL (readN (slotL L (2 * d+0))) (readS (slotL L (2 * d+0))) ++ [165]=slotL L (2 * d+0))
  ·rw [if_pos c,if_pos ⟨c,c.1⟩]
  ·rw [if_neg c,if_neg (fun h=>c h.1)]; rfl
 ·show dealL L d=_
  unfold dealL
  rw [hh]
  by_cases c:(1≤readN (slotL L (2 * d+1))∧readN (slotL L (2 * d+1)) % 2=1∧bodyL (readN (slotL L (2 * d+1))) (readS (slotL L (2 * d+1))) ++ [165]=slotL L (2 * d+1))
  ·rw [if_pos c]
   by_cases c2:(heldL (2 * d) (slotL L (2 * d))).1<readN (slotL L (2 * d+1))
   ·rw [if_pos c2,if_pos ⟨c,c2⟩]
   ·rw [if_neg c2,if_neg (fun h=>c2 h.2)]; rfl
  ·rw [if_neg c,if_neg (Nat.not_lt_zero _)]
   exact (if_neg (fun h=>c h.1)).symm
theorem bst_lt (L:List UInt8) (d:Nat):∀ k,(bst L d k).1<4294967296
 | 0=>(by decide:(0:Nat)<4294967296)
 | 1=>heldL_lt _ _
 | _+2=>by
  show (dealL L d).1<_
  unfold dealL
  split
  ·exact heldL_lt _ _
  ·exact heldL_lt _ _
theorem ext_slot (B:ByteArray) (k:Nat):(B.extract (18 * k) (18 * k+18)).data.toList=slotL B.data.toList k:=by
 rw [ext_list]; unfold slotL; rw [Nat.add_sub_cancel_left]
theorem held_is (t:ByteArray) (l:List UInt8) (k n:Nat) (s:St) (b:Bool) (w:World) (hl:t.data.toList=l) (h18:l.length=18) (hn:readN l=n) (hs:readS l=s) (hb:decide (1≤n∧n % 2=k∧bodyL n s ++ [165]=l)=b) :
  Calls Tryz.prog 167 #[.string t,.int .u32 (k:Int)] w fun e w'=>e=.returned (.tuple #[.agg #[.int .i64 (s.ph:Int),.int .i64 (s.pr:Int),.int .i64 (s.at_:Int),.int .u32 (n:Int)],.bool b])∧Below w.heap.size w w':=by
 have h:=held_any t k w (by rw [size_list,hl]; exact h18)
 rw [hl,hn,hs,hb] at h
 exact h
theorem cell_allocJ {w:World} {x:Addr} {v:Value} {o:Obj} (h:w.cell? x=some v):(w.alloc o).cell? x=some v:=by
 rw [World.cell?_alloc_lt _ _ _ (World.block_lt_of_cell? w x h)]; exact h
theorem place_is (d n r:Nat) (w:World) (hd:d≤100) (hn:n<4294967296) (hr:18 * (2 * d+n % 2)=r) :
  Calls Tryz.prog 136 #[.int .i64 (d:Int),.int .u32 (n:Int)] w fun e w'=>e=.returned (.int .i64 (r:Int))∧w'=w:=by
 rw [← hr]; exact place_any d n w hd hn
theorem newest_any (B:ByteArray) (d:Nat) (w:World) (hB:B.size=216) (hd:d<6) :
  Calls Tryz.prog 137 #[.string B,.int .i64 (d:Int)] w fun e w'=>e=.returned (entV (dealL B.data.toList d).1 (dealL B.data.toList d).2)∧Below w.heap.size w w':=by
 have HZ:Hid (∀ k,k<2→(slotL B.data.toList (2 * d+k)).length=18):=fun k hk=>slotL_length (by rw [size_list] at hB; omega)
 have HS:Hid (∀ k,k<2→bst B.data.toList d (k+1)=_):=fun k hk=>bst_step B.data.toList d k hk
 have HL:Hid (∀ k,(bst B.data.toList d k).1<4294967296):=bst_lt _ _
 have HE:Hid (∀ k,(B.extract (18 * k) (18 * k+18)).data.toList=slotL B.data.toList k):=ext_slot B
 have HF:Hid (bst B.data.toList d 2=dealL B.data.toList d):=rfl
 rw [← HF.out]
 have HI:Hid (bst B.data.toList d 0=(0,St.zero)):=rfl
 go_enter Tryz.func137,Tryz.ntmps137
 go_wp2
 go_loopw [10] (fun i wr=>∃ k:Nat,k≤2∧i=.int .u32 (k:Int)∧wr.heap[w.heap.size]? = some (.cells (entCells 0 St.zero) 134 (0,0))∧wr.heap[w.heap.size+1]? = some (.cells (entCells (bst B.data.toList d k).1 (bst B.data.toList d k).2) 134 (0,0))∧Below w.heap.size w wr) (fun i _=>2 - (intOf i).toNat)
 case atStart=>exact ⟨0,by omega,rfl,heap_alloc2_old _ _ _,by rw [HI.out]; exact heap_alloc2_new _ _ _,((Below.refl _ _).alloc (Nat.le_refl _) _).alloc (by simp) _⟩
 case round =>
  obtain ⟨k,hk,rfl,r0,r1,hb⟩:=hrel
  have hsz:=row_ltJ r1
  by_cases hlt:k<2
  ·have hz:=hid (HZ.out k hlt)
   obtain ⟨l,HLs⟩:∃ l,Hid (slotL B.data.toList (2 * d+k)=l):=⟨_,rfl⟩
   obtain ⟨r,HR⟩:∃ r,Hid (18 * (2 * d+k % 2)=r):=⟨_,rfl⟩
   have hr1:18 * (2 * d+k)=r:=by rw [← HR.out]; omega
   have hr2:r+18≤216:=by omega
   have hx:=hid (HE.out (2 * d+k))
   have hstep:=HS.out k hlt
   rw [HLs.out] at hz hx hstep
   rw [hr1] at hx
   have hm:=HL.out k
   obtain ⟨⟨m,bs⟩,HM⟩:∃ x,Hid (bst B.data.toList d k=x):=⟨_,rfl⟩
   rw [HM.out] at hm hstep r1
   obtain ⟨n,HN⟩:∃ n,Hid (readN l=n):=⟨_,rfl⟩
   obtain ⟨⟨ph,pr,a⟩,HSt⟩:∃ n,Hid (readS l=n):=⟨_,rfl⟩
   have hn:n<4294967296:=by rw [← HN.out]; exact readN_lt l
   rw [HN.out,HSt.out] at hstep
   obtain ⟨b,Hb⟩:∃ b:Bool,Hid (decide (1≤n∧n % 2=k∧bodyL n ⟨ph,pr,a⟩ ++ [165]=l)=b):=⟨_,hid (Eq.refl _)⟩
   have HSt2:=hid hstep
   have hsl:=slice_mid B r (r+18) (r:Int) ((r:Int)+18) rfl (by omega) (by omega) (by omega)
   obtain ⟨tt,Htt⟩:∃ t,Hid (B.extract r (r+18)=t):=⟨_,rfl⟩
   rw [Htt.out] at hsl hx
   have R0:=hid r0
   have R1:=hid r1
   have HB:=hid hb
   clear r0 r1 hb hstep hr1
   go_wp2_with (go_at_call 136; (with_reducible refine (place_is d k r _ (by omega) (by omega) HR.out).mono ?_); rintro e wx ⟨rfl,hx⟩; subst wx)
   refine (held_is tt l k n ⟨ph,pr,a⟩ b _ hx.out hz.out HN.out HSt.out Hb.out).mono ?_
   rintro e w1 ⟨rfl,hb1⟩
   have R1b:=hid ((hb1.block _ hsz).trans R1.out)
   have R0b:=hid ((hb1.block w.heap.size (by omega)).trans R0.out)
   have hs1:=row_ltJ R1b.out
   have HB1:=hid (HB.out.trans (hb1.mono HB.out.size))
   clear hb1
   obtain ⟨W,HW⟩:∃ W,Hid (w1.alloc (.cells #[.int .i64 (ph:Int),.int .i64 (pr:Int),.int .i64 (a:Int),.int .u32 (n:Int)] 134)=W):=⟨_,rfl⟩
   have Q1:Hid (W.heap[w.heap.size+1]? = some (.cells (entCells m bs) 134 (0,0))):=by rw [← HW.out]; exact (Below.heap_alloc w1 _ _ hs1).trans R1b.out
   have Q0:Hid (W.heap[w.heap.size]? = some (.cells (entCells 0 St.zero) 134 (0,0))):=by rw [← HW.out]; exact (Below.heap_alloc w1 _ _ (by omega)).trans R0b.out
   have QE:Hid (W.heap[w1.heap.size]? = some (.cells #[.int .i64 (ph:Int),.int .i64 (pr:Int),.int .i64 (a:Int),.int .u32 (n:Int)] 134 (0,0))):=by rw [← HW.out]; exact heap_alloc_new w1 _
   have HBW:Hid (Below w.heap.size w W):=by rw [← HW.out]; exact HB1.out.alloc HB1.out.size _
   have hW:=HW.out
   have c0:W.cell? ⟨w.heap.size+1,0,none⟩=some (.int .i64 (bs.ph:Int)):=by rw [cell_of_row _ _ _ _ _ _ Q1.out]; rfl
   have c1:W.cell? ⟨w.heap.size+1,1,none⟩=some (.int .i64 (bs.pr:Int)):=by rw [cell_of_row _ _ _ _ _ _ Q1.out]; rfl
   have c2:W.cell? ⟨w.heap.size+1,2,none⟩=some (.int .i64 (bs.at_:Int)):=by rw [cell_of_row _ _ _ _ _ _ Q1.out]; rfl
   have c3:W.cell? ⟨w.heap.size+1,3,none⟩=some (.int .u32 (m:Int)):=by rw [cell_of_row _ _ _ _ _ _ Q1.out]; rfl
   have f0:=frozen_of_row W _ 0 _ _ Q1.out
   have f1:=frozen_of_row W _ 1 _ _ Q1.out
   have f2:=frozen_of_row W _ 2 _ _ Q1.out
   have f3:=frozen_of_row W _ 3 _ _ Q1.out
   have e0:W.cell? ⟨w1.heap.size,0,none⟩=some (.int .i64 (ph:Int)):=by rw [cell_of_row _ _ _ _ _ _ QE.out]; rfl
   have e1:W.cell? ⟨w1.heap.size,1,none⟩=some (.int .i64 (pr:Int)):=by rw [cell_of_row _ _ _ _ _ _ QE.out]; rfl
   have e2:W.cell? ⟨w1.heap.size,2,none⟩=some (.int .i64 (a:Int)):=by rw [cell_of_row _ _ _ _ _ _ QE.out]; rfl
   have e3:W.cell? ⟨w1.heap.size,3,none⟩=some (.int .u32 (n:Int)):=by rw [cell_of_row _ _ _ _ _ _ QE.out]; rfl
   have fin:∀ x,(1≤n∧n % 2=k∧bodyL n ⟨ph,pr,a⟩ ++ [165]=l)∧m<n→x=(n,(⟨ph,pr,a⟩:St))→Hid (bst B.data.toList d (k+1)=x):=fun x c hx=>by unfold Hid; rw [HSt2.out,if_pos c,hx]
   have fin2:¬ ((1≤n∧n % 2=k∧bodyL n ⟨ph,pr,a⟩ ++ [165]=l)∧m<n)→Hid (bst B.data.toList d (k+1)=(m,bs)):=fun c=>by unfold Hid; rw [HSt2.out,if_neg c]
   cases b with
   | false =>
    have G:=fin2 (fun c=>of_decide_eq_false Hb.out c.1)
    clear fin fin2 HSt2
    go_wp2_with fail
    go_roundw
    case rel=>exact ⟨k+1,by omega,by go_num,Q0.out,by rw [G.out]; exact Q1.out,HBW.out⟩
    case measure=>simp [intOf]; omega
   | true =>
    have hd:=of_decide_eq_true Hb.out
    by_cases hc:m<n
    ·have G:=fin _ ⟨hd,hc⟩ rfl
     clear fin fin2 HSt2 hd
     have hne:=hid hs1
     have RS:=hid (rows2_set (w:=w) ⟨Q0.out,Q1.out,HBW.out⟩ (.int .i64 (ph:Int)) (.int .i64 (pr:Int)) (.int .i64 (a:Int)) (.int .u32 (n:Int)))
     go_wp2_with fail
     go_roundw
     case rel=>exact ⟨k+1,by omega,by go_num,RS.out.1,by rw [G.out]; exact RS.out.2.1,RS.out.2.2⟩
     case measure=>simp [intOf]; omega
    ·have G:=fin2 (fun c=>hc c.2)
     clear fin fin2 HSt2 hd
     go_wp2_with fail
     go_roundw
     case rel=>exact ⟨k+1,by omega,by go_num,Q0.out,by rw [G.out]; exact Q1.out,HBW.out⟩
     case measure=>simp [intOf]; omega
  ·obtain rfl:k=2:=by omega
   have R0:=hid r0
   have R1:=hid r1
   have HB:=hid hb
   have c0:wr.cell? ⟨w.heap.size+1,0,none⟩=some (.int .i64 ((bst B.data.toList d 2).2.ph:Int)):=by rw [cell_of_row _ _ _ _ _ _ R1.out]; rfl
   have c1:wr.cell? ⟨w.heap.size+1,1,none⟩=some (.int .i64 ((bst B.data.toList d 2).2.pr:Int)):=by rw [cell_of_row _ _ _ _ _ _ R1.out]; rfl
   have c2:wr.cell? ⟨w.heap.size+1,2,none⟩=some (.int .i64 ((bst B.data.toList d 2).2.at_:Int)):=by rw [cell_of_row _ _ _ _ _ _ R1.out]; rfl
   have c3:wr.cell? ⟨w.heap.size+1,3,none⟩=some (.int .u32 ((bst B.data.toList d 2).1:Int)):=by rw [cell_of_row _ _ _ _ _ _ R1.out]; rfl
   have g0:wr.cell? ⟨w.heap.size,0,none⟩=some (.int .i64 0):=by rw [cell_of_row _ _ _ _ _ _ R0.out]; rfl
   have g1:wr.cell? ⟨w.heap.size,1,none⟩=some (.int .i64 0):=by rw [cell_of_row _ _ _ _ _ _ R0.out]; rfl
   have g2:wr.cell? ⟨w.heap.size,2,none⟩=some (.int .i64 0):=by rw [cell_of_row _ _ _ _ _ _ R0.out]; rfl
   have g3:wr.cell? ⟨w.heap.size,3,none⟩=some (.int .u32 0):=by rw [cell_of_row _ _ _ _ _ _ R0.out]; rfl
   have f0:=frozen_of_row wr _ 0 _ _ R0.out
   have f1:=frozen_of_row wr _ 1 _ _ R0.out
   have f2:=frozen_of_row wr _ 2 _ _ R0.out
   have f3:=frozen_of_row wr _ 3 _ _ R0.out
   clear r0 r1 hb
   go_wp2_with fail
   refine bodyPost_ret (results_cell_row rfl _ _ w.heap.size 134 _ (0,0) _ rfl (set4 R0.out _ _ _ _) Tryz.underlying134 rfl sizeEnt) rfl ?_
   exact ⟨rfl,(((HB.out.setCell (Nat.le_refl _) _).setCell (Nat.le_refl _) _).setCell (Nat.le_refl _) _).setCell (Nat.le_refl _) _⟩
def entL (x:Nat×St):List Value:=[.int .i64 x.2.ph,.int .i64 x.2.pr,.int .i64 x.2.at_,.int .u32 x.1]
def jL (p:Nat) (E:Nat→Nat×St) (over:Bool):List Value:=.pointer (some ⟨p,0,none⟩) :: (entL (E 0) ++ (entL (E 1) ++ (entL (E 2) ++ (entL (E 3) ++ (entL (E 4) ++ (entL (E 5) ++ [.bool over]))))))
def JR (w:World) (j p:Nat) (E:Nat→Nat×St) (over:Bool):Prop:=w.heap[j]? = some (.cells (jL p E over).toArray 137 (0,0))
def updE (E:Nat→Nat×St) (d:Nat) (x:Nat×St):Nat→Nat×St:=fun e=>if e=d then x else E e
theorem JR.cell {w:World} {j p:Nat} {E:Nat→Nat×St} {over:Bool} (h:JR w j p E over) (i:Nat):w.cell? ⟨j,i,none⟩=(jL p E over)[i]?:=by
 rw [cell_of_row w j i _ _ _ h,List.getElem?_toArray]
theorem JR.plate {w:World} {j p:Nat} {E:Nat→Nat×St} {over:Bool} (h:JR w j p E over):w.cell? ⟨j,0,none⟩=some (.pointer (some ⟨p,0,none⟩)):=h.cell 0
theorem JR.over {w:World} {j p:Nat} {E:Nat→Nat×St} {over:Bool} (h:JR w j p E over):w.cell? ⟨j,25,none⟩=some (.bool over):=h.cell 25
theorem JR.fz {w:World} {j p:Nat} {E:Nat→Nat×St} {over:Bool} (h:JR w j p E over) (i:Nat):w.frozen? ⟨j,i,none⟩=false:=frozen_of_row w j i _ _ h
theorem six {d:Nat} (hd:d<6):d=0 ∨ d=1 ∨ d=2 ∨ d=3 ∨ d=4 ∨ d=5:=by omega
theorem JR.ent {w:World} {j p d:Nat} {E:Nat→Nat×St} {over:Bool} (h:JR w j p E over) (hd:d<6) :
  w.cell? ⟨j,1+d * 4,none⟩=some (.int .i64 (E d).2.ph)∧w.cell? ⟨j,1+d * 4+1,none⟩=some (.int .i64 (E d).2.pr)∧w.cell? ⟨j,1+d * 4+2,none⟩=some (.int .i64 (E d).2.at_)∧w.cell? ⟨j,1+d * 4+3,none⟩=some (.int .u32 (E d).1):=by
 rw [h.cell,h.cell,h.cell,h.cell]
 rcases six hd with rfl|rfl|rfl|rfl|rfl|rfl <;> exact ⟨rfl,rfl,rfl,rfl⟩
theorem JR.set {w:World} {j p d:Nat} {E:Nat→Nat×St} {over:Bool} (h:JR w j p E over) (hd:d<6) (x:Nat×St) :
  JR ((((w.setCell ⟨j,1+d * 4,none⟩ (.int .i64 x.2.ph)).setCell ⟨j,1+d * 4+1,none⟩ (.int .i64 x.2.pr)).setCell ⟨j,1+d * 4+2,none⟩ (.int .i64 x.2.at_)).setCell ⟨j,1+d * 4+3,none⟩ (.int .u32 x.1)) j p (updE E d x) over:=by
 have h0:=heap_setCell_same w j (1+d * 4) _ _ (.int .i64 x.2.ph) h
 have h1:=heap_setCell_same _ j (1+d * 4+1) _ _ (.int .i64 x.2.pr) h0
 have h2:=heap_setCell_same _ j (1+d * 4+2) _ _ (.int .i64 x.2.at_) h1
 have h3:=heap_setCell_same _ j (1+d * 4+3) _ _ (.int .u32 x.1) h2
 unfold JR
 rw [h3]
 rcases six hd with rfl|rfl|rfl|rfl|rfl|rfl <;> rfl
theorem JR.setOver {w:World} {j p:Nat} {E:Nat→Nat×St} {over:Bool} (h:JR w j p E over) (b:Bool):JR (w.setCell ⟨j,25,none⟩ (.bool b)) j p E b:=by
 unfold JR
 rw [heap_setCell_same w j 25 _ _ _ h]
 rfl
theorem JR.ext {w:World} {j p:Nat} {E F:Nat→Nat×St} {over:Bool} (h:JR w j p E over) (he:∀ d,d<6→E d=F d):JR w j p F over:=by
 unfold JR jL at h ⊢
 rw [← he 0 (by decide),← he 1 (by decide),← he 2 (by decide),← he 3 (by decide),← he 4 (by decide),← he 5 (by decide)]
 exact h
theorem JR.drew {w:World} {j p:Nat} {E:Nat→Nat×St} {over:Bool} (h:JR w j p E over):JR w.drew j p E over:=h
theorem JR.later {w w':World} {j p B:Nat} {E:Nat→Nat×St} {over:Bool} (h:JR w j p E over) (hb:Below B w w') (hj:j<B):JR w' j p E over:=(hb.block j hj).trans h
theorem JR.lt {w:World} {j p:Nat} {E:Nat→Nat×St} {over:Bool} (h:JR w j p E over):j<w.heap.size:=row_ltJ h
theorem JR.new (w:World) (p:Nat) (E:Nat→Nat×St) (over:Bool):JR (w.alloc (.cells (jL p E over).toArray 137)) w.heap.size p E over:=heap_alloc_new w _
end Go.Proofs.YtadhpkopkkjmfaaGreatDoor
