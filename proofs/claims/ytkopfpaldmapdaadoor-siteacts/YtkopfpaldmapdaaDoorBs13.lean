/-
  On the way to SActsProof: JF.
-/
import Derived.Test.YtkopfpaldmapdaaDoorBs9
import Derived.RegionTactic
import Derived.Laws.ResultCell
import Derived.BigRegion
set_option maxHeartbeats 8000000
set_option maxRecDepth 100000
namespace Go.Proofs.YtkopfpaldmapdaaDoor
open Go.RowKit
theorem results_row2 {P:Program} {fn:Func} {p u:Tmp} {ty:TypeId} (h:fn.results=#[.cell p ty,.tmp u]) (tmps:Array Value) (w:World) (g:Nat) (t:TypeId) (cs:Array Value) (fr:Nat×Nat) (d:TypeDesc)
  (hp:tmps.getD p undef=.pointer (some ⟨g,0,none⟩)) (hg:w.heap[g]? = some (.cells cs t fr))
  (hu:P.underlying ty=some d) (hd:(match d with|.struct _|.array _ _=>true|_=>false)=true) (hi:(P.info? ty).map (·.size)=some cs.size) :
  (results fn tmps).run P w=.ok (.tuple #[.agg cs,tmps.getD u undef]) w:=by
 rw [results_cell_tmp h,hp]
 simp [asAddr,run_loadVar_row w g t ty cs fr d hg hu hd hi]
theorem set4 {w:World} {g:Nat} {a b c d:Value} {t:TypeId} (h:w.heap[g]? = some (.cells #[a,b,c,d] t (0,0))) (x0 x1 x2 x3:Value) :
  ((((w.setCell ⟨g,0,none⟩ x0).setCell ⟨g,1,none⟩ x1).setCell ⟨g,2,none⟩ x2).setCell ⟨g,3,none⟩ x3).heap[g]? = some (.cells #[x0,x1,x2,x3] t (0,0)):=by
 have h0:=heap_setCell_same w g 0 _ _ x0 h
 have h1:=heap_setCell_same _ g 1 _ _ x1 h0
 have h2:=heap_setCell_same _ g 2 _ _ x2 h1
 exact heap_setCell_same _ g 3 _ _ x3 h2
theorem heap_drewJ (w:World) (n:Nat):(w.drewN n).heap=w.heap:=by
 induction n with
 | zero=>rfl
 | succ n ih=>first|exact ih|(unfold World.drewN; exact ih)|(simp [World.drewN]; done)
def Rows2 (w wx:World) (z e:Obj):Prop:=wx.heap[w.heap.size]? = some z∧wx.heap[w.heap.size+1]? = some e∧Below w.heap.size w wx
theorem rows2_a (w:World) (z e:Obj) (m:Nat):Rows2 w (((w.alloc z).drewN m).alloc e) z e:=by
 have h1:((w.alloc z).drewN m).heap.size=w.heap.size+1:=by rw [heap_drewJ]; simp
 refine ⟨?_,?_,?_⟩
 ·rw [Below.heap_alloc _ _ _ (by omega),heap_drewJ]; exact heap_alloc_new w z
 ·rw [← h1]; exact heap_alloc_new _ _
 ·exact (below_drewN ((Below.refl _ _).alloc (Nat.le_refl _) z) m).alloc (by omega) e
theorem rows2_drew {w wx:World} {z e:Obj} (h:Rows2 w wx z e) (m:Nat):Rows2 w (wx.drewN m) z e :=
 ⟨by rw [heap_drewJ]; exact h.1,by rw [heap_drewJ]; exact h.2.1,below_drewN h.2.2 m⟩
theorem rows2_set {w wx:World} {z:Obj} {a b c d:Value} {t:TypeId} (h:Rows2 w wx z (.cells #[a,b,c,d] t (0,0))) (x0 x1 x2 x3:Value) :
  Rows2 w ((((wx.setCell ⟨w.heap.size+1,0,none⟩ x0).setCell ⟨w.heap.size+1,1,none⟩ x1).setCell ⟨w.heap.size+1,2,none⟩ x2).setCell ⟨w.heap.size+1,3,none⟩ x3) z (.cells #[x0,x1,x2,x3] t (0,0)):=by
 refine ⟨?_,set4 h.2.1 x0 x1 x2 x3,(((h.2.2.setCell (Nat.le_succ _) _).setCell (Nat.le_succ _) _).setCell (Nat.le_succ _) _).setCell (Nat.le_succ _) _⟩
 rw [heap_setCell_other _ _ _ _ (by simp),heap_setCell_other _ _ _ _ (by simp),heap_setCell_other _ _ _ _ (by simp),heap_setCell_other _ _ _ _ (by simp)]
 exact h.1
theorem rows2_b (w:World) (z:Obj) (a b c d:Value) (t:TypeId) (m m':Nat) (x0 x1 x2 x3:Value) :
  Rows2 w (((((((w.alloc z).drewN m).alloc (.cells #[a,b,c,d] t (0,0))).drewN m').setCell ⟨w.heap.size+1,0,none⟩ x0).setCell ⟨w.heap.size+1,1,none⟩ x1).setCell ⟨w.heap.size+1,2,none⟩ x2 |>.setCell ⟨w.heap.size+1,3,none⟩ x3) z (.cells #[x0,x1,x2,x3] t (0,0)) :=
 rows2_set (rows2_drew (rows2_a w z _ m) m') x0 x1 x2 x3
theorem rows2_c (w:World) (z:Obj) (a b c d:Value) (t:TypeId) (m':Nat) (x0 x1 x2 x3:Value) :
  Rows2 w ((((((w.alloc z).alloc (.cells #[a,b,c,d] t (0,0))).drewN m').setCell ⟨w.heap.size+1,0,none⟩ x0).setCell ⟨w.heap.size+1,1,none⟩ x1).setCell ⟨w.heap.size+1,2,none⟩ x2 |>.setCell ⟨w.heap.size+1,3,none⟩ x3) z (.cells #[x0,x1,x2,x3] t (0,0)) :=
 rows2_set (rows2_drew (rows2_a w z _ 0) m') x0 x1 x2 x3
theorem sizeEnt:(Tryd.prog.info? 113).map (·.size)=some 4:=by kernel_rfl
def entCells (n:Nat) (s:St):Array Value:=#[.int .i64 s.ph,.int .i64 s.pr,.int .i64 s.at_,.int .u32 n]
theorem numL_lt4 (l:List UInt8):numL (l.take 4)<4294967296:=readN_lt l
theorem readS_fits (t:List UInt8):(readS t).fits:=by
 have h1:=numL_lt ((t.drop 4).take 1)
 have h1':256 ^ ((t.drop 4).take 1).length≤256 ^ 1:=Nat.pow_le_pow_right (by decide) (by simp; omega)
 refine ⟨by show numL _<_; omega,numL_lt4 _,numL_lt4 _⟩
theorem slot_ag (n ph p a:Nat) (w:World) (hn:n<4294967296) (h1:ph<256) (h2:p<4294967296) (h3:a<4294967296) :
  Calls Tryd.prog 69 #[.agg #[.int .i64 (ph:Int),.int .i64 (p:Int),.int .i64 (a:Int),.int .u32 (n:Int)]] w fun e w'=>e=.returned (.string (bA (bodyL n ⟨ph,p,a⟩ ++ [165])))∧Below w.heap.size w w' :=
 slot_any n ⟨ph,p,a⟩ w hn ⟨h1,h2,h3⟩
theorem held_any (t:ByteArray) (k:Nat) (w:World) (ht:t.size=18) :
  Calls Tryd.prog 88 #[.string t,.int .u32 k] w fun e w'=>e=.returned (.tuple #[entV (readN t.data.toList) (readS t.data.toList),.bool (decide (1≤readN t.data.toList∧readN t.data.toList % 2=k∧bodyL (readN t.data.toList) (readS t.data.toList) ++ [165]=t.data.toList))])∧Below w.heap.size w w':=by
 have x4:=idx_str t 4 4 (by omega) rfl
 have s5:=slice_low t 5 5 rfl (by omega)
 have s9:=slice_low t 9 9 rfl (by omega)
 have b4:(t[4]'(by omega)).toNat<256:=UInt8.toNat_lt (t[4]'(by omega))
 obtain ⟨n,HN⟩:∃ n,Hid (numL (t.data.toList.take 4)=n):=⟨_,rfl⟩
 obtain ⟨p,HP⟩:∃ n,Hid (numL ((t.extract 5 t.size).data.toList.take 4)=n):=⟨_,rfl⟩
 obtain ⟨a,HA⟩:∃ n,Hid (numL ((t.extract 9 t.size).data.toList.take 4)=n):=⟨_,rfl⟩
 have hn:n<4294967296:=by rw [← HN.out]; exact numL_lt4 _
 have hp:p<4294967296:=by rw [← HP.out]; exact numL_lt4 _
 have ha:a<4294967296:=by rw [← HA.out]; exact numL_lt4 _
 have Z5:Hid (4≤(t.extract 5 t.size).size):=by unfold Hid; rw [size_list,ext_list]; simp; omega
 have Z9:Hid (4≤(t.extract 9 t.size).size):=by unfold Hid; rw [size_list,ext_list]; simp; omega
 have Z0:Hid (4≤t.size):=by unfold Hid; omega
 have HS:Hid (readS t.data.toList=⟨(t[4]'(by omega)).toNat,p,a⟩):=by
  unfold Hid readS
  have e5:(t.extract 5 t.size).data.toList=t.data.toList.drop 5:=by rw [ext_list]; apply List.take_of_length_le; simp
  have e9:(t.extract 9 t.size).data.toList=t.data.toList.drop 9:=by rw [ext_list]; apply List.take_of_length_le; simp
  rw [← HP.out,← HA.out,e5,e9]
  congr 1
  rw [getB,List.drop_eq_getElem_cons (by rw [size_list] at ht; omega)]
  simp [numL]
 have HR:Hid (readN t.data.toList=n):=HN
 generalize t.extract 5 t.size=u5 at s5 HP Z5
 generalize t.extract 9 t.size=u9 at s9 HA Z9
 generalize (t[4]'(by omega)).toNat=ph at x4 b4 HS
 rw [HR.out,HS.out]
 unfold entV
 obtain ⟨q,HQ⟩:∃ q:Bool,Hid (q=decide (1≤n∧n % 2=k∧bodyL n ⟨ph,p,a⟩ ++ [165]=t.data.toList)):=⟨_,hid (Eq.refl _)⟩
 rw [← HQ.out]
 have hw1:IntKind.i64.wrap (ph:Int)=ph:=by rw [IntKind.wrap_i64]; omega
 have hw2:IntKind.i64.wrap (p:Int)=p:=by rw [IntKind.wrap_i64]; omega
 have hw3:IntKind.i64.wrap (a:Int)=a:=by rw [IntKind.wrap_i64]; omega
 go_enter Tryd.func88,Tryd.ntmps88
 go_wp2_with fail
 go_cut [6] from 7 (fun s6 wx=>s6=.pointer (some ⟨w.heap.size+1,0,none⟩)∧Rows2 w wx (.cells #[.int .i64 0,.int .i64 0,.int .i64 0,.int .u32 0] 113 (0,0)) (.cells #[.int .i64 (ph:Int),.int .i64 (p:Int),.int .i64 (a:Int),.int .u32 (n:Int)] 113 (0,0)))
 case first =>
  go_region_held3 (fun _=>True) (trivial) (first|(go_at_call 105; (with_reducible refine (four_is u5 p _ Z5.out HP.out).mono ?_); rintro e wx ⟨rfl,m,rfl⟩)|(go_at_call 105; (with_reducible refine (four_is u9 a _ Z9.out HA.out).mono ?_); rintro e wx ⟨rfl,m,rfl⟩)|(go_at_call 105; (with_reducible refine (four_is t n _ Z0.out HN.out).mono ?_); rintro e wx ⟨rfl,m,rfl⟩))
  all_goals go_step
  all_goals go_step
  all_goals go_meet
  all_goals refine ⟨rfl,?_⟩
  all_goals first|(with_reducible exact rows2_a _ _ _ _)|(with_reducible exact rows2_b _ _ _ _ _ _ _ _ _ _ _ _ _)|(with_reducible exact rows2_c _ _ _ _ _ _ _ _ _ _ _ _)
 case rest =>
  obtain ⟨rfl,r0,r1,hb⟩:=hcut
  have HB:=hid hb
  have R0:=hid r0
  have R1:=hid r1
  clear hb r0 r1
  have hsz:w.heap.size+1<wc.heap.size:=row_ltJ R1.out
  have hs0:w.heap.size<wc.heap.size:=by omega
  have E0:wc.cell? ⟨w.heap.size+1,0,none⟩=some (.int .i64 ph):=by rw [cell_of_row _ _ _ _ _ _ R1.out]; rfl
  have E1:wc.cell? ⟨w.heap.size+1,1,none⟩=some (.int .i64 p):=by rw [cell_of_row _ _ _ _ _ _ R1.out]; rfl
  have E2:wc.cell? ⟨w.heap.size+1,2,none⟩=some (.int .i64 a):=by rw [cell_of_row _ _ _ _ _ _ R1.out]; rfl
  have E3:wc.cell? ⟨w.heap.size+1,3,none⟩=some (.int .u32 n):=by rw [cell_of_row _ _ _ _ _ _ R1.out]; rfl
  have D0:wc.cell? ⟨w.heap.size,0,none⟩=some (.int .i64 0):=by rw [cell_of_row _ _ _ _ _ _ R0.out]; rfl
  have D1:wc.cell? ⟨w.heap.size,1,none⟩=some (.int .i64 0):=by rw [cell_of_row _ _ _ _ _ _ R0.out]; rfl
  have D2:wc.cell? ⟨w.heap.size,2,none⟩=some (.int .i64 0):=by rw [cell_of_row _ _ _ _ _ _ R0.out]; rfl
  have D3:wc.cell? ⟨w.heap.size,3,none⟩=some (.int .u32 0):=by rw [cell_of_row _ _ _ _ _ _ R0.out]; rfl
  have F0:=frozen_of_row wc w.heap.size 0 _ _ R0.out
  have F1:=frozen_of_row wc w.heap.size 1 _ _ R0.out
  have F2:=frozen_of_row wc w.heap.size 2 _ _ R0.out
  have F3:=frozen_of_row wc w.heap.size 3 _ _ R0.out
  by_cases g0:0<n
  ·have tm:(n:Int).tmod 2=((n % 2:Nat):Int):=by rw [Int.tmod_eq_emod_of_nonneg (by omega)]; omega
   rcases g1:((n:Int).tmod 2 == (k:Int)) with _|_
   ·have g4:¬ n % 2=k:=by rw [tm] at g1; simp at g1; omega
    have g5:(n % 2 == k)=false:=by simpa using g4
    have g6:decide (n % 2=k)=false:=by simpa using g4
    have g7:((n:Int) % 2 == (k:Int))=false:=by simp; omega
    have g8:decide ((n:Int) % 2=(k:Int))=false:=by simp; omega
    clear tm
    have HF:Hid (q=false):=by rw [HQ.out]; exact decide_eq_false (fun h=>g4 h.2.1)
    go_wp2_with fail
    go_big_region
    go_wp2
    refine bodyPost_ret (results_row2 rfl _ _ w.heap.size 113 _ (0,0) _ rfl (set4 R0.out _ _ _ _) Tryd.underlying113 rfl sizeEnt) rfl ?_
    exact ⟨by rw [HF.out]; rfl,((((HB.out.setCell (Nat.le_refl _) _).setCell (Nat.le_refl _) _).setCell (Nat.le_refl _) _).setCell (Nat.le_refl _) _).drew⟩
   ·have g4:n % 2=k:=by rw [tm] at g1; simp at g1; omega
    have g7:((n:Int) % 2 == (k:Int))=true:=by simp; omega
    obtain ⟨eqb,HEQ⟩:∃ eqb:Bool,Hid (((bA (bodyL n ⟨ph,p,a⟩ ++ [165])).toList == t.toList)=eqb):=⟨_,hid (Eq.refl _)⟩
    have HF:Hid (q=eqb):=by
     unfold Hid
     rw [HQ.out,← HEQ.out,ByteArray.toList_eq,ByteArray.toList_eq,bA_list]
     by_cases hxy:bodyL n ⟨ph,p,a⟩ ++ [165]=t.data.toList
     ·rw [decide_eq_true ⟨g0,g4,hxy⟩,hxy]; simp
     ·rw [decide_eq_false (fun h=>hxy h.2.2)]; exact (beq_eq_false_iff_ne.2 hxy).symm
    have heq:=HEQ.out
    clear tm
    go_wp2_with fail
    go_region_held3 (fun w'=>w'.cell? ⟨w.heap.size+1,0,none⟩=some (.int .i64 ph)∧w'.cell? ⟨w.heap.size+1,1,none⟩=some (.int .i64 p)∧w'.cell? ⟨w.heap.size+1,2,none⟩=some (.int .i64 a)∧w'.cell? ⟨w.heap.size+1,3,none⟩=some (.int .u32 n)) (go_keep) (first|(go_at_call 69; (with_reducible refine (slot_ag n ph p a _ hn b4 hp ha).mono ?_); rintro e w2 ⟨rfl,hb2⟩; have y0:=(hb2.cell (p:=⟨w.heap.size+1,0,none⟩) hsz).trans E0; have y1:=(hb2.cell (p:=⟨w.heap.size+1,1,none⟩) hsz).trans E1; have y2:=(hb2.cell (p:=⟨w.heap.size+1,2,none⟩) hsz).trans E2; have y3:=(hb2.cell (p:=⟨w.heap.size+1,3,none⟩) hsz).trans E3; have z0:=(hb2.cell (p:=⟨w.heap.size,0,none⟩) hs0).trans D0; have z1:=(hb2.cell (p:=⟨w.heap.size,1,none⟩) hs0).trans D1; have z2:=(hb2.cell (p:=⟨w.heap.size,2,none⟩) hs0).trans D2; have z3:=(hb2.cell (p:=⟨w.heap.size,3,none⟩) hs0).trans D3; have f0:=(hb2.frozen (p:=⟨w.heap.size,0,none⟩) hs0).trans F0; have f1:=(hb2.frozen (p:=⟨w.heap.size,1,none⟩) hs0).trans F1; have f2:=(hb2.frozen (p:=⟨w.heap.size,2,none⟩) hs0).trans F2; have f3:=(hb2.frozen (p:=⟨w.heap.size,3,none⟩) hs0).trans F3; have HB2:=hid hb2; clear hb2))
    have R2:=hid ((HB2.out.block w.heap.size hs0).trans R0.out)
    have HB3:=hid (HB.out.drew.trans ((HB2.out).mono (show w.heap.size≤wc.heap.size by omega)))
    go_wp2
    refine bodyPost_ret (results_row2 rfl _ _ w.heap.size 113 _ (0,0) _ rfl (set4 R2.out _ _ _ _) Tryd.underlying113 rfl sizeEnt) rfl ?_
    exact ⟨by rw [HF.out]; rfl,((((HB3.out.setCell (Nat.le_refl _) _).setCell (Nat.le_refl _) _).setCell (Nat.le_refl _) _).setCell (Nat.le_refl _) _)⟩
  ·have HF:Hid (q=false):=by rw [HQ.out]; exact decide_eq_false (fun h=>g0 h.1)
   go_wp2_with fail
   go_big_region
   go_wp2
   refine bodyPost_ret (results_row2 rfl _ _ w.heap.size 113 _ (0,0) _ rfl (set4 R0.out _ _ _ _) Tryd.underlying113 rfl sizeEnt) rfl ?_
   exact ⟨by rw [HF.out]; rfl,((((HB.out.setCell (Nat.le_refl _) _).setCell (Nat.le_refl _) _).setCell (Nat.le_refl _) _).setCell (Nat.le_refl _) _).drew⟩
end Go.Proofs.YtkopfpaldmapdaaDoor
