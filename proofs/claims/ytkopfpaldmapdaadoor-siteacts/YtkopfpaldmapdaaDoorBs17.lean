/-
  On the way to SActsProof: RC RD.
-/
import Derived.Test.YtkopfpaldmapdaaDoorBs11
import Derived.Test.YtkopfpaldmapdaaDoorBs13
set_option maxHeartbeats 8000000
set_option maxRecDepth 100000
namespace Go.Proofs.YtkopfpaldmapdaaDoor
open Go.RowKit
def endAt:Nat→Nat
 | 0=>0
 | 1=>4
 | 2=>5
 | 3=>9
 | _=>13
theorem endAt_le (i:Nat):endAt i≤endAt (i+1)∧endAt (i+1)≤13:=by
 match i with
 | 0=>decide
 | 1=>decide
 | 2=>decide
 | 3=>decide
 | _+4=>exact ⟨Nat.le_refl _,Nat.le_refl _⟩
def valAt (t:List UInt8) (i:Nat):Nat:=numL ((t.drop (endAt i)).take (endAt (i+1) - endAt i))
theorem four_i {i:Nat} (h:i<4):i=0 ∨ i=1 ∨ i=2 ∨ i=3:=by omega
theorem endsCell {w:World} {b:Nat} (h:w.heap[b]? = some (.cells #[.int .i64 4,.int .i64 5,.int .i64 9,.int .i64 13] 3 (0,0))) {i:Nat} (hi:i<4):w.cell? ⟨b,i,none⟩=some (.int .i64 (endAt (i+1):Nat)):=by
 rw [cell_of_row _ _ _ _ _ _ h]
 rcases four_i hi with rfl|rfl|rfl|rfl <;> rfl
theorem num_step (t:List UInt8) (o a:Nat) (h:o+a<t.length):numL ((t.drop o).take (a+1))=256 * numL ((t.drop o).take a)+(t[o+a]'h).toNat:=by
 rw [List.take_add_one,List.getElem?_drop,List.getElem?_eq_getElem h]
 exact numL_snoc _ _
theorem num_lt (t:List UInt8) (o a:Nat) (h:a≤4):numL ((t.drop o).take a)<4294967296:=by
 have h1:=numL_lt ((t.drop o).take a)
 have h2:256 ^ ((t.drop o).take a).length≤256 ^ 4:=Nat.pow_le_pow_right (by decide) (by simp; omega)
 have h3:(256:Nat) ^ 4=4294967296:=by decide
 omega
theorem endAt_4 (i:Nat) (h:i<4):endAt (i+1) - endAt i≤4:=by
 rcases four_i h with rfl|rfl|rfl|rfl <;> decide
theorem valAt_eq (t:List UInt8):valAt t 0=readN t∧valAt t 1=(readS t).ph∧valAt t 2=(readS t).pr∧valAt t 3=(readS t).at_:=⟨rfl,rfl,rfl,rfl⟩
def valsTo (t:List UInt8) (i:Nat):List Value:=(List.range i).map fun k=>.int .i64 (valAt t k:Nat)
theorem valsTo_succ (t:List UInt8) (i:Nat):valsTo t (i+1)=valsTo t i ++ [.int .i64 (valAt t i:Nat)]:=by simp [valsTo,List.range_succ]
theorem Tryd.infoI:(Tryd.prog.info? 3).map (fun i=>(i.zero,i.size,i.bytes))=some (some (.int .i64 0),1,8):=by kernel_rfl
theorem results_row3 {P:Program} {fn:Func} {p u:Tmp} {ty:TypeId} (h:fn.results=#[.tmp u,.cell p ty]) (tmps:Array Value) (w:World) (g:Nat) (t:TypeId) (cs:Array Value) (fr:Nat×Nat) (d:TypeDesc)
  (hp:tmps.getD p undef=.pointer (some ⟨g,0,none⟩)) (hg:w.heap[g]? = some (.cells cs t fr))
  (hu:P.underlying ty=some d) (hd:(match d with|.struct _|.array _ _=>true|_=>false)=true) (hi:(P.info? ty).map (·.size)=some cs.size) :
  (results fn tmps).run P w=.ok (.tuple #[tmps.getD u undef,.agg cs]) w:=by
 have hp':tmps[p]?.getD undef=.pointer (some ⟨g,0,none⟩):=by simpa using hp
 simp [results,h,hp',asAddr,run_loadVar_row w g t ty cs fr d hg hu hd hi]
theorem sizeStR:(Tryd.prog.info? 34).map (·.size)=some 3:=by kernel_rfl
theorem set3R {w:World} {g:Nat} {a b c:Value} {t:TypeId} (h:w.heap[g]? = some (.cells #[a,b,c] t (0,0))) (x0 x1 x2:Value) :
  (((w.setCell ⟨g,0,none⟩ x0).setCell ⟨g,1,none⟩ x1).setCell ⟨g,2,none⟩ x2).heap[g]? = some (.cells #[x0,x1,x2] t (0,0)):=by
 have h0:=heap_setCell_same w g 0 _ _ x0 h
 have h1:=heap_setCell_same _ g 1 _ _ x1 h0
 exact heap_setCell_same _ g 2 _ _ x2 h1
theorem body_is (n h1 h2 h3:Nat) (s:ByteArray) (w:World) (hn:n<4294967296) (b1:h1<256) (b2:h2<4294967296) (b3:h3<4294967296) (hs:bA (bodyL n ⟨h1,h2,h3⟩)=s) :
  Calls Tryd.prog 76 #[.int .i64 (n:Int),.agg #[.int .i64 (h1:Int),.int .i64 (h2:Int),.int .i64 (h3:Int)]] w fun e w'=>e=.returned (.string s)∧Below w.heap.size w w':=by
 rw [← hs]; exact body_any n h1 h2 h3 w hn b1 b2 b3
theorem byte165 (w:World):Calls Tryd.prog 75 #[.int .i64 165] w fun e w'=>e=.returned (.string (bA [165]))∧Below w.heap.size w w':=byte_any 165 w (by omega)
theorem rheld_any (B:ByteArray) (k:Nat) (w:World) (hB:B.size≤1000) (hk:18 * (k+1)≤B.size) :
  Calls Tryd.prog 100 #[.string B,.int .i64 (k:Int)] w fun e w'=>e=.returned (.tuple #[.int .i64 ((heldL k (slotL B.data.toList k)).1:Nat),.agg #[.int .i64 ((heldL k (slotL B.data.toList k)).2.ph:Nat),.int .i64 ((heldL k (slotL B.data.toList k)).2.pr:Nat),.int .i64 ((heldL k (slotL B.data.toList k)).2.at_:Nat)]])∧Below w.heap.size w w':=by
 obtain ⟨i0,hi,hz0,hz1,hz2⟩:=info_parts Tryd.infoI
 have hsl:=slice_mid B (k * 18) ((k+1) * 18) ((k:Int) * 18) (((k:Int)+1) * 18) (by omega) (by omega) (by omega) (by omega)
 obtain ⟨tt,Htt⟩:∃ t,Hid (B.extract (k * 18) ((k+1) * 18)=t):=⟨_,rfl⟩
 rw [Htt.out] at hsl
 obtain ⟨t,HTl⟩:∃ l,Hid (slotL B.data.toList k=l):=⟨_,rfl⟩
 have HL:Hid (tt.data.toList=t):=by
  unfold Hid
  rw [← Htt.out,← HTl.out,ext_list]; unfold slotL
  rw [Nat.mul_comm k 18,show (k+1) * 18 - 18 * k=18 by omega]
 have h18:t.length=18:=by rw [← HTl.out]; exact slotL_length (by rw [← size_list]; exact hk)
 have hts:tt.size=18:=by rw [size_list,HL.out]; exact h18
 rw [HTl.out]
 obtain ⟨⟨o1,p1,p2,p3⟩,HOut⟩:∃ x,Hid (heldL k t=x):=⟨_,rfl⟩
 rw [HOut.out]
 obtain ⟨n,HN⟩:∃ n,Hid (readN t=n):=⟨_,rfl⟩
 obtain ⟨⟨r1,r2,r3⟩,HRS⟩:∃ x,Hid (readS t=x):=⟨_,rfl⟩
 have HDef:Hid ((if 1≤n∧n % 2=k % 2∧bodyL n ⟨r1,r2,r3⟩ ++ [165]=t then (n,(⟨r1,r2,r3⟩:St)) else (0,St.zero))=(o1,⟨p1,p2,p3⟩)):=by
  unfold Hid; rw [← HOut.out]; unfold heldL; rw [HN.out,HRS.out]
 have hnl:n<4294967296:=by rw [← HN.out]; exact readN_lt t
 have HFt:Hid ((⟨r1,r2,r3⟩:St).fits):=by rw [← HRS.out]; exact readS_fits t
 obtain ⟨X0,HX0⟩:∃ X,Hid (w.alloc (.cells #[.int .i64 0,.int .i64 0,.int .i64 0] 34)=X):=⟨_,rfl⟩
 have hX0:=HX0.out
 obtain ⟨X,HX⟩:∃ X,Hid (X0.alloc (.cells #[.int .i64 4,.int .i64 5,.int .i64 9,.int .i64 13] 3)=X):=⟨_,rfl⟩
 have hX:=HX.out
 obtain ⟨eb,Heb⟩:∃ n,Hid (X0.heap.size=n):=⟨_,rfl⟩
 have heb:=Heb.out
 have he1:eb=w.heap.size+1:=by rw [← Heb.out,← HX0.out]; simp
 have RE:Hid (X.heap[eb]? = some (.cells #[.int .i64 4,.int .i64 5,.int .i64 9,.int .i64 13] 3 (0,0))):=by rw [← HX.out,← Heb.out]; exact heap_alloc_new X0 _
 have RR:Hid (X.heap[w.heap.size]? = some (.cells #[.int .i64 0,.int .i64 0,.int .i64 0] 34 (0,0))):=by rw [← HX.out,Below.heap_alloc _ _ _ (by omega),← HX0.out]; exact heap_alloc_new w _
 have HBX:Hid (Below w.heap.size w X):=by rw [← HX.out,← HX0.out]; exact ((Below.refl _ _).alloc (Nat.le_refl _) _).alloc (by simp) _
 have hXs:X.heap.size=eb+1:=by rw [← HX.out]; simp [Heb.out]
 subst he1
 go_enter Tryd.func100,Tryd.ntmps100
 go_wp2_with fail
 go_loopw [7,9,10] (fun v a i wr=>∃ m:Nat,m≤4∧i=.int .i64 (m:Int)∧a=.int .i64 (endAt m:Nat)∧wr.ownsRow (w.heap.size+1+1) 3 1 v m (valsTo t m)∧Below (w.heap.size+1+1) X wr) (fun _ _ i _=>4 - (intOf i).toNat)
 case atStart=>exact ⟨0,by omega,rfl,rfl,World.ownsRow_nil _ _ _ _,Below.refl _ _⟩
 case round =>
  obtain ⟨m,hm,rfl,rfl,hown,hbl⟩:=hrel
  have HO:=hid hown
  have HB:=hid hbl
  have REr:=hid ((hbl.block (w.heap.size+1) (by omega)).trans RE.out)
  have hsz:w.heap.size+1+1≤wr.heap.size:=by have:=hbl.size; omega
  clear hown hbl
  by_cases hlt:m<4
  ·have hce:=endsCell REr.out hlt
   obtain ⟨hl1,hl2⟩:=endAt_le m
   have h4:=endAt_4 m hlt
   have HV:Hid (valAt t m=numL ((t.drop (endAt m)).take (endAt (m+1) - endAt m))):=rfl
   obtain ⟨z,Hz⟩:∃ z,Hid (endAt (m+1)=z):=⟨_,rfl⟩
   rw [Hz.out] at hce hl1 hl2 h4 HV
   obtain ⟨y,Hy⟩:∃ y,Hid (endAt m=y):=⟨_,rfl⟩
   rw [Hy.out] at hl1 h4 HV ⊢
   go_wp2_with fail
   go_loop [9,11] (fun a n=>∃ c:Nat,y≤c∧c≤z∧a=.int .i64 (c:Int)∧n=.int .i64 (numL ((t.drop y).take (c - y)):Nat)) (fun a _=>z - (intOf a).toNat)
   case atStart=>exact ⟨y,Nat.le_refl _,hl1,rfl,by rw [Nat.sub_self]; rfl⟩
   case round =>
    obtain ⟨c,hc1,hc2,rfl,rfl⟩:=hrel
    have hnl:=num_lt t y (c - y) (by omega)
    by_cases hcz:c<z
    ·have hct:c<tt.size:=by omega
     have ix:=idx_str tt c (c:Int) hct rfl
     have hbx:=UInt8.toNat_lt (tt[c]'hct)
     have HSt:Hid (numL ((t.drop y).take (c+1 - y))=256 * numL ((t.drop y).take (c - y))+(tt[c]'hct).toNat):=by
      unfold Hid
      have e:=num_step t y (c - y) (by omega)
      rw [show c - y+1=c+1 - y by omega] at e
      rw [e,getB hct]
      congr 2
      simp only [HL.out,show y+(c - y)=c by omega]
     generalize (tt[c]'hct).toNat=x at ix hbx HSt
     generalize numL ((t.drop y).take (c - y))=n at hnl HSt ⊢
     go_wp2_with fail
     go_round
     case rel=>exact ⟨c+1,by omega,by omega,by go_num,val_int (by rw [HSt.out]; omega)⟩
     case measure=>simp [intOf]; omega
    ·obtain rfl:c=z:=by omega
     rw [← HV.out] at hnl ⊢
     have HVS:=hid (valsTo_succ t m)
     generalize valAt t m=va at hnl HVS ⊢
     go_wp2_with (at_builtin; refine wpList_append_own _ rfl (.tmp 40) (.tmp 42) 47 rfl (w.heap.size+1+1) 3 i0 (.int .i64 0) 1 8 Tryd.underlying47 hi hz0 hz1 hz2 rfl (by decide) _ m (valsTo t m) rfl (by exact World.ownsRow.alloc HO.out _) ⟨wr.heap.size,0,none⟩ 1 1 [.int .i64 (va:Int)] rfl rfl (lit_cells _ _ _) ?c2 ?c3 ?c4 ?c5 ?_)
     case c2=>first|rfl|(intro u hu; simp at hu; subst hu; rfl)
     case c3=>unfold maxLen; omega
     case c4=>omega
     case c5=>first|omega|(simp; omega)
     intro v' w1 hown hg _
     have HO1:Hid (w1.ownsRow (w.heap.size+1+1) 3 1 v' (m+1) (valsTo t (m+1))):=by unfold Hid; rw [HVS.out]; exact hown
     have HB1:=hid (own_below HB.out hsz ((Below.refl _ _).alloc (Nat.le_refl _) _) HO.out hg)
     clear hown hg
     go_wp2_with fail
     go_roundw
     case rel=>exact ⟨m+1,by omega,by go_num,val_int (by rw [Hz.out]),HO1.out,HB1.out⟩
     case measure=>simp [intOf]; omega
  ·obtain rfl:m=4:=by omega
   have hown:=HO.out
   rcases hown.2 with ⟨_,h0⟩|⟨g,cap,cur,rfl,hg,hh,hle,hmx,hcs,htk⟩
   ·omega
   have HC:Hid (∀ i (h:i<4),wr.cell? ⟨g,i,none⟩=some (.int .i64 (valAt t i:Nat))):=fun i h=>by
    have:=HO.out.cellAt i (by omega)
    rw [this]
    rcases four_i h with rfl|rfl|rfl|rfl <;> rfl
   have q0:=HC.out 0 (by omega)
   have q1:=HC.out 1 (by omega)
   have q2:=HC.out 2 (by omega)
   have q3:=HC.out 3 (by omega)
   obtain ⟨e0,e1,e2,e3⟩:=valAt_eq t
   rw [e0,HN.out] at q0
   rw [e1,HRS.out] at q1
   rw [e2,HRS.out] at q2
   rw [e3,HRS.out] at q3
   clear e0 e1 e2 e3
   have RRr:=hid ((HB.out.block w.heap.size (by omega)).trans RR.out)
   have HBw:=hid (HBX.out.trans (HB.out.mono (by omega)))
   have hgl:=row_ltJ hh
   have RG:=hid hh
   clear hown hh htk
   go_wp2_with fail
   go_region
   all_goals go_wp2_with fail
   obtain ⟨sb,Hsb⟩:∃ n,Hid (wr.heap.size=n):=⟨_,rfl⟩
   obtain ⟨Z,HZ⟩:∃ Z,Hid ((wr.alloc (.cells #[.int .i64 (r1:Int),.int .i64 (r2:Int),.int .i64 (r3:Int)] 34)).drew=Z):=⟨_,rfl⟩
   have SZ:Hid (Z.heap[sb]? = some (.cells #[.int .i64 (r1:Int),.int .i64 (r2:Int),.int .i64 (r3:Int)] 34 (0,0))):=by rw [← HZ.out,← Hsb.out]; exact heap_alloc_new wr _
   have RZ:Hid (Z.heap[w.heap.size]? = some (.cells #[.int .i64 0,.int .i64 0,.int .i64 0] 34 (0,0))):=by rw [← HZ.out]; exact (Below.heap_alloc wr _ _ (by omega)).trans RRr.out
   have GZ:=fun i=>(show Z.cell? ⟨g,i,none⟩=wr.cell? ⟨g,i,none⟩ by rw [← HZ.out]; exact World.cell?_of_block (w:=wr) (Below.heap_alloc wr _ g hgl))
   have z0:=(GZ 0).trans q0
   have z1:=(GZ 1).trans q1
   have z2:=(GZ 2).trans q2
   have z3:=(GZ 3).trans q3
   have HBZ:Hid (Below w.heap.size w Z):=by rw [← HZ.out]; exact (HBw.out.alloc HBw.out.size _).drew
   have hzs:wr.heap.size<Z.heap.size:=by rw [Hsb.out]; exact row_ltJ SZ.out
   rw [Hsb.out,HZ.out]
   clear q0 q1 q2 q3 GZ
   obtain ⟨hb,Hhb⟩:∃ b:Bool,Hid (decide (1≤n∧n % 2=k % 2∧bodyL n ⟨r1,r2,r3⟩ ++ [165]=t)=b):=⟨_,hid (Eq.refl _)⟩
   have c0:Z.cell? ⟨sb,0,none⟩=some (.int .i64 (r1:Int)):=by rw [cell_of_row _ _ _ _ _ _ SZ.out]; rfl
   have c1:Z.cell? ⟨sb,1,none⟩=some (.int .i64 (r2:Int)):=by rw [cell_of_row _ _ _ _ _ _ SZ.out]; rfl
   have c2:Z.cell? ⟨sb,2,none⟩=some (.int .i64 (r3:Int)):=by rw [cell_of_row _ _ _ _ _ _ SZ.out]; rfl
   have KP:Hid (∀ wx,Below Z.heap.size Z wx→wx.heap[w.heap.size]? = some (.cells #[.int .i64 0,.int .i64 0,.int .i64 0] 34 (0,0))∧wx.heap[sb]? = some (.cells #[.int .i64 (r1:Int),.int .i64 (r2:Int),.int .i64 (r3:Int)] 34 (0,0))∧wx.cell? ⟨g,0,none⟩=some (.int .i64 (n:Int))∧Below w.heap.size w wx):=fun wx hx =>
    ⟨(hx.block _ (row_ltJ RZ.out)).trans RZ.out,(hx.block _ (row_ltJ SZ.out)).trans SZ.out,(hx.cell (p:=⟨g,0,none⟩) (by show g<_; omega)).trans z0,HBZ.out.trans (hx.mono HBZ.out.size)⟩
   have tn:(n:Int).tmod 2=((n % 2:Nat):Int):=by rw [Int.tmod_eq_emod_of_nonneg (by omega)]; omega
   have tk:(k:Int).tmod 2=((k % 2:Nat):Int):=by rw [Int.tmod_eq_emod_of_nonneg (by omega)]; omega
   go_cut [77] from 13 (fun s77 wx=>s77=.bool (!hb)∧wx.heap[w.heap.size]? = some (.cells #[.int .i64 0,.int .i64 0,.int .i64 0] 34 (0,0))∧wx.heap[sb]? = some (.cells #[.int .i64 (r1:Int),.int .i64 (r2:Int),.int .i64 (r3:Int)] 34 (0,0))∧wx.cell? ⟨g,0,none⟩=some (.int .i64 (n:Int))∧Below w.heap.size w wx)
   case first =>
    by_cases g0:n<1
    ·obtain rfl:n=0:=by omega
     have HF:Hid (hb=false):=by rw [← Hhb.out]; exact decide_eq_false (fun h=>by omega)
     have KZ:=hid (fun nq=>KP.out (Z.drewN nq) (below_drewN (Below.refl _ _) nq))
     clear tn tk
     go_quiet (fail)
     all_goals go_step
     all_goals go_step
     all_goals go_meet
     all_goals exact ⟨by rw [HF.out]; rfl,KZ.out _⟩
    ·have y0:decide ((n:Int)<1)=false:=decide_eq_false (by omega)
     by_cases g1:n % 2=k % 2
     ·have y1:((n:Int).tmod 2 != (k:Int).tmod 2)=false:=by rw [tn,tk,g1]; simp
      have y2:((n:Int) % 2 != (k:Int) % 2)=false:=by simp; omega
      obtain ⟨bs,Hbs⟩:∃ s,Hid (bA (bodyL n ⟨r1,r2,r3⟩)=s):=⟨_,rfl⟩
      have zb1:bs.size=17:=by rw [← Hbs.out,bA_size,bodyL_length]
      have zb2:(bA [165]).size=1:=bA_size _
      obtain ⟨b1,b2,b3⟩:=HFt.out
      have B1:=hid b1
      have B2:=hid b2
      have B3:=hid b3
      have heq:(!((bs ++ bA [165]).toList == tt.toList))=!hb:=by
       rw [← Hhb.out,← Hbs.out,bA_append,ByteArray.toList_eq,ByteArray.toList_eq,bA_list,HL.out]
       by_cases hx:bodyL n ⟨r1,r2,r3⟩ ++ [165]=t
       ·rw [decide_eq_true ⟨by omega,g1,hx⟩,hx]; simp
       ·rw [decide_eq_false (fun h=>hx h.2.2),beq_eq_false_iff_ne.2 hx]
      have HD0:Hid (Below Z.heap.size Z Z.drew):=(Below.refl _ _).drew
      clear b1 b2 b3 tn tk
      go_region_held3 (fun w'=>w'.cell? ⟨g,0,none⟩=some (.int .i64 (n:Int))∧w'.cell? ⟨sb,0,none⟩=some (.int .i64 (r1:Int))∧w'.cell? ⟨sb,1,none⟩=some (.int .i64 (r2:Int))∧w'.cell? ⟨sb,2,none⟩=some (.int .i64 (r3:Int))) (go_keep) (first|(go_at_call 76; (with_reducible refine (body_is n r1 r2 r3 bs _ hnl B1.out B2.out B3.out Hbs.out).mono ?_); rintro e wn ⟨rfl,hbn⟩; have HBn:=below_step (by assumption) hbn; obtain ⟨x0,x1,x2,-⟩:=KP.out _ HBn.out; have d0:wn.cell? ⟨sb,0,none⟩=some (.int .i64 (r1:Int)):=(cell_of_row _ _ _ _ _ _ x1).trans rfl; have d1:wn.cell? ⟨sb,1,none⟩=some (.int .i64 (r2:Int)):=(cell_of_row _ _ _ _ _ _ x1).trans rfl; have d2:wn.cell? ⟨sb,2,none⟩=some (.int .i64 (r3:Int)):=(cell_of_row _ _ _ _ _ _ x1).trans rfl; clear hbn x0 x1)|(go_at_call 75; (with_reducible refine (byte165 _).mono ?_); rintro e wn ⟨rfl,hbn⟩; have HBn:=below_step (by assumption) hbn; obtain ⟨x0,x1,x2,-⟩:=KP.out _ HBn.out; have d0:wn.cell? ⟨sb,0,none⟩=some (.int .i64 (r1:Int)):=(cell_of_row _ _ _ _ _ _ x1).trans rfl; have d1:wn.cell? ⟨sb,1,none⟩=some (.int .i64 (r2:Int)):=(cell_of_row _ _ _ _ _ _ x1).trans rfl; have d2:wn.cell? ⟨sb,2,none⟩=some (.int .i64 (r3:Int)):=(cell_of_row _ _ _ _ _ _ x1).trans rfl; clear hbn x0 x1))
      all_goals go_step
      all_goals go_step
      all_goals go_meet
      all_goals exact ⟨by first|rfl|exact congrArg Value.bool heq,KP.out _ (Hid.out (by assumption))⟩
     ·have y1:((n:Int).tmod 2 != (k:Int).tmod 2)=true:=by rw [tn,tk]; simp; omega
      have y2:((n:Int) % 2 != (k:Int) % 2)=true:=by simp; omega
      have HF:Hid (hb=false):=by rw [← Hhb.out]; exact decide_eq_false (fun h=>g1 h.2.1)
      have KZ:=hid (fun nq=>KP.out (Z.drewN nq) (below_drewN (Below.refl _ _) nq))
      clear tn tk
      go_quiet (fail)
      all_goals go_step
      all_goals go_step
      all_goals go_meet
      all_goals exact ⟨by rw [HF.out]; rfl,KZ.out _⟩
   case rest =>
    obtain ⟨rfl,rz,rs,rg,rb⟩:=hcut
    have RZ2:=hid rz
    have RB2:=hid rb
    have v0:wc.cell? ⟨w.heap.size,0,none⟩=some (.int .i64 0):=by rw [cell_of_row _ _ _ _ _ _ rz]; rfl
    have v1:wc.cell? ⟨w.heap.size,1,none⟩=some (.int .i64 0):=by rw [cell_of_row _ _ _ _ _ _ rz]; rfl
    have v2:wc.cell? ⟨w.heap.size,2,none⟩=some (.int .i64 0):=by rw [cell_of_row _ _ _ _ _ _ rz]; rfl
    have f0:=frozen_of_row wc w.heap.size 0 _ _ rz
    have f1:=frozen_of_row wc w.heap.size 1 _ _ rz
    have f2:=frozen_of_row wc w.heap.size 2 _ _ rz
    have s0:wc.cell? ⟨sb,0,none⟩=some (.int .i64 (r1:Int)):=by rw [cell_of_row _ _ _ _ _ _ rs]; rfl
    have s1:wc.cell? ⟨sb,1,none⟩=some (.int .i64 (r2:Int)):=by rw [cell_of_row _ _ _ _ _ _ rs]; rfl
    have s2:wc.cell? ⟨sb,2,none⟩=some (.int .i64 (r3:Int)):=by rw [cell_of_row _ _ _ _ _ _ rs]; rfl
    have hd:=HDef.out
    clear rz rs rb tn tk z0 z1 z2 z3 c0 c1 c2
    cases hb with
    | true =>
     rw [if_pos (of_decide_eq_true Hhb.out)] at hd
     obtain ⟨rfl,rfl,rfl,rfl⟩:n=o1∧r1=p1∧r2=p2∧r3=p3:=by simpa using hd
     clear hd
     go_wp2_with fail
     go_region
     all_goals go_wp2_with fail
     refine bodyPost_ret (results_row3 rfl _ _ w.heap.size 34 _ (0,0) _ rfl (set3R RZ2.out _ _ _) Tryd.underlying34 rfl sizeStR) rfl ?_
     exact ⟨rfl,(((RB2.out.setCell (Nat.le_refl _) _).setCell (Nat.le_refl _) _).setCell (Nat.le_refl _) _).drew⟩
    | false =>
     rw [if_neg (of_decide_eq_false Hhb.out)] at hd
     obtain ⟨rfl,rfl,rfl,rfl⟩:0=o1∧0=p1∧0=p2∧0=p3:=by simpa [St.zero] using hd
     clear hd
     go_wp2_with fail
     refine bodyPost_ret (results_row3 rfl _ _ w.heap.size 34 _ (0,0) _ rfl (set3R RZ2.out _ _ _) Tryd.underlying34 rfl sizeStR) rfl ?_
     exact ⟨rfl,((RB2.out.setCell (Nat.le_refl _) _).setCell (Nat.le_refl _) _).setCell (Nat.le_refl _) _⟩
end Go.Proofs.YtkopfpaldmapdaaDoor
