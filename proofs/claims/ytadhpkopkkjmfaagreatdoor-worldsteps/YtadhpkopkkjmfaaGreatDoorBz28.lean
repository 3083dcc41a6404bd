/-
  On the way to WStepsProof: RC RD RQ.
-/
import Derived.Test.YtadhpkopkkjmfaaGreatDoorBz22
import Derived.Test.YtadhpkopkkjmfaaGreatDoorBz13
import Derived.Deep.RegionLaw
set_option maxHeartbeats 8000000
set_option maxRecDepth 100000
namespace Go.Proofs.YtadhpkopkkjmfaaGreatDoor
open Go.RowKit
def endAt:Nat→Nat
 | 0=>0
 | 1=>4
 | 2=>5
 | 3=>9
 | _=>13
theorem endAt_le (i:Nat):endAt i≤endAt (i+1)∧endAt (i+1)≤13:=by
 match i with
 | 0=>decide
 | 1=>decide
 | 2=>decide
 | 3=>decide
 | _+4=>exact ⟨Nat.le_refl _,Nat.le_refl _⟩
def valAt (t:List UInt8) (i:Nat):Nat:=numL ((t.drop (endAt i)).take (endAt (i+1) - endAt i))
theorem four_i {i:Nat} (h:i<4):i=0 ∨ i=1 ∨ i=2 ∨ i=3:=by omega
theorem endsCell {w:World} {b:Nat} (h:w.heap[b]? = some (.cells #[.int .i64 4,.int .i64 5,.int .i64 9,.int .i64 13] 3 (0,0))) {i:Nat} (hi:i<4):w.cell? ⟨b,i,none⟩=some (.int .i64 (endAt (i+1):Nat)):=by
 rw [cell_of_row _ _ _ _ _ _ h]
 rcases four_i hi with rfl|rfl|rfl|rfl <;> rfl
theorem num_step (t:List UInt8) (o a:Nat) (h:o+a<t.length):numL ((t.drop o).take (a+1))=256 * numL ((t.drop o).take a)+(t[o+a]'h).toNat:=by
 rw [List.take_add_one,List.getElem?_drop,List.getElem?_eq_getElem h]
 exact numL_snoc _ _
theorem num_lt (t:List UInt8) (o a:Nat) (h:a≤4):numL ((t.drop o).take a)<4294967296:=by
 have h1:=numL_lt ((t.drop o).take a)
 have h2:256 ^ ((t.drop o).take a).length≤256 ^ 4:=Nat.pow_le_pow_right (by decide) (by simp; omega)
 have h3:(256:Nat) ^ 4=4294967296:=by decide
 omega
theorem endAt_4 (i:Nat) (h:i<4):endAt (i+1) - endAt i≤4:=by
 rcases four_i h with rfl|rfl|rfl|rfl <;> decide
theorem valAt_eq (t:List UInt8):valAt t 0=readN t∧valAt t 1=(readS t).ph∧valAt t 2=(readS t).pr∧valAt t 3=(readS t).at_:=⟨rfl,rfl,rfl,rfl⟩
def valsTo (t:List UInt8) (i:Nat):List Value:=(List.range i).map fun k=>.int .i64 (valAt t k:Nat)
theorem valsTo_succ (t:List UInt8) (i:Nat):valsTo t (i+1)=valsTo t i ++ [.int .i64 (valAt t i:Nat)]:=by simp [valsTo,List.range_succ]
theorem Tryz.infoI:(Tryz.prog.info? 3).map (fun i=>(i.zero,i.size,i.bytes))=some (some (.int .i64 0),1,8):=by kernel_rfl
theorem results_row3 {P:Program} {fn:Func} {p u:Tmp} {ty:TypeId} (h:fn.results=#[.tmp u,.cell p ty]) (tmps:Array Value) (w:World) (g:Nat) (t:TypeId) (cs:Array Value) (fr:Nat×Nat) (d:TypeDesc)
  (hp:tmps.getD p undef=.pointer (some ⟨g,0,none⟩)) (hg:w.heap[g]? = some (.cells cs t fr))
  (hu:P.underlying ty=some d) (hd:(match d with|.struct _|.array _ _=>true|_=>false)=true) (hi:(P.info? ty).map (·.size)=some cs.size) :
  (results fn tmps).run P w=.ok (.tuple #[tmps.getD u undef,.agg cs]) w:=by
 have hp':tmps[p]?.getD undef=.pointer (some ⟨g,0,none⟩):=by simpa using hp
 simp [results,h,hp',asAddr,run_loadVar_row w g t ty cs fr d hg hu hd hi]
theorem sizeStR:(Tryz.prog.info? 43).map (·.size)=some 3:=by kernel_rfl
theorem set3R {w:World} {g:Nat} {a b c:Value} {t:TypeId} (h:w.heap[g]? = some (.cells #[a,b,c] t (0,0))) (x0 x1 x2:Value) :
  (((w.setCell ⟨g,0,none⟩ x0).setCell ⟨g,1,none⟩ x1).setCell ⟨g,2,none⟩ x2).heap[g]? = some (.cells #[x0,x1,x2] t (0,0)):=by
 have h0:=heap_setCell_same w g 0 _ _ x0 h
 have h1:=heap_setCell_same _ g 1 _ _ x1 h0
 exact heap_setCell_same _ g 2 _ _ x2 h1
theorem body_is (n h1 h2 h3:Nat) (s:ByteArray) (w:World) (hn:n<4294967296) (b1:h1<256) (b2:h2<4294967296) (b3:h3<4294967296) (hs:bA (bodyL n ⟨h1,h2,h3⟩)=s) :
  Calls Tryz.prog 184 #[.int .i64 (n:Int),.agg #[.int .i64 (h1:Int),.int .i64 (h2:Int),.int .i64 (h3:Int)]] w fun e w'=>e=.returned (.string s)∧Below w.heap.size w w':=by
 rw [← hs]; exact body_any n h1 h2 h3 w hn b1 b2 b3
theorem byte165 (w:World):Calls Tryz.prog 185 #[.int .i64 165] w fun e w'=>e=.returned (.string (bA [165]))∧Below w.heap.size w w':=byte_any 165 w (by omega)
theorem rheld_any (B:ByteArray) (k:Nat) (w:World) (hB:B.size≤1000) (hk:18 * (k+1)≤B.size) :
  Calls Tryz.prog 164 #[.string B,.int .i64 (k:Int)] w fun e w'=>e=.returned (.tuple #[.int .i64 ((heldL k (slotL B.data.toList k)).1:Nat),.agg #[.int .i64 ((heldL k (slotL B.data.toList k)).2.ph:Nat),.int .i64 ((heldL k (slotL B.data.toList k)).2.pr:Nat),.int .i64 ((heldL k (slotL B.data.toList k)).2.at_:Nat)]])∧Below w.heap.size w w':=by
 obtain ⟨i0,hi,hz0,hz1,hz2⟩:=info_parts Tryz.infoI
 have hsl:=slice_mid B (k * 18) ((k+1) * 18) ((k:Int) * 18) (((k:Int)+1) * 18) (by omega) (by omega) (by omega) (by omega)
 obtain ⟨tt,Htt⟩:∃ t,Hid (B.extract (k * 18) ((k+1) * 18)=t):=⟨_,rfl⟩
 rw [Htt.out] at hsl
 obtain ⟨t,HTl⟩:∃ l,Hid (slotL B.data.toList k=l):=⟨_,rfl⟩
 have HL:Hid (tt.data.toList=t):=by
  unfold Hid
  rw [← Htt.out,← HTl.out,ext_list]; unfold slotL
  rw [Nat.mul_comm k 18,show (k+1) * 18 - 18 * k=18 by omega]
 have h18:t.length=18:=by rw [← HTl.out]; exact slotL_length (by rw [← size_list]; exact hk)
 have hts:tt.size=18:=by rw [size_list,HL.out]; exact h18
 rw [HTl.out]
 obtain ⟨⟨o1,p1,p2,p3⟩,HOut⟩:∃ x,Hid (heldL k t=x):=⟨_,rfl⟩
 rw [HOut.out]
 obtain ⟨n,HN⟩:∃ n,Hid (readN t=n):=⟨_,rfl⟩
 obtain ⟨⟨r1,r2,r3⟩,HRS⟩:∃ x,Hid (readS t=x):=⟨_,rfl⟩
 have HDef:Hid ((if 1≤n∧n % 2=k % 2∧bodyL n ⟨r1,r2,r3⟩ ++ [165]=t then (n,(⟨r1,r2,r3⟩:St)) else (0,St.zero))=(o1,⟨p1,p2,p3⟩)):=by
  unfold Hid; rw [← HOut.out]; unfold heldL; rw [HN.out,HRS.out]
 have hnl:n<4294967296:=by rw [← HN.out]; exact readN_lt t
 have HFt:Hid ((⟨r1,r2,r3⟩:St).fits):=by rw [← HRS.out]; exact readS_fits t
 obtain ⟨X0,HX0⟩:∃ X,Hid (w.alloc (.cells #[.int .i64 0,.int .i64 0,.int .i64 0] 43)=X):=⟨_,rfl⟩
 have hX0:=HX0.out
 obtain ⟨X,HX⟩:∃ X,Hid (X0.alloc (.cells #[.int .i64 4,.int .i64 5,.int .i64 9,.int .i64 13] 3)=X):=⟨_,rfl⟩
 have hX:=HX.out
 obtain ⟨eb,Heb⟩:∃ n,Hid (X0.heap.size=n):=⟨_,rfl⟩
 have heb:=Heb.out
 have he1:eb=w.heap.size+1:=by rw [← Heb.out,← HX0.out]; simp
 have RE:Hid (X.heap[eb]? = some (.cells #[.int .i64 4,.int .i64 5,.int .i64 9,.int .i64 13] 3 (0,0))):=by rw [← HX.out,← Heb.out]; exact heap_alloc_new X0 _
 have RR:Hid (X.heap[w.heap.size]? = some (.cells #[.int .i64 0,.int .i64 0,.int .i64 0] 43 (0,0))):=by rw [← HX.out,Below.heap_alloc _ _ _ (by omega),← HX0.out]; exact heap_alloc_new w _
 have HBX:Hid (Below w.heap.size w X):=by rw [← HX.out,← HX0.out]; exact ((Below.refl _ _).alloc (Nat.le_refl _) _).alloc (by simp) _
 have hXs:X.heap.size=eb+1:=by rw [← HX.out]; simp [Heb.out]
 subst he1
 go_enter Tryz.func164,Tryz.ntmps164
 go_wp2_with fail
 go_loopw [7,9,10] (fun v a i wr=>∃ m:Nat,m≤4∧i=.int .i64 (m:Int)∧a=.int .i64 (endAt m:Nat)∧wr.ownsRow (w.heap.size+1+1) 3 1 v m (valsTo t m)∧Below (w.heap.size+1+1) X wr) (fun _ _ i _=>4 - (intOf i).toNat)
 case atStart=>exact ⟨0,by omega,rfl,rfl,World.ownsRow_nil _ _ _ _,Below.refl _ _⟩
 case round =>
  obtain ⟨m,hm,rfl,rfl,hown,hbl⟩:=hrel
  have HO:=hid hown
  have HB:=hid hbl
  have REr:=hid ((hbl.block (w.heap.size+1) (by omega)).trans RE.out)
  have hsz:w.heap.size+1+1≤wr.heap.size:=by have:=hbl.size; omega
  clear hown hbl
  by_cases hlt:m<4
  ·have hce:=endsCell REr.out hlt
   obtain ⟨hl1,hl2⟩:=endAt_le m
   have h4:=endAt_4 m hlt
   have HV:Hid (valAt t m=numL ((t.drop (endAt m)).take (endAt (m+1) - endAt m))):=rfl
   obtain ⟨z,Hz⟩:∃ z,Hid (endAt (m+1)=z):=⟨_,rfl⟩
   rw [Hz.out] at hce hl1 hl2 h4 HV
   obtain ⟨y,Hy⟩:∃ y,Hid (endAt m=y):=⟨_,rfl⟩
   rw [Hy.out] at hl1 h4 HV ⊢
   go_wp2_with fail
   go_loop [9,11] (fun a n=>∃ c:Nat,y≤c∧c≤z∧a=.int .i64 (c:Int)∧n=.int .i64 (numL ((t.drop y).take (c - y)):Nat)) (fun a _=>z - (intOf a).toNat)
   case atStart=>exact ⟨y,Nat.le_refl _,hl1,rfl,by rw [Nat.sub_self]; rfl⟩
   case round =>
    obtain ⟨c,hc1,hc2,rfl,rfl⟩:=hrel
    have hnl:=num_lt t y (c - y) (by omega)
    by_cases hcz:c<z
    ·have hct:c<tt.size:=by omega
     have ix:=idx_str tt c (c:Int) hct rfl
     have hbx:=UInt8.toNat_lt (tt[c]'hct)
     have HSt:Hid (numL ((t.drop y).take (c+1 - y))=256 * numL ((t.drop y).take (c - y))+(tt[c]'hct).toNat):=by
      unfold Hid
      have e:=num_step t y (c - y) (by omega)
      rw [show c - y+1=c+1 - y by omega] at e
      rw [e,getB hct]
      congr 2
      simp only [HL.out,show y+(c - y)=c by omega]
     generalize (tt[c]'hct).toNat=x at ix hbx HSt
     generalize numL ((t.drop y).take (c - y))=n at hnl HSt ⊢
     go_wp2_with fail
     go_round
     case rel=>exact ⟨c+1,by omega,by omega,by go_num,val_int (by rw [HSt.out]; omega)⟩
     case measure=>simp [intOf]; omega
    ·obtain rfl:c=z:=by omega
     rw [← HV.out] at hnl ⊢
     have HVS:=hid (valsTo_succ t m)
     generalize valAt t m=va at hnl HVS ⊢
     go_wp2_with (at_builtin; refine wpList_append_own _ rfl (.tmp 40) (.tmp 42) 22 rfl (w.heap.size+1+1) 3 i0 (.int .i64 0) 1 8 Tryz.underlying22 hi hz0 hz1 hz2 rfl (by decide) _ m (valsTo t m) rfl (by exact World.ownsRow.alloc HO.out _) ⟨wr.heap.size,0,none⟩ 1 1 [.int .i64 (va:Int)] rfl rfl (lit_cells _ _ _) ?c2 ?c3 ?c4 ?c5 ?_)
     case c2=>first|rfl|(intro u hu; simp at hu; subst hu; rfl)
     case c3=>unfold maxLen; omega
     case c4=>omega
     case c5=>first|omega|(simp; omega)
     intro v' w1 hown hg _
     have HO1:Hid (w1.ownsRow (w.heap.size+1+1) 3 1 v' (m+1) (valsTo t (m+1))):=by unfold Hid; rw [HVS.out]; exact hown
     have HB1:=hid (own_below HB.out hsz ((Below.refl _ _).alloc (Nat.le_refl _) _) HO.out hg)
     clear hown hg
     go_wp2_with fail
     go_roundw
     case rel=>exact ⟨m+1,by omega,by go_num,val_int (by rw [Hz.out]),HO1.out,HB1.out⟩
     case measure=>simp [intOf]; omega
  ·obtain rfl:m=4:=by omega
   have hown:=HO.out
   rcases hown.2 with ⟨_,h0⟩|⟨g,cap,cur,rfl,hg,hh,hle,hmx,hcs,htk⟩
   ·omega
   have HC:Hid (∀ i (h:i<4),wr.cell? ⟨g,i,none⟩=some (.int .i64 (valAt t i:Nat))):=fun i h=>by
    have:=HO.out.cellAt i (by omega)
    rw [this]
    rcases four_i h with rfl|rfl|rfl|rfl <;> rfl
   have q0:=HC.out 0 (by omega)
   have q1:=HC.out 1 (by omega)
   have q2:=HC.out 2 (by omega)
   have q3:=HC.out 3 (by omega)
   obtain ⟨e0,e1,e2,e3⟩:=valAt_eq t
   rw [e0,HN.out] at q0
   rw [e1,HRS.out] at q1
   rw [e2,HRS.out] at q2
   rw [e3,HRS.out] at q3
   clear e0 e1 e2 e3
   have RRr:=hid ((HB.out.block w.heap.size (by omega)).trans RR.out)
   have HBw:=hid (HBX.out.trans (HB.out.mono (by omega)))
   have hgl:=row_ltJ hh
   have RG:=hid hh
   clear hown hh htk
   go_wp2_with fail
   go_region
   all_goals go_wp2_with fail
   obtain ⟨sb,Hsb⟩:∃ n,Hid (wr.heap.size=n):=⟨_,rfl⟩
   obtain ⟨Z,HZ⟩:∃ Z,Hid ((wr.alloc (.cells #[.int .i64 (r1:Int),.int .i64 (r2:Int),.int .i64 (r3:Int)] 43)).drew=Z):=⟨_,rfl⟩
   have SZ:Hid (Z.heap[sb]? = some (.cells #[.int .i64 (r1:Int),.int .i64 (r2:Int),.int .i64 (r3:Int)] 43 (0,0))):=by rw [← HZ.out,← Hsb.out]; exact heap_alloc_new wr _
   have RZ:Hid (Z.heap[w.heap.size]? = some (.cells #[.int .i64 0,.int .i64 0,.int .i64 0] 43 (0,0))):=by rw [← HZ.out]; exact (Below.heap_alloc wr _ _ (by omega)).trans RRr.out
   have GZ:=fun i=>(show Z.cell? ⟨g,i,none⟩=wr.cell? ⟨g,i,none⟩ by rw [← HZ.out]; exact World.cell?_of_block (w:=wr) (Below.heap_alloc wr _ g hgl))
   have z0:=(GZ 0).trans q0
   have z1:=(GZ 1).trans q1
   have z2:=(GZ 2).trans q2
   have z3:=(GZ 3).trans q3
   have HBZ:Hid (Below w.heap.size w Z):=by rw [← HZ.out]; exact (HBw.out.alloc HBw.out.size _).drew
   have hzs:wr.heap.size<Z.heap.size:=by rw [Hsb.out]; exact row_ltJ SZ.out
   rw [Hsb.out,HZ.out]
   clear q0 q1 q2 q3 GZ
   obtain ⟨hb,Hhb⟩:∃ b:Bool,Hid (decide (1≤n∧n % 2=k % 2∧bodyL n ⟨r1,r2,r3⟩ ++ [165]=t)=b):=⟨_,hid (Eq.refl _)⟩
   have c0:Z.cell? ⟨sb,0,none⟩=some (.int .i64 (r1:Int)):=by rw [cell_of_row _ _ _ _ _ _ SZ.out]; rfl
   have c1:Z.cell? ⟨sb,1,none⟩=some (.int .i64 (r2:Int)):=by rw [cell_of_row _ _ _ _ _ _ SZ.out]; rfl
   have c2:Z.cell? ⟨sb,2,none⟩=some (.int .i64 (r3:Int)):=by rw [cell_of_row _ _ _ _ _ _ SZ.out]; rfl
   have KP:Hid (∀ wx,Below Z.heap.size Z wx→wx.heap[w.heap.size]? = some (.cells #[.int .i64 0,.int .i64 0,.int .i64 0] 43 (0,0))∧wx.heap[sb]? = some (.cells #[.int .i64 (r1:Int),.int .i64 (r2:Int),.int .i64 (r3:Int)] 43 (0,0))∧wx.cell? ⟨g,0,none⟩=some (.int .i64 (n:Int))∧Below w.heap.size w wx):=fun wx hx =>
    ⟨(hx.block _ (row_ltJ RZ.out)).trans RZ.out,(hx.block _ (row_ltJ SZ.out)).trans SZ.out,(hx.cell (p:=⟨g,0,none⟩) (by show g<_; omega)).trans z0,HBZ.out.trans (hx.mono HBZ.out.size)⟩
   have tn:(n:Int).tmod 2=((n % 2:Nat):Int):=by rw [Int.tmod_eq_emod_of_nonneg (by omega)]; omega
   have tk:(k:Int).tmod 2=((k % 2:Nat):Int):=by rw [Int.tmod_eq_emod_of_nonneg (by omega)]; omega
   go_cut [77] from 13 (fun s77 wx=>s77=.bool (!hb)∧wx.heap[w.heap.size]? = some (.cells #[.int .i64 0,.int .i64 0,.int .i64 0] 43 (0,0))∧wx.heap[sb]? = some (.cells #[.int .i64 (r1:Int),.int .i64 (r2:Int),.int .i64 (r3:Int)] 43 (0,0))∧wx.cell? ⟨g,0,none⟩=some (.int .i64 (n:Int))∧Below w.heap.size w wx)
   case first =>
    by_cases g0:n<1
    ·obtain rfl:n=0:=by omega
     have HF:Hid (hb=false):=by rw [← Hhb.out]; exact decide_eq_false (fun h=>by omega)
     have KZ:=hid (fun nq=>KP.out (Z.drewN nq) (below_drewN (Below.refl _ _) nq))
     clear tn tk
     go_quiet (fail)
     all_goals go_step
     all_goals go_step
     all_goals go_meet
     all_goals exact ⟨by rw [HF.out]; rfl,KZ.out _⟩
    ·have y0:decide ((n:Int)<1)=false:=decide_eq_false (by omega)
     by_cases g1:n % 2=k % 2
     ·have y1:((n:Int).tmod 2 != (k:Int).tmod 2)=false:=by rw [tn,tk,g1]; simp
      have y2:((n:Int) % 2 != (k:Int) % 2)=false:=by simp; omega
      obtain ⟨bs,Hbs⟩:∃ s,Hid (bA (bodyL n ⟨r1,r2,r3⟩)=s):=⟨_,rfl⟩
      have zb1:bs.size=17:=by rw [← Hbs.out,bA_size,bodyL_length]
      have zb2:(bA [165]).size=1:=bA_size _
      obtain ⟨b1,b2,b3⟩:=HFt.out
      have B1:=hid b1
      have B2:=hid b2
      have B3:=hid b3
      have heq:(!((bs ++ bA [165]).toList == tt.toList))=!hb:=by
       rw [← Hhb.out,← Hbs.out,bA_append,ByteArray.toList_eq,ByteArray.toList_eq,bA_list,HL.out]
       by_cases hx:bodyL n ⟨r1,r2,r3⟩ ++ [165]=t
       ·rw [decide_eq_true ⟨by omega,g1,hx⟩,hx]; simp
       ·rw [decide_eq_false (fun h=>hx h.2.2),beq_eq_false_iff_ne.2 hx]
      have HD0:Hid (Below Z.heap.size Z Z.drew):=(Below.refl _ _).drew
      clear b1 b2 b3 tn tk
      go_region_held3 (fun w'=>w'.cell? ⟨g,0,none⟩=some (.int .i64 (n:Int))∧w'.cell? ⟨sb,0,none⟩=some (.int .i64 (r1:Int))∧w'.cell? ⟨sb,1,none⟩=some (.int .i64 (r2:Int))∧w'.cell? ⟨sb,2,none⟩=some (.int .i64 (r3:Int))) (go_keep) (first|(go_at_call 184; (with_reducible refine (body_is n r1 r2 r3 bs _ hnl B1.out B2.out B3.out Hbs.out).mono ?_); rintro e wn ⟨rfl,hbn⟩; have HBn:=below_step (by assumption) hbn; obtain ⟨x0,x1,x2,-⟩:=KP.out _ HBn.out; have d0:wn.cell? ⟨sb,0,none⟩=some (.int .i64 (r1:Int)):=(cell_of_row _ _ _ _ _ _ x1).trans rfl; have d1:wn.cell? ⟨sb,1,none⟩=some (.int .i64 (r2:Int)):=(cell_of_row _ _ _ _ _ _ x1).trans rfl; have d2:wn.cell? ⟨sb,2,none⟩=some (.int .i64 (r3:Int)):=(cell_of_row _ _ _ _ _ _ x1).trans rfl; clear hbn x0 x1)|(go_at_call 185; (with_reducible refine (byte165 _).mono ?_); rintro e wn ⟨rfl,hbn⟩; have HBn:=below_step (by assumption) hbn; obtain ⟨x0,x1,x2,-⟩:=KP.out _ HBn.out; have d0:wn.cell? ⟨sb,0,none⟩=some (.int .i64 (r1:Int)):=(cell_of_row _ _ _ _ _ _ x1).trans rfl; have d1:wn.cell? ⟨sb,1,none⟩=some (.int .i64 (r2:Int)):=(cell_of_row _ _ _ _ _ _ x1).trans rfl; have d2:wn.cell? ⟨sb,2,none⟩=some (.int .i64 (r3:Int)):=(cell_of_row _ _ _ _ _ _ x1).trans rfl; clear hbn x0 x1))
      all_goals go_step
      all_goals go_step
      all_goals go_meet
      all_goals exact ⟨by first|rfl|exact congrArg Value.bool heq,KP.out _ (Hid.out (by assumption))⟩
     ·have y1:((n:Int).tmod 2 != (k:Int).tmod 2)=true:=by rw [tn,tk]; simp; omega
      have y2:((n:Int) % 2 != (k:Int) % 2)=true:=by simp; omega
      have HF:Hid (hb=false):=by rw [← Hhb.out]; exact decide_eq_false (fun h=>g1 h.2.1)
      have KZ:=hid (fun nq=>KP.out (Z.drewN nq) (below_drewN (Below.refl _ _) nq))
      clear tn tk
      go_quiet (fail)
      all_goals go_step
      all_goals go_step
      all_goals go_meet
      all_goals exact ⟨by rw [HF.out]; rfl,KZ.out _⟩
   case rest =>
    obtain ⟨rfl,rz,rs,rg,rb⟩:=hcut
    have RZ2:=hid rz
    have RB2:=hid rb
    have v0:wc.cell? ⟨w.heap.size,0,none⟩=some (.int .i64 0):=by rw [cell_of_row _ _ _ _ _ _ rz]; rfl
    have v1:wc.cell? ⟨w.heap.size,1,none⟩=some (.int .i64 0):=by rw [cell_of_row _ _ _ _ _ _ rz]; rfl
    have v2:wc.cell? ⟨w.heap.size,2,none⟩=some (.int .i64 0):=by rw [cell_of_row _ _ _ _ _ _ rz]; rfl
    have f0:=frozen_of_row wc w.heap.size 0 _ _ rz
    have f1:=frozen_of_row wc w.heap.size 1 _ _ rz
    have f2:=frozen_of_row wc w.heap.size 2 _ _ rz
    have s0:wc.cell? ⟨sb,0,none⟩=some (.int .i64 (r1:Int)):=by rw [cell_of_row _ _ _ _ _ _ rs]; rfl
    have s1:wc.cell? ⟨sb,1,none⟩=some (.int .i64 (r2:Int)):=by rw [cell_of_row _ _ _ _ _ _ rs]; rfl
    have s2:wc.cell? ⟨sb,2,none⟩=some (.int .i64 (r3:Int)):=by rw [cell_of_row _ _ _ _ _ _ rs]; rfl
    have hd:=HDef.out
    clear rz rs rb tn tk z0 z1 z2 z3 c0 c1 c2
    cases hb with
    | true =>
     rw [if_pos (of_decide_eq_true Hhb.out)] at hd
     obtain ⟨rfl,rfl,rfl,rfl⟩:n=o1∧r1=p1∧r2=p2∧r3=p3:=by simpa using hd
     clear hd
     go_wp2_with fail
     go_region
     all_goals go_wp2_with fail
     refine bodyPost_ret (results_row3 rfl _ _ w.heap.size 43 _ (0,0) _ rfl (set3R RZ2.out _ _ _) Tryz.underlying43 rfl sizeStR) rfl ?_
     exact ⟨rfl,(((RB2.out.setCell (Nat.le_refl _) _).setCell (Nat.le_refl _) _).setCell (Nat.le_refl _) _).drew⟩
    | false =>
     rw [if_neg (of_decide_eq_false Hhb.out)] at hd
     obtain ⟨rfl,rfl,rfl,rfl⟩:0=o1∧0=p1∧0=p2∧0=p3:=by simpa [St.zero] using hd
     clear hd
     go_wp2_with fail
     refine bodyPost_ret (results_row3 rfl _ _ w.heap.size 43 _ (0,0) _ rfl (set3R RZ2.out _ _ _) Tryz.underlying43 rfl sizeStR) rfl ?_
     exact ⟨rfl,((RB2.out.setCell (Nat.le_refl _) _).setCell (Nat.le_refl _) _).setCell (Nat.le_refl _) _⟩
theorem rheld_is (B:ByteArray) (k n h1 h2 h3:Nat) (z:Int) (w:World) (hz:z=(k:Int)) (hB:B.size≤1000) (hk:18 * (k+1)≤B.size) (h:heldL k (slotL B.data.toList k)=(n,⟨h1,h2,h3⟩)) :
  Calls Tryz.prog 164 #[.string B,.int .i64 z] w fun e w'=>e=.returned (.tuple #[.int .i64 (n:Int),.agg #[.int .i64 (h1:Int),.int .i64 (h2:Int),.int .i64 (h3:Int)]])∧Below w.heap.size w w':=by
 subst hz
 have:=rheld_any B k w hB hk
 rw [h] at this
 exact this
theorem rdeal_any (B:ByteArray) (d n h1 h2 h3:Nat) (w:World) (hB:B.size≤1000) (hd:36 * (d+1)≤B.size) (h:dealL B.data.toList d=(n,⟨h1,h2,h3⟩)) :
  Calls Tryz.prog 133 #[.string B,.int .i64 (d:Int)] w fun e w'=>e=.returned (.tuple #[.int .i64 (n:Int),.agg #[.int .i64 (h1:Int),.int .i64 (h2:Int),.int .i64 (h3:Int)]])∧Below w.heap.size w w':=by
 obtain ⟨⟨n1,a1,a2,a3⟩,HA⟩:∃ x,Hid (heldL (2 * d) (slotL B.data.toList (2 * d))=x):=⟨_,rfl⟩
 obtain ⟨⟨n2,b1,b2,b3⟩,HBb⟩:∃ x,Hid (heldL (2 * d+1) (slotL B.data.toList (2 * d+1))=x):=⟨_,rfl⟩
 have HD:Hid ((if n1<n2 then (n2,(⟨b1,b2,b3⟩:St)) else (n1,⟨a1,a2,a3⟩))=(n,⟨h1,h2,h3⟩)):=by unfold Hid; rw [← h]; unfold dealL; rw [HA.out,HBb.out]
 have Z1:Hid ((2 * (d:Int))=((2 * d:Nat):Int)):=by unfold Hid; omega
 have Z2:Hid ((2 * (d:Int)+1)=((2 * d+1:Nat):Int)):=by unfold Hid; omega
 clear h
 obtain ⟨X0,HX0⟩:∃ X,Hid (w.alloc (.cells #[.int .i64 0,.int .i64 0,.int .i64 0] 43)=X):=⟨_,rfl⟩
 have hX0:=HX0.out
 have R0:Hid (X0.heap[w.heap.size]? = some (.cells #[.int .i64 0,.int .i64 0,.int .i64 0] 43 (0,0))):=by rw [← HX0.out]; exact heap_alloc_new w _
 have HB0:Hid (Below w.heap.size w X0):=by rw [← HX0.out]; exact (Below.refl _ _).alloc (Nat.le_refl _) _
 go_enter Tryz.func133,Tryz.ntmps133
 go_wp2_with fail
 refine (rheld_is B (2 * d) n1 a1 a2 a3 _ _ Z1.out hB (by omega) HA.out).mono ?_
 rintro e w1 ⟨rfl,hb1⟩
 have R1:=hid ((hb1.block _ (row_ltJ R0.out)).trans R0.out)
 have HB1:=hid (HB0.out.trans (hb1.mono HB0.out.size))
 clear hb1
 obtain ⟨X1,HX1⟩:∃ X,Hid (w1.alloc (.cells #[.int .i64 (a1:Int),.int .i64 (a2:Int),.int .i64 (a3:Int)] 43)=X):=⟨_,rfl⟩
 obtain ⟨g1,Hg1⟩:∃ n,Hid (w1.heap.size=n):=⟨_,rfl⟩
 have hX1:=HX1.out
 have hg1:=Hg1.out
 have S1:Hid (X1.heap[g1]? = some (.cells #[.int .i64 (a1:Int),.int .i64 (a2:Int),.int .i64 (a3:Int)] 43 (0,0))):=by rw [← HX1.out,← Hg1.out]; exact heap_alloc_new w1 _
 have R1b:Hid (X1.heap[w.heap.size]? = some (.cells #[.int .i64 0,.int .i64 0,.int .i64 0] 43 (0,0))):=by rw [← HX1.out]; exact (Below.heap_alloc w1 _ _ (row_ltJ R1.out)).trans R1.out
 have HB1b:Hid (Below w.heap.size w X1):=by rw [← HX1.out]; exact HB1.out.alloc HB1.out.size _
 go_wp2_with fail
 refine (rheld_is B (2 * d+1) n2 b1 b2 b3 _ _ Z2.out hB (by omega) HBb.out).mono ?_
 rintro e w2 ⟨rfl,hb2⟩
 have R2:=hid ((hb2.block _ (row_ltJ R1b.out)).trans R1b.out)
 have S2:=hid ((hb2.block _ (row_ltJ S1.out)).trans S1.out)
 have HB2:=hid (HB1b.out.trans (hb2.mono HB1b.out.size))
 clear hb2
 obtain ⟨X2,HX2⟩:∃ X,Hid (w2.alloc (.cells #[.int .i64 (b1:Int),.int .i64 (b2:Int),.int .i64 (b3:Int)] 43)=X):=⟨_,rfl⟩
 obtain ⟨g2,Hg2⟩:∃ n,Hid (w2.heap.size=n):=⟨_,rfl⟩
 have hX2:=HX2.out
 have hg2:=Hg2.out
 have S3:Hid (X2.heap[g2]? = some (.cells #[.int .i64 (b1:Int),.int .i64 (b2:Int),.int .i64 (b3:Int)] 43 (0,0))):=by rw [← HX2.out,← Hg2.out]; exact heap_alloc_new w2 _
 have S2b:Hid (X2.heap[g1]? = some (.cells #[.int .i64 (a1:Int),.int .i64 (a2:Int),.int .i64 (a3:Int)] 43 (0,0))):=by rw [← HX2.out]; exact (Below.heap_alloc w2 _ _ (row_ltJ S2.out)).trans S2.out
 have R2b:Hid (X2.heap[w.heap.size]? = some (.cells #[.int .i64 0,.int .i64 0,.int .i64 0] 43 (0,0))):=by rw [← HX2.out]; exact (Below.heap_alloc w2 _ _ (row_ltJ R2.out)).trans R2.out
 have HB2b:Hid (Below w.heap.size w X2):=by rw [← HX2.out]; exact HB2.out.alloc HB2.out.size _
 have v0:X2.cell? ⟨w.heap.size,0,none⟩=some (.int .i64 0):=by rw [cell_of_row _ _ _ _ _ _ R2b.out]; rfl
 have v1:X2.cell? ⟨w.heap.size,1,none⟩=some (.int .i64 0):=by rw [cell_of_row _ _ _ _ _ _ R2b.out]; rfl
 have v2:X2.cell? ⟨w.heap.size,2,none⟩=some (.int .i64 0):=by rw [cell_of_row _ _ _ _ _ _ R2b.out]; rfl
 have f0:=frozen_of_row X2 w.heap.size 0 _ _ R2b.out
 have f1:=frozen_of_row X2 w.heap.size 1 _ _ R2b.out
 have f2:=frozen_of_row X2 w.heap.size 2 _ _ R2b.out
 have c0:X2.cell? ⟨g1,0,none⟩=some (.int .i64 (a1:Int)):=by rw [cell_of_row _ _ _ _ _ _ S2b.out]; rfl
 have c1:X2.cell? ⟨g1,1,none⟩=some (.int .i64 (a2:Int)):=by rw [cell_of_row _ _ _ _ _ _ S2b.out]; rfl
 have c2:X2.cell? ⟨g1,2,none⟩=some (.int .i64 (a3:Int)):=by rw [cell_of_row _ _ _ _ _ _ S2b.out]; rfl
 have e0:X2.cell? ⟨g2,0,none⟩=some (.int .i64 (b1:Int)):=by rw [cell_of_row _ _ _ _ _ _ S3.out]; rfl
 have e1:X2.cell? ⟨g2,1,none⟩=some (.int .i64 (b2:Int)):=by rw [cell_of_row _ _ _ _ _ _ S3.out]; rfl
 have e2:X2.cell? ⟨g2,2,none⟩=some (.int .i64 (b3:Int)):=by rw [cell_of_row _ _ _ _ _ _ S3.out]; rfl
 have hdd:=HD.out
 by_cases hc:n1<n2
 ·rw [if_pos hc] at hdd
  obtain ⟨rfl,rfl,rfl,rfl⟩:n2=n∧b1=h1∧b2=h2∧b3=h3:=by simpa using hdd
  clear hdd
  go_wp2_with fail
  go_region
  all_goals go_wp2_with fail
  refine bodyPost_ret (results_row3 rfl _ _ w.heap.size 43 _ (0,0) _ rfl (set3R R2b.out _ _ _) Tryz.underlying43 rfl sizeStR) rfl ?_
  exact ⟨rfl,(((HB2b.out.setCell (Nat.le_refl _) _).setCell (Nat.le_refl _) _).setCell (Nat.le_refl _) _).drew⟩
 ·rw [if_neg hc] at hdd
  obtain ⟨rfl,rfl,rfl,rfl⟩:n1=n∧a1=h1∧a2=h2∧a3=h3:=by simpa using hdd
  clear hdd
  go_wp2_with fail
  go_region
  all_goals go_wp2_with fail
  refine bodyPost_ret (results_row3 rfl _ _ w.heap.size 43 _ (0,0) _ rfl (set3R R2b.out _ _ _) Tryz.underlying43 rfl sizeStR) rfl ?_
  exact ⟨rfl,(((HB2b.out.setCell (Nat.le_refl _) _).setCell (Nat.le_refl _) _).setCell (Nat.le_refl _) _).drew⟩
end Go.Proofs.YtadhpkopkkjmfaaGreatDoor
namespace Go.Proofs.YtadhpkopkkjmfaaGreatDoor
open Go.RowKit
def numsTo (E:Nat→Nat×St) (k:Nat):List Value:=(List.range k).map fun d=>.int .i64 ((E d).1:Int)
def statesTo (E:Nat→Nat×St) (k:Nat):List Value:=(List.range k).flatMap fun d=>[.int .i64 ((E d).2.ph:Int),.int .i64 ((E d).2.pr:Int),.int .i64 ((E d).2.at_:Int)]
theorem numsTo_succ (E:Nat→Nat×St) (k:Nat):numsTo E (k+1)=numsTo E k ++ [.int .i64 ((E k).1:Int)]:=by simp [numsTo,List.range_succ]
theorem statesTo_succ (E:Nat→Nat×St) (k:Nat):statesTo E (k+1)=statesTo E k ++ [.int .i64 ((E k).2.ph:Int),.int .i64 ((E k).2.pr:Int),.int .i64 ((E k).2.at_:Int)]:=by simp [statesTo,List.range_succ]
structure OpS (w0 w:World) (m r:Nat) (E:Nat→Nat×St) (vN vS:Value) (k1 k2:Nat):Prop where
 row:w.heap[m]? = some (.cells #[.pointer (some ⟨r,0,none⟩),vN,vS,.bool false] 191 (0,0))
 nN:w.ownsRow (m+1) 3 1 vN k1 (numsTo E k1)
 nS:w.ownsRow (m+1) 43 3 vS k2 (statesTo E k2)
 ne:∀ b,vN.ownBlock=some b→vS.ownBlock≠some b
 bel:Below m w0 w
section
variable {w0 w W w':World} {m r:Nat} {E:Nat→Nat×St} {vN vS:Value} {k1 k2:Nat}
theorem OpS.mlt (h:OpS w0 w m r E vN vS k1 k2):m<w.heap.size:=row_ltJ h.row
theorem OpS.later (h:OpS w0 w m r E vN vS k1 k2) (hb:Below w.heap.size w w'):OpS w0 w' m r E vN vS k1 k2 :=
 ⟨(hb.block _ h.mlt).trans h.row,own_later h.nN hb (Nat.le_refl _),own_later h.nS hb (Nat.le_refl _),h.ne,h.bel.trans (hb.mono (Nat.le_of_lt h.mlt))⟩
theorem own_setOther {e:TypeId} {size n base:Nat} {v:Value} {xs:List Value} (h:w.ownsRow base e size v n xs) (hm:m<base) (i:Nat) (x:Value):(w.setCell ⟨m,i,none⟩ x).ownsRow base e size v n xs:=by
 refine ⟨h.1,?_⟩
 rcases h.2 with hn|⟨g,cap,cur,rfl,hb',hgg,rest⟩
 ·exact .inl hn
 ·exact .inr ⟨g,cap,cur,rfl,hb',(Below.heap_setCell _ _ _ _ (by show g≠m; omega)).trans hgg,rest⟩
theorem grown_row {row:Option Nat} (hg:W.grownBy w' row) {b:Nat} {o:Obj} (h:W.heap[b]? = some o) (hne:some b≠row):w'.heap[b]? = some o:=(hg.block b (row_ltJ h) hne).trans h
theorem OpS.pushN {g n cap H:Nat} (h:OpS w0 w m r E vN vS k1 k2) (hb:Below w.heap.size w W) (hg:W.grownBy w' vN.ownBlock) (hown:w'.ownsRow (m+1) 3 1 (.slice (some ⟨g,0,none⟩) n cap) (k1+1) (numsTo E (k1+1)))
  (hat:vN.ownBlock=some g ∨ g=H) (hH:w.heap.size≤H):OpS w0 (w'.setCell ⟨m,1,none⟩ (.slice (some ⟨g,0,none⟩) n cap)) m r E (.slice (some ⟨g,0,none⟩) n cap) vS (k1+1) k2:=by
 have hW:=h.later hb
 have hmn:some m≠vN.ownBlock:=fun e=>by have:=(h.nN.lt m e.symm).1; omega
 have hr:=grown_row hg hW.row hmn
 refine ⟨heap_setCell_same w' m 1 _ _ _ hr,own_setOther hown (by omega) _ _,own_setOther (hW.nS.kept hg ?_) (by omega) _ _,?_,?_⟩
 ·cases hs:vS.ownBlock with
  | none=>exact .inl rfl
  | some b=>exact .inr fun e=>(h.ne b e.symm) hs
 ·intro b hb' hs
  have hbg:b=g:=by simpa [Value.ownBlock] using hb'.symm
  subst hbg
  rcases hat with e|e
  ·exact h.ne _ e hs
  ·have:=(h.nS.lt _ hs).2; omega
 ·refine (Below.grown hW.bel hg (Nat.le_of_lt hW.mlt) ?_).setCell (Nat.le_refl _) _
  intro j hj
  have:=(h.nN.lt j hj).1
  omega
theorem OpS.pushS {g n cap H:Nat} (h:OpS w0 w m r E vN vS k1 k2) (hb:Below w.heap.size w W) (hg:W.grownBy w' vS.ownBlock) (hown:w'.ownsRow (m+1) 43 3 (.slice (some ⟨g,0,none⟩) n cap) (k2+1) (statesTo E (k2+1)))
  (hat:vS.ownBlock=some g ∨ g=H) (hH:w.heap.size≤H):OpS w0 (w'.setCell ⟨m,2,none⟩ (.slice (some ⟨g,0,none⟩) n cap)) m r E vN (.slice (some ⟨g,0,none⟩) n cap) k1 (k2+1):=by
 have hW:=h.later hb
 have hmn:some m≠vS.ownBlock:=fun e=>by have:=(h.nS.lt m e.symm).1; omega
 have hr:=grown_row hg hW.row hmn
 refine ⟨heap_setCell_same w' m 2 _ _ _ hr,own_setOther (hW.nN.kept hg ?_) (by omega) _ _,own_setOther hown (by omega) _ _,?_,?_⟩
 ·cases hs:vN.ownBlock with
  | none=>exact .inl rfl
  | some b=>exact .inr fun e=>h.ne b hs e.symm
 ·intro b hb' hs
  have hbg:b=g:=by simpa [Value.ownBlock] using hs.symm
  subst hbg
  rcases hat with e|e
  ·exact h.ne _ hb' e
  ·have:=(h.nN.lt _ hb').2; omega
 ·refine (Below.grown hW.bel hg (Nat.le_of_lt hW.mlt) ?_).setCell (Nat.le_refl _) _
  intro j hj
  have:=(h.nS.lt j hj).1
  omega
end
structure RJ (w:World) (m gn gs r:Nat) (E:Nat→Nat×St) (dead:Bool):Prop where
 row:∃ cn cs,w.heap[m]? = some (.cells #[.pointer (some ⟨r,0,none⟩),.slice (some ⟨gn,0,none⟩) 6 cn,.slice (some ⟨gs,0,none⟩) 6 cs,.bool dead] 191 (0,0))
 nums:∃ N,w.heap[gn]? = some (.cells N 3 (0,0))∧∀ d,d<6→N[d]? = some (.int .i64 ((E d).1:Int))
 sts:∃ S,w.heap[gs]? = some (.cells S 43 (0,0))∧∀ d,d<6→S[d * 3]? = some (.int .i64 ((E d).2.ph:Int))∧S[d * 3+1]? = some (.int .i64 ((E d).2.pr:Int))∧S[d * 3+2]? = some (.int .i64 ((E d).2.at_:Int))
 mn:m≠gn
 ms:m≠gs
 ns:gn≠gs
theorem OpS.done {w0 w:World} {m r:Nat} {E:Nat→Nat×St} {vN vS:Value} (h:OpS w0 w m r E vN vS 6 6):∃ gn gs,RJ w m gn gs r E false∧m<gn∧m<gs:=by
 obtain ⟨row,nN,nS,ne,bel⟩:=h
 have hN:=nN
 have hS:=nS
 rcases nN.2 with ⟨_,h0⟩|⟨gn,cn,N,rfl,b1,hN1,-,-,-,htN⟩
 ·omega
 rcases nS.2 with ⟨_,h0⟩|⟨gs,cs,S,rfl,b2,hS1,-,-,-,htS⟩
 ·omega
 refine ⟨gn,gs,⟨⟨cn,cs,row⟩,⟨N,hN1,?_⟩,⟨S,hS1,?_⟩,by omega,by omega,?_⟩,by omega,by omega⟩
 ·intro d hd
  have:=hN.cellAt d (by omega)
  rw [cell_of_row _ _ _ _ _ _ hN1] at this
  rw [this]
  rcases six hd with rfl|rfl|rfl|rfl|rfl|rfl <;> rfl
 ·intro d hd
  have c0:=hS.cellAt (d * 3) (by omega)
  have c1:=hS.cellAt (d * 3+1) (by omega)
  have c2:=hS.cellAt (d * 3+2) (by omega)
  rw [cell_of_row _ _ _ _ _ _ hS1] at c0 c1 c2
  rw [c0,c1,c2]
  rcases six hd with rfl|rfl|rfl|rfl|rfl|rfl <;> exact ⟨rfl,rfl,rfl⟩
 ·intro e
  subst e
  exact ne gn rfl rfl
end Go.Proofs.YtadhpkopkkjmfaaGreatDoor
namespace Go.Proofs.YtadhpkopkkjmfaaGreatDoor
open Go.RowKit
theorem Tryz.infoS:(Tryz.prog.info? 43).map (fun i=>(i.zero,i.size,i.bytes))=some (some (.agg #[.int .i64 0,.int .i64 0,.int .i64 0]),3,24):=by kernel_rfl
theorem ropen_any (r:Nat) (B:ByteArray) (off cuts:Bool) (l:Int) (w:World) (h:RP w r B off l cuts) (hB:B.size≤1000) (h6:216≤B.size) :
  Calls Tryz.prog 119 #[.pointer (some ⟨r,0,none⟩)] w fun e w'=>∃ m gn gs,e=.returned (.pointer (some ⟨m,0,none⟩))∧RJ w' m gn gs r (dealL B.data.toList) false∧Below w.heap.size w w'∧w.heap.size≤m∧w.heap.size≤gn∧w.heap.size≤gs:=by
 obtain ⟨i0,hi,hz0,hz1,hz2⟩:=info_parts Tryz.infoI
 obtain ⟨j0,hj,hy0,hy1,hy2⟩:=info_parts Tryz.infoS
 obtain ⟨E,HE⟩:∃ E,Hid (dealL B.data.toList=E):=⟨_,rfl⟩
 rw [HE.out]
 have H:=hid h
 have hrl:r<w.heap.size:=row_ltJ h
 clear h
 obtain ⟨W,HW⟩:∃ W,Hid (w.alloc (.cells #[.pointer (some ⟨r,0,none⟩),.slice none 0 0,.slice none 0 0,.bool false] 191)=W):=⟨_,rfl⟩
 have hW:=HW.out
 have H0:Hid (OpS w W w.heap.size r E (.slice none 0 0) (.slice none 0 0) 0 0):=by
  rw [← HW.out]
  exact ⟨heap_alloc_new w _,World.ownsRow_nil _ _ _ _,World.ownsRow_nil _ _ _ _,fun b hb=>by simp [Value.ownBlock] at hb,(Below.refl _ _).alloc (Nat.le_refl _) _⟩
 obtain ⟨m,Hm⟩:∃ m,Hid (w.heap.size=m):=⟨_,rfl⟩
 have hm:=Hm.out
 rw [hm] at H0
 go_enter Tryz.func119,Tryz.ntmps119
 go_wp2_with fail
 go_loopw [4] (fun i wr=>∃ k:Nat,∃ vN vS:Value,k≤6∧i=.int .i64 (k:Int)∧OpS w wr m r E vN vS k k) (fun i _=>6 - (intOf i).toNat)
 case atStart=>exact ⟨0,_,_,by omega,rfl,H0.out⟩
 case round =>
  obtain ⟨k,vN,vS,hk,rfl,hop⟩:=hrel
  have HO:=hid hop
  clear hop
  by_cases hlt:k<6
  ·have cr:wr.cell? ⟨r,0,none⟩=some (.string B):=(H.out.kept (S:=fun _=>False) (Kept.of_below (by rw [Hm.out]; exact HO.out.bel)) (fun x=>x)).c0
   obtain ⟨⟨n,h1,h2,h3⟩,HD⟩:∃ x,Hid (E k=x):=⟨_,rfl⟩
   have HD2:Hid (dealL B.data.toList k=(n,⟨h1,h2,h3⟩)):=by rw [HE.out]; exact HD.out
   go_wp2_with fail
   refine (rdeal_any B k n h1 h2 h3 wr hB (by omega) HD2.out).mono ?_
   rintro e w1 ⟨rfl,hb1⟩
   obtain ⟨X1,HX1⟩:∃ X,Hid (w1.alloc (.cells #[.int .i64 (h1:Int),.int .i64 (h2:Int),.int .i64 (h3:Int)] 43)=X):=⟨_,rfl⟩
   obtain ⟨sb,Hsb⟩:∃ n,Hid (w1.heap.size=n):=⟨_,rfl⟩
   have hsb:=Hsb.out
   have HB1:Hid (Below wr.heap.size wr X1):=by rw [← HX1.out]; exact hb1.alloc hb1.size _
   have HS1:Hid (X1.heap[sb]? = some (.cells #[.int .i64 (h1:Int),.int .i64 (h2:Int),.int .i64 (h3:Int)] 43 (0,0))):=by rw [← HX1.out,← Hsb.out]; exact heap_alloc_new w1 _
   have HO1:=hid (HO.out.later HB1.out)
   have HOw:=hid (HO.out.later hb1)
   have mlt:m<sb:=by have h1:=HO.out.mlt; have h2:=hb1.size; have h3:=Hsb.out; omega
   have cN:w1.cell? ⟨m,1,none⟩=some vN:=by rw [cell_of_row _ _ _ _ _ _ HOw.out.row]; rfl
   have HNS:Hid (numsTo E (k+1)=numsTo E k ++ [.int .i64 (n:Int)]):=by unfold Hid; rw [numsTo_succ,HD.out]
   have HSS:Hid (statesTo E (k+1)=statesTo E k ++ [.int .i64 (h1:Int),.int .i64 (h2:Int),.int .i64 (h3:Int)]):=by unfold Hid; rw [statesTo_succ,HD.out]
   have HWr:Hid (wr.heap.size≤w1.heap.size):=hb1.size
   have HO1r:Hid (((w1.alloc (.cells #[.int .i64 (h1:Int),.int .i64 (h2:Int),.int .i64 (h3:Int)] 43)).alloc (.cells #[.int .i64 (n:Int)] 3)).heap[m]? = some (.cells #[.pointer (some ⟨r,0,none⟩),vN,vS,.bool false] 191 (0,0))):=by
    rw [HX1.out]; exact (Below.heap_alloc _ _ _ HO1.out.mlt).trans HO1.out.row
   clear hb1 cr
   go_wp2_with (at_builtin; refine wpList_append_lies _ rfl (.tmp 27) (.tmp 29) 22 rfl (m+1) 3 i0 (.int .i64 0) 1 8 Tryz.underlying22 hi hz0 hz1 hz2 rfl (by decide) vN k (numsTo E k) rfl (by exact World.ownsRow.alloc (World.ownsRow.alloc HOw.out.nN _) _) ⟨sb+1,0,none⟩ 1 1 [.int .i64 (n:Int)] rfl rfl ?d3 ?d4 (by decide) ?d5 ?d6 ?d7 (sb+2) ?d8 ?_)
   case d3 =>
    have e:((w1.alloc (.cells #[.int .i64 (h1:Int),.int .i64 (h2:Int),.int .i64 (h3:Int)] 43)).heap.size)=sb+1:=by rw [← Hsb.out]; simp
    rw [← e]
    exact lit_cells _ _ _
   case d4=>intro u hu; simp at hu; subst hu; rfl
   case d5=>unfold maxLen; omega
   case d6=>omega
   case d7=>simp; omega
   case d8=>simp; omega
   intro g3 c3 w3 hown3 hg3 hat3 hlt3
   have HX2:Hid (Below wr.heap.size wr ((w1.alloc (.cells #[.int .i64 (h1:Int),.int .i64 (h2:Int),.int .i64 (h3:Int)] 43)).alloc (.cells #[.int .i64 (n:Int)] 3))):=by
    rw [HX1.out]; exact HB1.out.alloc HB1.out.size _
   have HP:=hid (HO.out.pushN HX2.out hg3 (by rw [HNS.out]; exact hown3) hat3 (by have h1:=HWr.out; have h3:=Hsb.out; omega))
   have HS3:Hid (w3.heap[sb]? = some (.cells #[.int .i64 (h1:Int),.int .i64 (h2:Int),.int .i64 (h3:Int)] 43 (0,0))):=by
    refine grown_row hg3 (b:=sb) ?_ ?_
    ·rw [HX1.out]; exact (Below.heap_alloc _ _ _ (row_ltJ HS1.out)).trans HS1.out
    ·intro e
     have h1:=(HO.out.nN.lt sb e.symm).2
     have h2:=HOw.out.bel.size
     have h3:=HB1.out.size
     have h4:=Hsb.out
     have h5:=HWr.out
     omega
   have hr3:=grown_row hg3 (b:=m) (HO1r.out) (fun e=>by have:=(HO.out.nN.lt m e.symm).1; omega)
   have x1:w3.cell? ⟨m,1,none⟩=some vN:=by rw [cell_of_row _ _ _ _ _ _ hr3]; rfl
   have y1:=frozen_of_row w3 m 1 _ _ hr3
   clear hown3 hg3 hat3
   obtain ⟨X3,HX3⟩:∃ X,Hid (w3.setCell ⟨m,1,none⟩ (.slice (some ⟨g3,0,none⟩) (k+1) c3)=X):=⟨_,rfl⟩
   rw [HX3.out] at HP
   have HS4:Hid (X3.heap[sb]? = some (.cells #[.int .i64 (h1:Int),.int .i64 (h2:Int),.int .i64 (h3:Int)] 43 (0,0))):=by
    rw [← HX3.out]; exact (Below.heap_setCell _ _ _ _ (by show sb≠m; omega)).trans HS3.out
   go_wp2_with fail
   rw [HX3.out]
   clear x1 y1 cN
   have x2:X3.cell? ⟨m,2,none⟩=some vS:=by rw [cell_of_row _ _ _ _ _ _ HP.out.row]; rfl
   have s0:X3.cell? ⟨sb,0,none⟩=some (.int .i64 (h1:Int)):=by rw [cell_of_row _ _ _ _ _ _ HS4.out]; rfl
   have s1:X3.cell? ⟨sb,1,none⟩=some (.int .i64 (h2:Int)):=by rw [cell_of_row _ _ _ _ _ _ HS4.out]; rfl
   have s2:X3.cell? ⟨sb,2,none⟩=some (.int .i64 (h3:Int)):=by rw [cell_of_row _ _ _ _ _ _ HS4.out]; rfl
   have mx3:=HP.out.mlt
   have HNM:Hid (some m≠vS.ownBlock):=fun e=>by have:=(HO.out.nS.lt m e.symm).1; omega
   have HNB:Hid (some sb≠vS.ownBlock):=fun e=>by have h1:=(HO.out.nS.lt sb e.symm).2; have h2:=HWr.out; have h3:=Hsb.out; omega
   have HBX:Hid (Below X3.heap.size X3 (X3.alloc (.cells #[.int .i64 (h1:Int),.int .i64 (h2:Int),.int .i64 (h3:Int)] 43)).drew):=((Below.refl _ _).alloc (Nat.le_refl _) _).drew
   go_region_law ((refine step_append_lies _ (by rfl) _ _ _ (by rfl) (m+1) 43 j0 (.agg #[.int .i64 0,.int .i64 0,.int .i64 0]) 3 24 Tryz.underlying37 hj hy0 hy1 hy2 (by rfl) (by decide) vS k (statesTo E k) (by rfl) (by exact World.ownsRow.alloc HP.out.nS _) ⟨X3.heap.size,0,none⟩ 1 1 [.int .i64 (h1:Int),.int .i64 (h2:Int),.int .i64 (h3:Int)] (by rfl) (by rfl) (by exact lit_cells X3 _ _) (by intro u hu; simp at hu; rcases hu with rfl|rfl|rfl <;> rfl) (by decide) (by unfold maxLen; omega) (by omega) (by exact Nat.le_trans mx3 (by simp)) (X3.heap.size+1) (by simp) ?_; intro g5 c5 w5 hown5 hg5 hat5 hlt5; have HQ5:=hid (HP.out.pushS HBX.out hg5 (by rw [HSS.out]; exact hown5) hat5 (by omega)); have hr5:=grown_row hg5 (b:=m) (show (X3.alloc (.cells #[.int .i64 (h1:Int),.int .i64 (h2:Int),.int .i64 (h3:Int)] 43)).drew.heap[m]? = _ from (Below.heap_alloc X3 _ _ mx3).trans HP.out.row) HNM.out; have hs5:=grown_row hg5 (b:=sb) (show (X3.alloc (.cells #[.int .i64 (h1:Int),.int .i64 (h2:Int),.int .i64 (h3:Int)] 43)).drew.heap[sb]? = _ from (Below.heap_alloc X3 _ _ (row_ltJ HS4.out)).trans HS4.out) HNB.out; have x2':w5.cell? ⟨m,2,none⟩=some vS:=(by rw [cell_of_row _ _ _ _ _ _ hr5]; rfl); have y2':=frozen_of_row w5 m 2 _ _ hr5; have s0':w5.cell? ⟨sb,0,none⟩=some (.int .i64 (h1:Int)):=(by rw [cell_of_row _ _ _ _ _ _ hs5]; rfl); have s1':w5.cell? ⟨sb,1,none⟩=some (.int .i64 (h2:Int)):=(by rw [cell_of_row _ _ _ _ _ _ hs5]; rfl); have s2':w5.cell? ⟨sb,2,none⟩=some (.int .i64 (h3:Int)):=(by rw [cell_of_row _ _ _ _ _ _ hs5]; rfl); clear hr5 hs5 hown5 hg5 hat5 hlt5))
   all_goals go_wp2_with fail
   all_goals go_roundw
   case rel=>exact ⟨k+1,_,_,by omega,by go_num,by first|exact HQ5.out|exact HQ5.out.later (Below.refl _ _).drew⟩
   case measure=>simp [intOf]; omega
   all_goals first|exact ⟨k+1,_,_,by omega,by go_num,by first|exact HQ5.out|exact HQ5.out.later (Below.refl _ _).drew⟩|(simp [intOf]; omega)
  ·obtain rfl:k=6:=by omega
   obtain ⟨gn,gs,hj,b1,b2⟩:=HO.out.done
   have HJ:=hid hj
   have HBl:=hid HO.out.bel
   clear hj
   go_wp2_with fail
   go_ret
   exact ⟨m,gn,gs,rfl,HJ.out,by have:=HBl.out; rw [← Hm.out] at this; exact this,by omega,by omega,by omega⟩
end Go.Proofs.YtadhpkopkkjmfaaGreatDoor
