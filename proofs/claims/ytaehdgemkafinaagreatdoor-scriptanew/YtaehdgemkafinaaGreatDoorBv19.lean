/-
  On the way to SAnewProof: UC UD.
-/
import Derived.Test.YtaehdgemkafinaaGreatDoorBv12
import Derived.Lib.Overlaps
import Derived.Lib.AppendZerosOnto
set_option maxHeartbeats 8000000
set_option maxRecDepth 100000
namespace Go.Proofs.YtaehdgemkafinaaGreatDoor
open Go.RowKit
def insL (L:List F9) (i:Nat) (F:F9):List F9:=L.take i ++ F :: L.drop i
theorem insL_cells (L:List F9) (i:Nat) (F:F9):frCells (insL L i F)=(frCells L).take (i * 9) ++ f9L F ++ (frCells L).drop (i * 9):=by
 unfold insL
 rw [frCells_append,frCells_cons,frCells_take,frCells_drop,List.append_assoc]
theorem insL_length (L:List F9) (i:Nat) (F:F9) (h:i≤L.length):(insL L i F).length=L.length+1:=by unfold insL; rw [List.length_append,List.length_take,List.length_cons,List.length_drop]; omega
theorem insL_get (L:List F9) (i:Nat) (F:F9) (h:i≤L.length) (j:Nat):(frCells (insL L i F))[j]? = if j<i * 9 then (frCells L)[j]? else if j<i * 9+9 then (f9L F)[j - i * 9]? else (frCells L)[j - 9]?:=by
 have hl:((frCells L).take (i * 9)).length=i * 9:=by rw [List.length_take,frCells_length]; omega
 rw [insL_cells]
 by_cases h1:j<i * 9
 ·rw [if_pos h1,List.append_assoc,List.getElem?_append_left (by omega),List.getElem?_take_of_lt h1]
 ·rw [if_neg h1]
  by_cases h2:j<i * 9+9
  ·rw [if_pos h2,List.append_assoc,List.getElem?_append_right (by omega),hl,List.getElem?_append_left (by rw [f9L_length]; omega)]
  ·rw [if_neg h2,List.getElem?_append_right (by rw [List.length_append,hl,f9L_length]; omega),List.length_append,hl,f9L_length,List.getElem?_drop]
   congr 1
   omega
theorem ins_room (base b o n c i vb:Nat) (cur:Array Value) (L:List F9) (F:F9) (w:World) (hb:w.heap[b]? = some (.cells cur 125 (0,0))) (hbase:base≤b) (hL:L.length=n) (hnc:n+1≤c) (hcm:c≤maxLen) (hsz:o+c * 9≤cur.size) (htk:∀ j,j<n * 9→cur[o+j]? = (frCells L)[j]?) (hi:i<n) (hvb:w.heap[vb]? = some (.cells (f9L F).toArray 125 (0,0))) (hne:vb≠b) :
  Calls Tryz.prog 117 #[.slice (some ⟨b,o,none⟩) n c,.int .i64 (i:Int),.slice (some ⟨vb,0,none⟩) 1 1] w fun e w'=>e=.returned (.slice (some ⟨b,o,none⟩) (n+1) c)∧OwnF w' base (.slice (some ⟨b,o,none⟩) (n+1) c) (insL L i F)∧Kept (In1 b) w w':=by
 have h63:c≤9223372036854775807:=by unfold maxLen at hcm; omega
 have hmul:(n+1) * 9≤c * 9:=Nat.mul_le_mul_right 9 hnc
 have hcell:∀ x,x<n * 9→w.cell? ⟨b,o+x,none⟩=(frCells L)[x]?:=fun x hx=>by
  rw [cell_of_row _ _ _ _ _ _ hb,htk x hx]
 have hsome:∀ x,x<c * 9→(w.cell? ⟨b,o+x,none⟩).isSome=true:=fun x hx=>by
  rw [cell_of_row _ _ _ _ _ _ hb,Array.getElem?_eq_getElem (by omega)]; rfl
 have hfz:∀ x,w.frozen? ⟨b,x,none⟩=false:=fun x=>frozen_of_row _ _ _ _ _ hb
 have hLl:=frCells_length L
 have hdl:(frCells (L.drop i)).length=(n - i) * 9:=by rw [frCells_length,List.length_drop,hL]
 obtain ⟨W1,HW1⟩:∃ W1,Hid (w.drew.setCells b (o+(i+1) * 9) (frCells (L.drop i))=W1):=⟨_,rfl⟩
 have hfit:o+(i+1) * 9+(frCells (L.drop i)).length≤cur.size:=by rw [hdl]; omega
 obtain ⟨CR,hCR⟩:∃ CR,CR=(cur.toList.take (o+(i+1) * 9) ++ frCells (L.drop i) ++ cur.toList.drop (o+(i+1) * 9+(frCells (L.drop i)).length)):=⟨_,rfl⟩
 have HR1:Hid (W1.heap[b]? = some (.cells CR.toArray 125 (0,0))):=by
  rw [← HW1.out,hCR]; exact row_setCells _ _ w.drew cur hb hfit
 have hCg:∀ k,CR[k]? = if k<o+(i+1) * 9 then cur.toList[k]? else if k<o+(i+1) * 9+(frCells (L.drop i)).length then (frCells (L.drop i))[k - (o+(i+1) * 9)]? else cur.toList[k]?:=fun k=>by
  rw [hCR]; exact get_spliced _ _ _ _ (by rw [Array.length_toList (xs:=cur)]; exact hfit)
 have HK1:Hid (Kept (In1 b) w W1):=by rw [← HW1.out]; exact (Kept.refl _ w).drew.trans (kept_setCells b _ _ _)
 have hs1:CR.length=cur.size:=by
  rw [hCR,List.length_append,List.length_append,List.length_take,List.length_drop,hdl,Array.length_toList (xs:=cur)]; omega
 have hcp1:∀ ty dc sc,(Builtin.copy_ #[55,55] ty #[.slice (some ⟨b,o+(i+1) * 9,none⟩) (n - i) dc,.slice (some ⟨b,o+i * 9,none⟩) (n+1 - i) sc]).run Tryz.prog w.drew=.ok (goInt ((n - i:Nat):Int)) W1:=fun ty dc sc=>by
  rw [← HW1.out]
  exact run_copy_frs w.drew 55 ty b (o+(i+1) * 9) (n - i) dc ⟨b,o+i * 9,none⟩ (n+1 - i) sc (n - i) (frCells (L.drop i)) (by simp only [Nat.min_def]; split <;> omega) hdl
   (fun j v hj=>by
    have hjl:=(List.getElem?_eq_some_iff.1 hj).1
    rw [hdl] at hjl
    rw [addr_add]
    show w.cell? ⟨b,o+i * 9+j,none⟩=some v
    rw [Nat.add_assoc,hcell _ (by omega),← hj,frCells_drop,List.getElem?_drop])
   (fun j hj=>by rw [hdl] at hj; rw [Nat.add_assoc]; exact hsome _ (by omega)) (fun j _=>hfz _) (frCells_one _)
 have hcp2:∀ ty dc,(Builtin.copy_ #[55,55] ty #[.slice (some ⟨b,o+i * 9,none⟩) (n+1 - i) dc,.slice (some ⟨vb,0,none⟩) 1 1]).run Tryz.prog W1=.ok (goInt 1) (W1.setCells b (o+i * 9) (f9L F)):=fun ty dc =>
  run_copy_frs W1 55 ty b (o+i * 9) _ dc ⟨vb,0,none⟩ 1 1 1 (f9L F) (by simp only [Nat.min_def]; split <;> omega) rfl
   (fun j v hj=>by
    rw [addr_add,cell_of_row _ _ _ _ _ _ (HK1.out.row hvb hne),List.getElem?_toArray,Nat.zero_add]
    exact hj)
   (fun j hj=>by rw [cell_of_row _ _ _ _ _ _ HR1.out,List.getElem?_toArray,List.getElem?_eq_getElem (by rw [hs1]; rw [f9L_length] at hj; omega)]; rfl) (fun j _=>frozen_of_row _ _ _ _ _ HR1.out) (f9_oneQ F)
 have hov:∀ lb cb,(callFunc 167 #[.slice (some ⟨vb,0,none⟩) 1 1,.slice (some ⟨b,o+(i+1) * 9,none⟩) lb cb]).run Tryz.prog w=.ok (.value (.bool false)) w:=fun lb cb=>by
  rw [run_callFunc_extern Tryz.func167 (by kernel_rfl) (by kernel_rfl) (by kernel_rfl) (e:=Extern.SlicesOverlaps.overlaps #[55,55] #[4]) (by kernel_rfl),
   Lib.run_overlaps_apart w 55 4 125 Tryz.underlying55 9 sizeFr ⟨vb,0,none⟩ ⟨b,o+(i+1) * 9,none⟩ 1 1 lb cb hne 125 125 9 cur.size (by unfold World.shape?; rw [show w.heap[(⟨vb,0,none⟩:Addr).block]? = _ from hvb]; rfl) (by unfold World.shape?; rw [show w.heap[(⟨b,o+(i+1) * 9,none⟩:Addr).block]? = _ from hb]) (by omega) (frozen_of_row _ _ _ _ _ hvb) (frozen_of_row _ _ _ _ _ hvb)]
  rfl
 have HF:Hid (OwnF (W1.setCells b (o+i * 9) (f9L F)) base (.slice (some ⟨b,o,none⟩) (n+1) c) (insL L i F)):=by
  have hfit2:o+i * 9+(f9L F).length≤CR.length:=by rw [hs1,f9L_length]; omega
  have hr:=row_setCells (f9L F) (o+i * 9) W1 _ HR1.out (by rw [List.size_toArray]; exact hfit2)
  have hil:(insL L i F).length=n+1:=by rw [insL_length L i F (by omega),hL]
  refine .inr ⟨b,o,c,_,by rw [hil],hbase,hr,by rw [hil]; exact hnc,hcm,?_,fun j hj=>?_⟩
  ·rw [List.size_toArray,List.length_append,List.length_append,List.length_take,List.length_drop,List.toList_toArray,hs1,f9L_length]; omega
  ·rw [hil] at hj
   rw [List.getElem?_toArray,List.toList_toArray,get_spliced _ _ _ _ hfit2,insL_get L i F (by omega),f9L_length]
   by_cases h1:j<i * 9
   ·rw [if_pos (by omega),if_pos h1,hCg,if_pos (by omega),Array.getElem?_toList,htk j (by omega)]
   ·rw [if_neg (by omega),if_neg h1]
    by_cases h2:j<i * 9+9
    ·rw [if_pos (by omega),if_pos h2,show o+j - (o+i * 9)=j - i * 9 by omega]
    ·rw [if_neg (by omega),if_neg h2,hCg,if_neg (by omega),if_pos (by omega),frCells_drop,List.getElem?_drop,show i * 9+(o+j - (o+(i+1) * 9))=j - 9 by omega]
 have hq1:¬ (c=i+1):=by omega
 have hq2:¬ (c=i):=by omega
 have hq3:i≤n+1:=by omega
 have hq4:i+1≤n+1:=by omega
 have hw1:IntKind.i64.wrap ((i:Int)+1)=(i:Int)+1:=by rw [IntKind.wrap_i64]; omega
 have hb1:(0:Int)≤(i:Int)+1:=by omega
 have htn:((i:Int)+1).toNat=i+1:=by omega
 have hb5:(i:Int)≤(n:Int):=by omega
 have hb6:(i:Int)≤(n:Int)+1:=by omega
 have HK2:Hid (Kept (In1 b) w (W1.setCells b (o+i * 9) (f9L F))):=HK1.out.trans (kept_setCells b _ _ _)
 clear hcell hsome hfz hb hvb htk hsz hLl hdl hs1 hmul hCR hCg hfit
 go_enter Tryz.func117,Tryz.ntmps117
 go_wp2_with (simp only [hov])
 go_region_law (refine step_copy_runF rfl _ _ 55 55 rfl _ _ (by simp [Act.eval,Act.put]) (by simp [Act.eval,Act.put]) (hcp1 _ _ _) ?_)
 go_wp2_with (at_builtin; refine wpList_copy_runF _ rfl _ _ 55 55 rfl _ _ rfl rfl (hcp2 _ _) ?_)
 go_ret
 exact ⟨rfl,HF.out,HK2.out⟩
theorem zeroC_size (k:Nat):(Builtin.zeroCells (frV 0 0 0 0 0 false 0 0 0).cells k).size=k * 9:=by rw [size_zeroCells]; rfl
theorem ins_grow (base b o n c i vb:Nat) (cur:Array Value) (L:List F9) (F:F9) (w:World) (hb:w.heap[b]? = some (.cells cur 125 (0,0))) (hbase:base≤w.heap.size) (hL:L.length=n) (hnc:n≤c) (hroom:c<n+1) (hbig:n≤1000000000000) (htk:∀ j,j<n * 9→cur[o+j]? = (frCells L)[j]?) (hi:i<n) (hvb:w.heap[vb]? = some (.cells (f9L F).toArray 125 (0,0))) :
  Calls Tryz.prog 117 #[.slice (some ⟨b,o,none⟩) n c,.int .i64 (i:Int),.slice (some ⟨vb,0,none⟩) 1 1] w fun e w'=>∃ G,e=.returned (.slice (some ⟨w.heap.size,0,none⟩) (n+1) G)∧w'.ownsRow base 125 9 (.slice (some ⟨w.heap.size,0,none⟩) (n+1) G) (n+1) (frCells (insL L i F))∧Below w.heap.size w w':=by
 obtain ⟨i0,hi0,hz0,hz1,hz2⟩:=info_parts Tryz.infoFq
 have hbw:=row_ltJ hb
 have hvw:=row_ltJ hvb
 have hcell:∀ x,x<n * 9→w.cell? ⟨b,o+x,none⟩=(frCells L)[x]?:=fun x hx=>by
  rw [cell_of_row _ _ _ _ _ _ hb,htk x hx]
 have hLl:=frCells_length L
 have hdl:(frCells (L.drop i)).length=(n - i) * 9:=by rw [frCells_length,List.length_drop,hL]
 have htl:(frCells (L.take i)).length=i * 9:=by rw [frCells_length,List.length_take,hL,Nat.min_eq_left (by omega)]
 have hkk:(n:Int)+1 - (i:Int)=((n+1 - i:Nat):Int):=by omega
 have hik:i+(n+1 - i)=n+1:=by omega
 have hold:(Builtin.firstCells i0.size i (.slice (some ⟨b,o,none⟩) i c)).run Tryz.prog w.drew=.ok (frCells (L.take i)).toArray w.drew:=by
  rw [hz1]
  exact run_firstCells_some w.drew 9 i ⟨b,o,none⟩ i c (frCells (L.take i)) htl (fun j v hj=>by
   have hjl:=(List.getElem?_eq_some_iff.1 hj).1
   rw [htl] at hjl
   rw [addr_add]
   show w.cell? ⟨b,o+j,none⟩=some v
   rw [hcell _ (by omega),← hj,frCells_take,List.getElem?_take_of_lt hjl])
 have hrz:∀ ty,(Builtin.append_ #[55,3] ty #[.slice (some ⟨b,o,none⟩) i c,.int .i64 ((n:Int)+1 - (i:Int))]).run Tryz.prog w =
   .ok (.slice (some ⟨w.heap.size,0,none⟩) (n+1) (grownCap w (n+1) c 125)) (w.drew.alloc (.cells ((frCells (L.take i)).toArray ++ Builtin.zeroCells (frV 0 0 0 0 0 false 0 0 0).cells (n+1 - i) ++ Builtin.zeroCells (frV 0 0 0 0 0 false 0 0 0).cells (grownCap w (n+1) c 125 - (n+1))) 125)):=fun ty=>by
  have h:=Lib.run_append_grow_zeros w 55 3 ty 125 i0 _ .i64 .i64 Tryz.underlying55 Tryz.underlying3 hi0 hz0 (some ⟨b,o,none⟩) i c (frCells (L.take i)) hold (n+1 - i) (by omega) (by rw [hz1]; omega) (by omega) (by omega) (by rw [hz2]; omega) (by rw [hz2,hik]; exact growslice_fits hroom (by omega))
  rw [hik] at h
  rw [hkk]
  exact h
 obtain ⟨G,hG⟩:∃ G,G=grownCap w (n+1) c 125:=⟨_,rfl⟩
 obtain ⟨ROW,hROW⟩:∃ ROW:Array Value,ROW=(frCells (L.take i)).toArray ++ Builtin.zeroCells (frV 0 0 0 0 0 false 0 0 0).cells (n+1 - i) ++ Builtin.zeroCells (frV 0 0 0 0 0 false 0 0 0).cells (G - (n+1)):=⟨_,rfl⟩
 rw [← hG] at hrz
 rw [← hROW] at hrz
 have hGn:n+1≤G:=by rw [hG]; exact grownCap_ge w _ _ _
 have hGm:G≤maxLen:=by rw [hG]; exact grownCap_le_maxLen w (n+1) c 125 (by unfold maxLen; omega)
 have hRl:ROW.size=G * 9:=by
  rw [hROW,Array.size_append,Array.size_append,zeroC_size,zeroC_size,List.size_toArray,htl]; omega
 have hRt:ROW.toList.take (i * 9)=frCells (L.take i):=by
  rw [hROW,Array.toList_append,Array.toList_append,List.append_assoc,List.toList_toArray,← htl]
  exact List.take_left
 obtain ⟨W1,hW1⟩:∃ W1,W1=w.drew.alloc (.cells ROW 125):=⟨_,rfl⟩
 rw [← hW1] at hrz
 have hr1:W1.heap[w.heap.size]? = some (.cells ROW 125 (0,0)):=by rw [hW1]; exact heap_alloc_new w.drew _
 have hv1:W1.heap[vb]? = some (.cells (f9L F).toArray 125 (0,0)):=by rw [hW1]; exact (Below.heap_alloc w.drew _ _ hvw).trans hvb
 have hb1':W1.heap[b]? = some (.cells cur 125 (0,0)):=by rw [hW1]; exact (Below.heap_alloc w.drew _ _ hbw).trans hb
 have hB1:Below w.heap.size w W1:=by rw [hW1]; exact (Below.refl _ _).drew.alloc (Nat.le_refl _) _
 have hr2:=row_setCells (f9L F) (i * 9) W1 ROW hr1 (by rw [hRl,f9L_length]; omega)
 have hk2:=kept_setCells w.heap.size (f9L F) (i * 9) W1
 obtain ⟨W2,hW2⟩:∃ W2,W2=W1.setCells w.heap.size (i * 9) (f9L F):=⟨_,rfl⟩
 rw [← hW2] at hr2 hk2
 have hs2:(ROW.toList.take (i * 9) ++ f9L F ++ ROW.toList.drop (i * 9+(f9L F).length)).length=G * 9:=by
  rw [List.length_append,List.length_append,List.length_take,List.length_drop,f9L_length,Array.length_toList,hRl]; omega
 have hb2':W2.heap[b]? = some (.cells cur 125 (0,0)):=hk2.row hb1' (fun e=>by have:b=w.heap.size:=e; omega)
 have hcpA:∀ ty dc,(Builtin.copy_ #[55,55] ty #[.slice (some ⟨w.heap.size,i * 9,none⟩) (n+1 - i) dc,.slice (some ⟨vb,0,none⟩) 1 1]).run Tryz.prog W1=.ok (goInt 1) W2:=fun ty dc=>by
  rw [hW2]
  exact run_copy_frs W1 55 ty w.heap.size (i * 9) (n+1 - i) dc ⟨vb,0,none⟩ 1 1 1 (f9L F) (by simp only [Nat.min_def]; split <;> omega) rfl
   (fun j v hj=>by rw [addr_add,cell_of_row _ _ _ _ _ _ hv1,List.getElem?_toArray,Nat.zero_add]; exact hj)
   (fun j hj=>by rw [f9L_length] at hj; rw [cell_of_row _ _ _ _ _ _ hr1,Array.getElem?_eq_getElem (by rw [hRl]; omega)]; rfl) (fun j _=>frozen_of_row _ _ _ _ _ hr1) (f9_oneQ F)
 have hcpB:∀ ty dc sc,(Builtin.copy_ #[55,55] ty #[.slice (some ⟨w.heap.size,(i+1) * 9,none⟩) (n - i) dc,.slice (some ⟨b,o+i * 9,none⟩) (n - i) sc]).run Tryz.prog W2.drew=.ok (goInt ((n - i:Nat):Int)) (W2.drew.setCells w.heap.size ((i+1) * 9) (frCells (L.drop i))):=fun ty dc sc =>
  run_copy_frs W2.drew 55 ty w.heap.size ((i+1) * 9) (n - i) dc ⟨b,o+i * 9,none⟩ (n - i) sc (n - i) (frCells (L.drop i)) (by simp only [Nat.min_def]; split <;> omega) hdl
   (fun j v hj=>by
    have hjl:=(List.getElem?_eq_some_iff.1 hj).1
    rw [hdl] at hjl
    rw [addr_add]
    show W2.cell? ⟨b,o+i * 9+j,none⟩=some v
    rw [cell_of_row _ _ _ _ _ _ hb2',← hj,frCells_drop,List.getElem?_drop,← htk _ (by omega),Nat.add_assoc])
   (fun j hj=>by
    rw [hdl] at hj
    show (W2.cell? _).isSome=true
    rw [cell_of_row _ _ _ _ _ _ hr2,List.getElem?_toArray,List.getElem?_eq_getElem (by rw [hs2]; omega)]; rfl) (fun j _=>frozen_of_row W2 _ _ _ _ hr2) (frCells_one _)
 have hr3:=row_setCells (frCells (L.drop i)) ((i+1) * 9) W2.drew _ (show W2.drew.heap[w.heap.size]? = _ from hr2) (by rw [List.size_toArray,hs2,hdl]; omega)
 have HK3:Hid (Below w.heap.size w (W2.drew.setCells w.heap.size ((i+1) * 9) (frCells (L.drop i)))):=by
  have h1:Kept (In1 w.heap.size) W1 (W2.drew.setCells w.heap.size ((i+1) * 9) (frCells (L.drop i))):=(hk2.trans (Kept.refl _ W2).drew).trans (kept_setCells w.heap.size _ _ _)
  exact h1.below hB1.size (fun x hx=>by rw [show x=w.heap.size from hx]; exact Nat.le_refl _) hB1
 have HF:Hid ((W2.drew.setCells w.heap.size ((i+1) * 9) (frCells (L.drop i))).ownsRow base 125 9 (.slice (some ⟨w.heap.size,0,none⟩) (n+1) G) (n+1) (frCells (insL L i F))):=by
  have hil:(insL L i F).length=n+1:=by unfold insL; rw [List.length_append,List.length_take,List.length_cons,List.length_drop,hL]; omega
  refine ⟨by rw [frCells_length,hil],.inr ⟨w.heap.size,G,_,rfl,hbase,hr3,hGn,hGm,?_,?_⟩⟩
  ·rw [List.size_toArray,List.length_append,List.length_append,List.length_take,List.length_drop,List.toList_toArray,hs2,hdl]; omega
  ·rw [List.toList_toArray,List.toList_toArray,insL_cells,hRt,← frCells_take,← frCells_drop]
   have hA:(frCells (L.take i) ++ f9L F ++ ROW.toList.drop (i * 9+(f9L F).length)).take ((i+1) * 9)=frCells (L.take i) ++ f9L F:=by
    rw [show (i+1) * 9=(frCells (L.take i) ++ f9L F).length by rw [List.length_append,htl,f9L_length]; omega]
    exact List.take_left
   rw [hA]
   have hlen:(frCells (L.take i) ++ f9L F ++ frCells (L.drop i)).length=(n+1) * 9:=by
    rw [List.length_append,List.length_append,htl,f9L_length,hdl]; omega
   rw [← hlen]
   exact List.take_left
 have hz3:(c:Int)<(n:Int)+1:=by omega
 have hGi:¬ (G=i):=by omega
 have hGim:¬ (G=i+1):=by omega
 have hci:¬ (c=i):=by omega
 have hw1:IntKind.i64.wrap ((i:Int)+1)=(i:Int)+1:=by rw [IntKind.wrap_i64]; omega
 have hb1:(0:Int)≤(i:Int)+1:=by omega
 have htn:((i:Int)+1).toNat=i+1:=by omega
 have hb5:(i:Int)≤(n:Int):=by omega
 have hb6:(i:Int)≤(n:Int)+1:=by omega
 have hG63:G≤9223372036854775807:=by unfold maxLen at hGm; omega
 have HW1:=hid hW1
 have hW2':=hW2.symm
 clear hcell hold hkk hik hROW hG hRl hRt hr1 hv1 hb1' hr2 hk2 hs2 hb2' hr3 hb hvb htk hLl hdl htl hB1 hW1 hW2 hGm
 go_enter Tryz.func117,Tryz.ntmps117
 go_wp2_with (first
  | (at_builtin; refine Lib.wpList_append_run _ rfl _ _ _ _ rfl _ _ rfl rfl _ _ (hrz _) ?_)
  | (at_builtin; refine wpList_copy_runF _ rfl _ _ 55 55 rfl _ _ rfl rfl (hcpA _ _) ?_))
 go_region_law (refine step_copy_runF rfl _ _ 55 55 rfl _ _ (by simp [Act.eval,Act.put]) (by simp [Act.eval,Act.put]) (hcpB _ _ _) ?_)
 go_wp2
 go_ret
 exact ⟨G,rfl,HF.out,HK3.out⟩
end Go.Proofs.YtaehdgemkafinaaGreatDoor
