/-
  On the way to SPlaysProof: UC UD RC RD.
-/
import Derived.Test.YtaehdgemkafinaaGreatDoorBw7
import Derived.Test.YtaehdgemkafinaaGreatDoorBw6
import Derived.Lib.Overlaps
import Derived.Lib.AppendZerosOnto
set_option maxHeartbeats 8000000
set_option maxRecDepth 100000
namespace Go.Proofs.YtaehdgemkafinaaGreatDoor
open Go.RowKit
def insL (L:List F9) (i:Nat) (F:F9):List F9:=L.take i ++ F :: L.drop i
theorem insL_cells (L:List F9) (i:Nat) (F:F9):frCells (insL L i F)=(frCells L).take (i * 9) ++ f9L F ++ (frCells L).drop (i * 9):=by
 unfold insL
 rw [frCells_append,frCells_cons,frCells_take,frCells_drop,List.append_assoc]
theorem insL_length (L:List F9) (i:Nat) (F:F9) (h:i≤L.length):(insL L i F).length=L.length+1:=by unfold insL; rw [List.length_append,List.length_take,List.length_cons,List.length_drop]; omega
theorem insL_get (L:List F9) (i:Nat) (F:F9) (h:i≤L.length) (j:Nat):(frCells (insL L i F))[j]? = if j<i * 9 then (frCells L)[j]? else if j<i * 9+9 then (f9L F)[j - i * 9]? else (frCells L)[j - 9]?:=by
 have hl:((frCells L).take (i * 9)).length=i * 9:=by rw [List.length_take,frCells_length]; omega
 rw [insL_cells]
 by_cases h1:j<i * 9
 ·rw [if_pos h1,List.append_assoc,List.getElem?_append_left (by omega),List.getElem?_take_of_lt h1]
 ·rw [if_neg h1]
  by_cases h2:j<i * 9+9
  ·rw [if_pos h2,List.append_assoc,List.getElem?_append_right (by omega),hl,List.getElem?_append_left (by rw [f9L_length]; omega)]
  ·rw [if_neg h2,List.getElem?_append_right (by rw [List.length_append,hl,f9L_length]; omega),List.length_append,hl,f9L_length,List.getElem?_drop]
   congr 1
   omega
theorem ins_room (base b o n c i vb:Nat) (cur:Array Value) (L:List F9) (F:F9) (w:World) (hb:w.heap[b]? = some (.cells cur 125 (0,0))) (hbase:base≤b) (hL:L.length=n) (hnc:n+1≤c) (hcm:c≤maxLen) (hsz:o+c * 9≤cur.size) (htk:∀ j,j<n * 9→cur[o+j]? = (frCells L)[j]?) (hi:i<n) (hvb:w.heap[vb]? = some (.cells (f9L F).toArray 125 (0,0))) (hne:vb≠b) :
  Calls Tryz.prog 117 #[.slice (some ⟨b,o,none⟩) n c,.int .i64 (i:Int),.slice (some ⟨vb,0,none⟩) 1 1] w fun e w'=>e=.returned (.slice (some ⟨b,o,none⟩) (n+1) c)∧OwnF w' base (.slice (some ⟨b,o,none⟩) (n+1) c) (insL L i F)∧Kept (In1 b) w w':=by
 have h63:c≤9223372036854775807:=by unfold maxLen at hcm; omega
 have hmul:(n+1) * 9≤c * 9:=Nat.mul_le_mul_right 9 hnc
 have hcell:∀ x,x<n * 9→w.cell? ⟨b,o+x,none⟩=(frCells L)[x]?:=fun x hx=>by
  rw [cell_of_row _ _ _ _ _ _ hb,htk x hx]
 have hsome:∀ x,x<c * 9→(w.cell? ⟨b,o+x,none⟩).isSome=true:=fun x hx=>by
  rw [cell_of_row _ _ _ _ _ _ hb,Array.getElem?_eq_getElem (by omega)]; rfl
 have hfz:∀ x,w.frozen? ⟨b,x,none⟩=false:=fun x=>frozen_of_row _ _ _ _ _ hb
 have hLl:=frCells_length L
 have hdl:(frCells (L.drop i)).length=(n - i) * 9:=by rw [frCells_length,List.length_drop,hL]
 obtain ⟨W1,HW1⟩:∃ W1,Hid (w.drew.setCells b (o+(i+1) * 9) (frCells (L.drop i))=W1):=⟨_,rfl⟩
 have hfit:o+(i+1) * 9+(frCells (L.drop i)).length≤cur.size:=by rw [hdl]; omega
 obtain ⟨CR,hCR⟩:∃ CR,CR=(cur.toList.take (o+(i+1) * 9) ++ frCells (L.drop i) ++ cur.toList.drop (o+(i+1) * 9+(frCells (L.drop i)).length)):=⟨_,rfl⟩
 have HR1:Hid (W1.heap[b]? = some (.cells CR.toArray 125 (0,0))):=by
  rw [← HW1.out,hCR]; exact row_setCells _ _ w.drew cur hb hfit
 have hCg:∀ k,CR[k]? = if k<o+(i+1) * 9 then cur.toList[k]? else if k<o+(i+1) * 9+(frCells (L.drop i)).length then (frCells (L.drop i))[k - (o+(i+1) * 9)]? else cur.toList[k]?:=fun k=>by
  rw [hCR]; exact get_spliced _ _ _ _ (by rw [Array.length_toList (xs:=cur)]; exact hfit)
 have HK1:Hid (Kept (In1 b) w W1):=by rw [← HW1.out]; exact (Kept.refl _ w).drew.trans (kept_setCells b _ _ _)
 have hs1:CR.length=cur.size:=by
  rw [hCR,List.length_append,List.length_append,List.length_take,List.length_drop,hdl,Array.length_toList (xs:=cur)]; omega
 have hcp1:∀ ty dc sc,(Builtin.copy_ #[55,55] ty #[.slice (some ⟨b,o+(i+1) * 9,none⟩) (n - i) dc,.slice (some ⟨b,o+i * 9,none⟩) (n+1 - i) sc]).run Tryz.prog w.drew=.ok (goInt ((n - i:Nat):Int)) W1:=fun ty dc sc=>by
  rw [← HW1.out]
  exact run_copy_frs w.drew 55 ty b (o+(i+1) * 9) (n - i) dc ⟨b,o+i * 9,none⟩ (n+1 - i) sc (n - i) (frCells (L.drop i)) (by simp only [Nat.min_def]; split <;> omega) hdl
   (fun j v hj=>by
    have hjl:=(List.getElem?_eq_some_iff.1 hj).1
    rw [hdl] at hjl
    rw [addr_add]
    show w.cell? ⟨b,o+i * 9+j,none⟩=some v
    rw [Nat.add_assoc,hcell _ (by omega),← hj,frCells_drop,List.getElem?_drop])
   (fun j hj=>by rw [hdl] at hj; rw [Nat.add_assoc]; exact hsome _ (by omega)) (fun j _=>hfz _) (frCells_one _)
 have hcp2:∀ ty dc,(Builtin.copy_ #[55,55] ty #[.slice (some ⟨b,o+i * 9,none⟩) (n+1 - i) dc,.slice (some ⟨vb,0,none⟩) 1 1]).run Tryz.prog W1=.ok (goInt 1) (W1.setCells b (o+i * 9) (f9L F)):=fun ty dc =>
  run_copy_frs W1 55 ty b (o+i * 9) _ dc ⟨vb,0,none⟩ 1 1 1 (f9L F) (by simp only [Nat.min_def]; split <;> omega) rfl
   (fun j v hj=>by
    rw [addr_add,cell_of_row _ _ _ _ _ _ (HK1.out.row hvb hne),List.getElem?_toArray,Nat.zero_add]
    exact hj)
   (fun j hj=>by rw [cell_of_row _ _ _ _ _ _ HR1.out,List.getElem?_toArray,List.getElem?_eq_getElem (by rw [hs1]; rw [f9L_length] at hj; omega)]; rfl) (fun j _=>frozen_of_row _ _ _ _ _ HR1.out) (f9_oneQ F)
 have hov:∀ lb cb,(callFunc 167 #[.slice (some ⟨vb,0,none⟩) 1 1,.slice (some ⟨b,o+(i+1) * 9,none⟩) lb cb]).run Tryz.prog w=.ok (.value (.bool false)) w:=fun lb cb=>by
  rw [run_callFunc_extern Tryz.func167 (by kernel_rfl) (by kernel_rfl) (by kernel_rfl) (e:=Extern.SlicesOverlaps.overlaps #[55,55] #[4]) (by kernel_rfl),
   Lib.run_overlaps_apart w 55 4 125 Tryz.underlying55 9 sizeFr ⟨vb,0,none⟩ ⟨b,o+(i+1) * 9,none⟩ 1 1 lb cb hne 125 125 9 cur.size (by unfold World.shape?; rw [show w.heap[(⟨vb,0,none⟩:Addr).block]? = _ from hvb]; rfl) (by unfold World.shape?; rw [show w.heap[(⟨b,o+(i+1) * 9,none⟩:Addr).block]? = _ from hb]) (by omega) (frozen_of_row _ _ _ _ _ hvb) (frozen_of_row _ _ _ _ _ hvb)]
  rfl
 have HF:Hid (OwnF (W1.setCells b (o+i * 9) (f9L F)) base (.slice (some ⟨b,o,none⟩) (n+1) c) (insL L i F)):=by
  have hfit2:o+i * 9+(f9L F).length≤CR.length:=by rw [hs1,f9L_length]; omega
  have hr:=row_setCells (f9L F) (o+i * 9) W1 _ HR1.out (by rw [List.size_toArray]; exact hfit2)
  have hil:(insL L i F).length=n+1:=by rw [insL_length L i F (by omega),hL]
  refine .inr ⟨b,o,c,_,by rw [hil],hbase,hr,by rw [hil]; exact hnc,hcm,?_,fun j hj=>?_⟩
  ·rw [List.size_toArray,List.length_append,List.length_append,List.length_take,List.length_drop,List.toList_toArray,hs1,f9L_length]; omega
  ·rw [hil] at hj
   rw [List.getElem?_toArray,List.toList_toArray,get_spliced _ _ _ _ hfit2,insL_get L i F (by omega),f9L_length]
   by_cases h1:j<i * 9
   ·rw [if_pos (by omega),if_pos h1,hCg,if_pos (by omega),Array.getElem?_toList,htk j (by omega)]
   ·rw [if_neg (by omega),if_neg h1]
    by_cases h2:j<i * 9+9
    ·rw [if_pos (by omega),if_pos h2,show o+j - (o+i * 9)=j - i * 9 by omega]
    ·rw [if_neg (by omega),if_neg h2,hCg,if_neg (by omega),if_pos (by omega),frCells_drop,List.getElem?_drop,show i * 9+(o+j - (o+(i+1) * 9))=j - 9 by omega]
 have hq1:¬ (c=i+1):=by omega
 have hq2:¬ (c=i):=by omega
 have hq3:i≤n+1:=by omega
 have hq4:i+1≤n+1:=by omega
 have hw1:IntKind.i64.wrap ((i:Int)+1)=(i:Int)+1:=by rw [IntKind.wrap_i64]; omega
 have hb1:(0:Int)≤(i:Int)+1:=by omega
 have htn:((i:Int)+1).toNat=i+1:=by omega
 have hb5:(i:Int)≤(n:Int):=by omega
 have hb6:(i:Int)≤(n:Int)+1:=by omega
 have HK2:Hid (Kept (In1 b) w (W1.setCells b (o+i * 9) (f9L F))):=HK1.out.trans (kept_setCells b _ _ _)
 clear hcell hsome hfz hb hvb htk hsz hLl hdl hs1 hmul hCR hCg hfit
 go_enter Tryz.func117,Tryz.ntmps117
 go_wp2_with (simp only [hov])
 go_region_law (refine step_copy_runF rfl _ _ 55 55 rfl _ _ (by simp [Act.eval,Act.put]) (by simp [Act.eval,Act.put]) (hcp1 _ _ _) ?_)
 go_wp2_with (at_builtin; refine wpList_copy_runF _ rfl _ _ 55 55 rfl _ _ rfl rfl (hcp2 _ _) ?_)
 go_ret
 exact ⟨rfl,HF.out,HK2.out⟩
theorem zeroC_size (k:Nat):(Builtin.zeroCells (frV 0 0 0 0 0 false 0 0 0).cells k).size=k * 9:=by rw [size_zeroCells]; rfl
theorem ins_grow (base b o n c i vb:Nat) (cur:Array Value) (L:List F9) (F:F9) (w:World) (hb:w.heap[b]? = some (.cells cur 125 (0,0))) (hbase:base≤w.heap.size) (hL:L.length=n) (hnc:n≤c) (hroom:c<n+1) (hbig:n≤1000000000000) (htk:∀ j,j<n * 9→cur[o+j]? = (frCells L)[j]?) (hi:i<n) (hvb:w.heap[vb]? = some (.cells (f9L F).toArray 125 (0,0))) :
  Calls Tryz.prog 117 #[.slice (some ⟨b,o,none⟩) n c,.int .i64 (i:Int),.slice (some ⟨vb,0,none⟩) 1 1] w fun e w'=>∃ G,e=.returned (.slice (some ⟨w.heap.size,0,none⟩) (n+1) G)∧w'.ownsRow base 125 9 (.slice (some ⟨w.heap.size,0,none⟩) (n+1) G) (n+1) (frCells (insL L i F))∧Below w.heap.size w w':=by
 obtain ⟨i0,hi0,hz0,hz1,hz2⟩:=info_parts Tryz.infoFq
 have hbw:=row_ltJ hb
 have hvw:=row_ltJ hvb
 have hcell:∀ x,x<n * 9→w.cell? ⟨b,o+x,none⟩=(frCells L)[x]?:=fun x hx=>by
  rw [cell_of_row _ _ _ _ _ _ hb,htk x hx]
 have hLl:=frCells_length L
 have hdl:(frCells (L.drop i)).length=(n - i) * 9:=by rw [frCells_length,List.length_drop,hL]
 have htl:(frCells (L.take i)).length=i * 9:=by rw [frCells_length,List.length_take,hL,Nat.min_eq_left (by omega)]
 have hkk:(n:Int)+1 - (i:Int)=((n+1 - i:Nat):Int):=by omega
 have hik:i+(n+1 - i)=n+1:=by omega
 have hold:(Builtin.firstCells i0.size i (.slice (some ⟨b,o,none⟩) i c)).run Tryz.prog w.drew=.ok (frCells (L.take i)).toArray w.drew:=by
  rw [hz1]
  exact run_firstCells_some w.drew 9 i ⟨b,o,none⟩ i c (frCells (L.take i)) htl (fun j v hj=>by
   have hjl:=(List.getElem?_eq_some_iff.1 hj).1
   rw [htl] at hjl
   rw [addr_add]
   show w.cell? ⟨b,o+j,none⟩=some v
   rw [hcell _ (by omega),← hj,frCells_take,List.getElem?_take_of_lt hjl])
 have hrz:∀ ty,(Builtin.append_ #[55,3] ty #[.slice (some ⟨b,o,none⟩) i c,.int .i64 ((n:Int)+1 - (i:Int))]).run Tryz.prog w =
   .ok (.slice (some ⟨w.heap.size,0,none⟩) (n+1) (grownCap w (n+1) c 125)) (w.drew.alloc (.cells ((frCells (L.take i)).toArray ++ Builtin.zeroCells (frV 0 0 0 0 0 false 0 0 0).cells (n+1 - i) ++ Builtin.zeroCells (frV 0 0 0 0 0 false 0 0 0).cells (grownCap w (n+1) c 125 - (n+1))) 125)):=fun ty=>by
  have h:=Lib.run_append_grow_zeros w 55 3 ty 125 i0 _ .i64 .i64 Tryz.underlying55 Tryz.underlying3 hi0 hz0 (some ⟨b,o,none⟩) i c (frCells (L.take i)) hold (n+1 - i) (by omega) (by rw [hz1]; omega) (by omega) (by omega) (by rw [hz2]; omega) (by rw [hz2,hik]; exact growslice_fits hroom (by omega))
  rw [hik] at h
  rw [hkk]
  exact h
 obtain ⟨G,hG⟩:∃ G,G=grownCap w (n+1) c 125:=⟨_,rfl⟩
 obtain ⟨ROW,hROW⟩:∃ ROW:Array Value,ROW=(frCells (L.take i)).toArray ++ Builtin.zeroCells (frV 0 0 0 0 0 false 0 0 0).cells (n+1 - i) ++ Builtin.zeroCells (frV 0 0 0 0 0 false 0 0 0).cells (G - (n+1)):=⟨_,rfl⟩
 rw [← hG] at hrz
 rw [← hROW] at hrz
 have hGn:n+1≤G:=by rw [hG]; exact grownCap_ge w _ _ _
 have hGm:G≤maxLen:=by rw [hG]; exact grownCap_le_maxLen w (n+1) c 125 (by unfold maxLen; omega)
 have hRl:ROW.size=G * 9:=by
  rw [hROW,Array.size_append,Array.size_append,zeroC_size,zeroC_size,List.size_toArray,htl]; omega
 have hRt:ROW.toList.take (i * 9)=frCells (L.take i):=by
  rw [hROW,Array.toList_append,Array.toList_append,List.append_assoc,List.toList_toArray,← htl]
  exact List.take_left
 obtain ⟨W1,hW1⟩:∃ W1,W1=w.drew.alloc (.cells ROW 125):=⟨_,rfl⟩
 rw [← hW1] at hrz
 have hr1:W1.heap[w.heap.size]? = some (.cells ROW 125 (0,0)):=by rw [hW1]; exact heap_alloc_new w.drew _
 have hv1:W1.heap[vb]? = some (.cells (f9L F).toArray 125 (0,0)):=by rw [hW1]; exact (Below.heap_alloc w.drew _ _ hvw).trans hvb
 have hb1':W1.heap[b]? = some (.cells cur 125 (0,0)):=by rw [hW1]; exact (Below.heap_alloc w.drew _ _ hbw).trans hb
 have hB1:Below w.heap.size w W1:=by rw [hW1]; exact (Below.refl _ _).drew.alloc (Nat.le_refl _) _
 have hr2:=row_setCells (f9L F) (i * 9) W1 ROW hr1 (by rw [hRl,f9L_length]; omega)
 have hk2:=kept_setCells w.heap.size (f9L F) (i * 9) W1
 obtain ⟨W2,hW2⟩:∃ W2,W2=W1.setCells w.heap.size (i * 9) (f9L F):=⟨_,rfl⟩
 rw [← hW2] at hr2 hk2
 have hs2:(ROW.toList.take (i * 9) ++ f9L F ++ ROW.toList.drop (i * 9+(f9L F).length)).length=G * 9:=by
  rw [List.length_append,List.length_append,List.length_take,List.length_drop,f9L_length,Array.length_toList,hRl]; omega
 have hb2':W2.heap[b]? = some (.cells cur 125 (0,0)):=hk2.row hb1' (fun e=>by have:b=w.heap.size:=e; omega)
 have hcpA:∀ ty dc,(Builtin.copy_ #[55,55] ty #[.slice (some ⟨w.heap.size,i * 9,none⟩) (n+1 - i) dc,.slice (some ⟨vb,0,none⟩) 1 1]).run Tryz.prog W1=.ok (goInt 1) W2:=fun ty dc=>by
  rw [hW2]
  exact run_copy_frs W1 55 ty w.heap.size (i * 9) (n+1 - i) dc ⟨vb,0,none⟩ 1 1 1 (f9L F) (by simp only [Nat.min_def]; split <;> omega) rfl
   (fun j v hj=>by rw [addr_add,cell_of_row _ _ _ _ _ _ hv1,List.getElem?_toArray,Nat.zero_add]; exact hj)
   (fun j hj=>by rw [f9L_length] at hj; rw [cell_of_row _ _ _ _ _ _ hr1,Array.getElem?_eq_getElem (by rw [hRl]; omega)]; rfl) (fun j _=>frozen_of_row _ _ _ _ _ hr1) (f9_oneQ F)
 have hcpB:∀ ty dc sc,(Builtin.copy_ #[55,55] ty #[.slice (some ⟨w.heap.size,(i+1) * 9,none⟩) (n - i) dc,.slice (some ⟨b,o+i * 9,none⟩) (n - i) sc]).run Tryz.prog W2.drew=.ok (goInt ((n - i:Nat):Int)) (W2.drew.setCells w.heap.size ((i+1) * 9) (frCells (L.drop i))):=fun ty dc sc =>
  run_copy_frs W2.drew 55 ty w.heap.size ((i+1) * 9) (n - i) dc ⟨b,o+i * 9,none⟩ (n - i) sc (n - i) (frCells (L.drop i)) (by simp only [Nat.min_def]; split <;> omega) hdl
   (fun j v hj=>by
    have hjl:=(List.getElem?_eq_some_iff.1 hj).1
    rw [hdl] at hjl
    rw [addr_add]
    show W2.cell? ⟨b,o+i * 9+j,none⟩=some v
    rw [cell_of_row _ _ _ _ _ _ hb2',← hj,frCells_drop,List.getElem?_drop,← htk _ (by omega),Nat.add_assoc])
   (fun j hj=>by
    rw [hdl] at hj
    show (W2.cell? _).isSome=true
    rw [cell_of_row _ _ _ _ _ _ hr2,List.getElem?_toArray,List.getElem?_eq_getElem (by rw [hs2]; omega)]; rfl) (fun j _=>frozen_of_row W2 _ _ _ _ hr2) (frCells_one _)
 have hr3:=row_setCells (frCells (L.drop i)) ((i+1) * 9) W2.drew _ (show W2.drew.heap[w.heap.size]? = _ from hr2) (by rw [List.size_toArray,hs2,hdl]; omega)
 have HK3:Hid (Below w.heap.size w (W2.drew.setCells w.heap.size ((i+1) * 9) (frCells (L.drop i)))):=by
  have h1:Kept (In1 w.heap.size) W1 (W2.drew.setCells w.heap.size ((i+1) * 9) (frCells (L.drop i))):=(hk2.trans (Kept.refl _ W2).drew).trans (kept_setCells w.heap.size _ _ _)
  exact h1.below hB1.size (fun x hx=>by rw [show x=w.heap.size from hx]; exact Nat.le_refl _) hB1
 have HF:Hid ((W2.drew.setCells w.heap.size ((i+1) * 9) (frCells (L.drop i))).ownsRow base 125 9 (.slice (some ⟨w.heap.size,0,none⟩) (n+1) G) (n+1) (frCells (insL L i F))):=by
  have hil:(insL L i F).length=n+1:=by unfold insL; rw [List.length_append,List.length_take,List.length_cons,List.length_drop,hL]; omega
  refine ⟨by rw [frCells_length,hil],.inr ⟨w.heap.size,G,_,rfl,hbase,hr3,hGn,hGm,?_,?_⟩⟩
  ·rw [List.size_toArray,List.length_append,List.length_append,List.length_take,List.length_drop,List.toList_toArray,hs2,hdl]; omega
  ·rw [List.toList_toArray,List.toList_toArray,insL_cells,hRt,← frCells_take,← frCells_drop]
   have hA:(frCells (L.take i) ++ f9L F ++ ROW.toList.drop (i * 9+(f9L F).length)).take ((i+1) * 9)=frCells (L.take i) ++ f9L F:=by
    rw [show (i+1) * 9=(frCells (L.take i) ++ f9L F).length by rw [List.length_append,htl,f9L_length]; omega]
    exact List.take_left
   rw [hA]
   have hlen:(frCells (L.take i) ++ f9L F ++ frCells (L.drop i)).length=(n+1) * 9:=by
    rw [List.length_append,List.length_append,htl,f9L_length,hdl]; omega
   rw [← hlen]
   exact List.take_left
 have hz3:(c:Int)<(n:Int)+1:=by omega
 have hGi:¬ (G=i):=by omega
 have hGim:¬ (G=i+1):=by omega
 have hci:¬ (c=i):=by omega
 have hw1:IntKind.i64.wrap ((i:Int)+1)=(i:Int)+1:=by rw [IntKind.wrap_i64]; omega
 have hb1:(0:Int)≤(i:Int)+1:=by omega
 have htn:((i:Int)+1).toNat=i+1:=by omega
 have hb5:(i:Int)≤(n:Int):=by omega
 have hb6:(i:Int)≤(n:Int)+1:=by omega
 have hG63:G≤9223372036854775807:=by unfold maxLen at hGm; omega
 have HW1:=hid hW1
 have hW2':=hW2.symm
 clear hcell hold hkk hik hROW hG hRl hRt hr1 hv1 hb1' hr2 hk2 hs2 hb2' hr3 hb hvb htk hLl hdl htl hB1 hW1 hW2 hGm
 go_enter Tryz.func117,Tryz.ntmps117
 go_wp2_with (first
  | (at_builtin; refine Lib.wpList_append_run _ rfl _ _ _ _ rfl _ _ rfl rfl _ _ (hrz _) ?_)
  | (at_builtin; refine wpList_copy_runF _ rfl _ _ 55 55 rfl _ _ rfl rfl (hcpA _ _) ?_))
 go_region_law (refine step_copy_runF rfl _ _ 55 55 rfl _ _ (by simp [Act.eval,Act.put]) (by simp [Act.eval,Act.put]) (hcpB _ _ _) ?_)
 go_wp2
 go_ret
 exact ⟨G,rfl,HF.out,HK3.out⟩
def endAt:Nat→Nat
 | 0=>0
 | 1=>4
 | 2=>5
 | 3=>9
 | _=>13
theorem endAt_le (i:Nat):endAt i≤endAt (i+1)∧endAt (i+1)≤13:=by
 match i with
 | 0=>decide
 | 1=>decide
 | 2=>decide
 | 3=>decide
 | _+4=>exact ⟨Nat.le_refl _,Nat.le_refl _⟩
def valAt (t:List UInt8) (i:Nat):Nat:=numL ((t.drop (endAt i)).take (endAt (i+1) - endAt i))
theorem four_i {i:Nat} (h:i<4):i=0 ∨ i=1 ∨ i=2 ∨ i=3:=by omega
theorem endsCell {w:World} {b:Nat} (h:w.heap[b]? = some (.cells #[.int .i64 4,.int .i64 5,.int .i64 9,.int .i64 13] 3 (0,0))) {i:Nat} (hi:i<4):w.cell? ⟨b,i,none⟩=some (.int .i64 (endAt (i+1):Nat)):=by
 rw [cell_of_row _ _ _ _ _ _ h]
 rcases four_i hi with rfl|rfl|rfl|rfl <;> rfl
theorem num_step (t:List UInt8) (o a:Nat) (h:o+a<t.length):numL ((t.drop o).take (a+1))=256 * numL ((t.drop o).take a)+(t[o+a]'h).toNat:=by
 rw [List.take_add_one,List.getElem?_drop,List.getElem?_eq_getElem h]
 exact numL_snoc _ _
theorem num_lt (t:List UInt8) (o a:Nat) (h:a≤4):numL ((t.drop o).take a)<4294967296:=by
 have h1:=numL_lt ((t.drop o).take a)
 have h2:256 ^ ((t.drop o).take a).length≤256 ^ 4:=Nat.pow_le_pow_right (by decide) (by simp; omega)
 have h3:(256:Nat) ^ 4=4294967296:=by decide
 omega
theorem endAt_4 (i:Nat) (h:i<4):endAt (i+1) - endAt i≤4:=by
 rcases four_i h with rfl|rfl|rfl|rfl <;> decide
theorem valAt_eq (t:List UInt8):valAt t 0=readN t∧valAt t 1=(readS t).ph∧valAt t 2=(readS t).pr∧valAt t 3=(readS t).at_:=⟨rfl,rfl,rfl,rfl⟩
def valsTo (t:List UInt8) (i:Nat):List Value:=(List.range i).map fun k=>.int .i64 (valAt t k:Nat)
theorem valsTo_succ (t:List UInt8) (i:Nat):valsTo t (i+1)=valsTo t i ++ [.int .i64 (valAt t i:Nat)]:=by simp [valsTo,List.range_succ]
theorem Tryz.infoI:(Tryz.prog.info? 3).map (fun i=>(i.zero,i.size,i.bytes))=some (some (.int .i64 0),1,8):=by kernel_rfl
theorem results_row3 {P:Program} {fn:Func} {p u:Tmp} {ty:TypeId} (h:fn.results=#[.tmp u,.cell p ty]) (tmps:Array Value) (w:World) (g:Nat) (t:TypeId) (cs:Array Value) (fr:Nat×Nat) (d:TypeDesc)
  (hp:tmps.getD p undef=.pointer (some ⟨g,0,none⟩)) (hg:w.heap[g]? = some (.cells cs t fr))
  (hu:P.underlying ty=some d) (hd:(match d with|.struct _|.array _ _=>true|_=>false)=true) (hi:(P.info? ty).map (·.size)=some cs.size) :
  (results fn tmps).run P w=.ok (.tuple #[tmps.getD u undef,.agg cs]) w:=by
 have hp':tmps[p]?.getD undef=.pointer (some ⟨g,0,none⟩):=by simpa using hp
 simp [results,h,hp',asAddr,run_loadVar_row w g t ty cs fr d hg hu hd hi]
theorem sizeStR:(Tryz.prog.info? 80).map (·.size)=some 3:=by kernel_rfl
theorem set3R {w:World} {g:Nat} {a b c:Value} {t:TypeId} (h:w.heap[g]? = some (.cells #[a,b,c] t (0,0))) (x0 x1 x2:Value) :
  (((w.setCell ⟨g,0,none⟩ x0).setCell ⟨g,1,none⟩ x1).setCell ⟨g,2,none⟩ x2).heap[g]? = some (.cells #[x0,x1,x2] t (0,0)):=by
 have h0:=heap_setCell_same w g 0 _ _ x0 h
 have h1:=heap_setCell_same _ g 1 _ _ x1 h0
 exact heap_setCell_same _ g 2 _ _ x2 h1
theorem body_is (n h1 h2 h3:Nat) (s:ByteArray) (w:World) (hn:n<4294967296) (b1:h1<256) (b2:h2<4294967296) (b3:h3<4294967296) (hs:bA (bodyL n ⟨h1,h2,h3⟩)=s) :
  Calls Tryz.prog 185 #[.int .i64 (n:Int),.agg #[.int .i64 (h1:Int),.int .i64 (h2:Int),.int .i64 (h3:Int)]] w fun e w'=>e=.returned (.string s)∧Below w.heap.size w w':=by
 rw [← hs]; exact body_any n h1 h2 h3 w hn b1 b2 b3
theorem byte165 (w:World):Calls Tryz.prog 143 #[.int .i64 165] w fun e w'=>e=.returned (.string (bA [165]))∧Below w.heap.size w w':=byte_any 165 w (by omega)
theorem rheld_any (B:ByteArray) (k:Nat) (w:World) (hB:B.size≤1000) (hk:18 * (k+1)≤B.size) :
  Calls Tryz.prog 152 #[.string B,.int .i64 (k:Int)] w fun e w'=>e=.returned (.tuple #[.int .i64 ((heldL k (slotL B.data.toList k)).1:Nat),.agg #[.int .i64 ((heldL k (slotL B.data.toList k)).2.ph:Nat),.int .i64 ((heldL k (slotL B.data.toList k)).2.pr:Nat),.int .i64 ((heldL k (slotL B.data.toList k)).2.at_:Nat)]])∧Below w.heap.size w w':=by
 obtain ⟨i0,hi,hz0,hz1,hz2⟩:=info_parts Tryz.infoI
 have hsl:=slice_mid B (k * 18) ((k+1) * 18) ((k:Int) * 18) (((k:Int)+1) * 18) (by omega) (by omega) (by omega) (by omega)
 obtain ⟨tt,Htt⟩:∃ t,Hid (B.extract (k * 18) ((k+1) * 18)=t):=⟨_,rfl⟩
 rw [Htt.out] at hsl
 obtain ⟨t,HTl⟩:∃ l,Hid (slotL B.data.toList k=l):=⟨_,rfl⟩
 have HL:Hid (tt.data.toList=t):=by
  unfold Hid
  rw [← Htt.out,← HTl.out,ext_list]; unfold slotL
  rw [Nat.mul_comm k 18,show (k+1) * 18 - 18 * k=18 by omega]
 have h18:t.length=18:=by rw [← HTl.out]; exact slotL_length (by rw [← size_list]; exact hk)
 have hts:tt.size=18:=by rw [size_list,HL.out]; exact h18
 rw [HTl.out]
 obtain ⟨⟨o1,p1,p2,p3⟩,HOut⟩:∃ x,Hid (heldL k t=x):=⟨_,rfl⟩
 rw [HOut.out]
 obtain ⟨n,HN⟩:∃ n,Hid (readN t=n):=⟨_,rfl⟩
 obtain ⟨⟨r1,r2,r3⟩,HRS⟩:∃ x,Hid (readS t=x):=⟨_,rfl⟩
 have HDef:Hid ((if 1≤n∧n % 2=k % 2∧bodyL n ⟨r1,r2,r3⟩ ++ [165]=t then (n,(⟨r1,r2,r3⟩:St)) else (0,St.zero))=(o1,⟨p1,p2,p3⟩)):=by
  unfold Hid; rw [← HOut.out]; unfold heldL; rw [HN.out,HRS.out]
 have hnl:n<4294967296:=by rw [← HN.out]; exact readN_lt t
 have HFt:Hid ((⟨r1,r2,r3⟩:St).fits):=by rw [← HRS.out]; exact readS_fits t
 obtain ⟨X0,HX0⟩:∃ X,Hid (w.alloc (.cells #[.int .i64 0,.int .i64 0,.int .i64 0] 80)=X):=⟨_,rfl⟩
 have hX0:=HX0.out
 obtain ⟨X,HX⟩:∃ X,Hid (X0.alloc (.cells #[.int .i64 4,.int .i64 5,.int .i64 9,.int .i64 13] 3)=X):=⟨_,rfl⟩
 have hX:=HX.out
 obtain ⟨eb,Heb⟩:∃ n,Hid (X0.heap.size=n):=⟨_,rfl⟩
 have heb:=Heb.out
 have he1:eb=w.heap.size+1:=by rw [← Heb.out,← HX0.out]; simp
 have RE:Hid (X.heap[eb]? = some (.cells #[.int .i64 4,.int .i64 5,.int .i64 9,.int .i64 13] 3 (0,0))):=by rw [← HX.out,← Heb.out]; exact heap_alloc_new X0 _
 have RR:Hid (X.heap[w.heap.size]? = some (.cells #[.int .i64 0,.int .i64 0,.int .i64 0] 80 (0,0))):=by rw [← HX.out,Below.heap_alloc _ _ _ (by omega),← HX0.out]; exact heap_alloc_new w _
 have HBX:Hid (Below w.heap.size w X):=by rw [← HX.out,← HX0.out]; exact ((Below.refl _ _).alloc (Nat.le_refl _) _).alloc (by simp) _
 have hXs:X.heap.size=eb+1:=by rw [← HX.out]; simp [Heb.out]
 subst he1
 go_enter Tryz.func152,Tryz.ntmps152
 go_wp2_with fail
 go_loopw [7,9,10] (fun v a i wr=>∃ m:Nat,m≤4∧i=.int .i64 (m:Int)∧a=.int .i64 (endAt m:Nat)∧wr.ownsRow (w.heap.size+1+1) 3 1 v m (valsTo t m)∧Below (w.heap.size+1+1) X wr) (fun _ _ i _=>4 - (intOf i).toNat)
 case atStart=>exact ⟨0,by omega,rfl,rfl,World.ownsRow_nil _ _ _ _,Below.refl _ _⟩
 case round =>
  obtain ⟨m,hm,rfl,rfl,hown,hbl⟩:=hrel
  have HO:=hid hown
  have HB:=hid hbl
  have REr:=hid ((hbl.block (w.heap.size+1) (by omega)).trans RE.out)
  have hsz:w.heap.size+1+1≤wr.heap.size:=by have:=hbl.size; omega
  clear hown hbl
  by_cases hlt:m<4
  ·have hce:=endsCell REr.out hlt
   obtain ⟨hl1,hl2⟩:=endAt_le m
   have h4:=endAt_4 m hlt
   have HV:Hid (valAt t m=numL ((t.drop (endAt m)).take (endAt (m+1) - endAt m))):=rfl
   obtain ⟨z,Hz⟩:∃ z,Hid (endAt (m+1)=z):=⟨_,rfl⟩
   rw [Hz.out] at hce hl1 hl2 h4 HV
   obtain ⟨y,Hy⟩:∃ y,Hid (endAt m=y):=⟨_,rfl⟩
   rw [Hy.out] at hl1 h4 HV ⊢
   go_wp2_with fail
   go_loop [9,11] (fun a n=>∃ c:Nat,y≤c∧c≤z∧a=.int .i64 (c:Int)∧n=.int .i64 (numL ((t.drop y).take (c - y)):Nat)) (fun a _=>z - (intOf a).toNat)
   case atStart=>exact ⟨y,Nat.le_refl _,hl1,rfl,by rw [Nat.sub_self]; rfl⟩
   case round =>
    obtain ⟨c,hc1,hc2,rfl,rfl⟩:=hrel
    have hnl:=num_lt t y (c - y) (by omega)
    by_cases hcz:c<z
    ·have hct:c<tt.size:=by omega
     have ix:=idx_str tt c (c:Int) hct rfl
     have hbx:=UInt8.toNat_lt (tt[c]'hct)
     have HSt:Hid (numL ((t.drop y).take (c+1 - y))=256 * numL ((t.drop y).take (c - y))+(tt[c]'hct).toNat):=by
      unfold Hid
      have e:=num_step t y (c - y) (by omega)
      rw [show c - y+1=c+1 - y by omega] at e
      rw [e,getB hct]
      congr 2
      simp only [HL.out,show y+(c - y)=c by omega]
     generalize (tt[c]'hct).toNat=x at ix hbx HSt
     generalize numL ((t.drop y).take (c - y))=n at hnl HSt ⊢
     go_wp2_with fail
     go_round
     case rel=>exact ⟨c+1,by omega,by omega,by go_num,val_int (by rw [HSt.out]; omega)⟩
     case measure=>simp [intOf]; omega
    ·obtain rfl:c=z:=by omega
     rw [← HV.out] at hnl ⊢
     have HVS:=hid (valsTo_succ t m)
     generalize valAt t m=va at hnl HVS ⊢
     go_wp2_with (at_builtin; refine wpList_append_own _ rfl (.tmp 40) (.tmp 42) 34 rfl (w.heap.size+1+1) 3 i0 (.int .i64 0) 1 8 Tryz.underlying34 hi hz0 hz1 hz2 rfl (by decide) _ m (valsTo t m) rfl (by exact World.ownsRow.alloc HO.out _) ⟨wr.heap.size,0,none⟩ 1 1 [.int .i64 (va:Int)] rfl rfl (lit_cells _ _ _) ?c2 ?c3 ?c4 ?c5 ?_)
     case c2=>first|rfl|(intro u hu; simp at hu; subst hu; rfl)
     case c3=>unfold maxLen; omega
     case c4=>omega
     case c5=>first|omega|(simp; omega)
     intro v' w1 hown hg _
     have HO1:Hid (w1.ownsRow (w.heap.size+1+1) 3 1 v' (m+1) (valsTo t (m+1))):=by unfold Hid; rw [HVS.out]; exact hown
     have HB1:=hid (own_below HB.out hsz ((Below.refl _ _).alloc (Nat.le_refl _) _) HO.out hg)
     clear hown hg
     go_wp2_with fail
     go_roundw
     case rel=>exact ⟨m+1,by omega,by go_num,val_int (by rw [Hz.out]),HO1.out,HB1.out⟩
     case measure=>simp [intOf]; omega
  ·obtain rfl:m=4:=by omega
   have hown:=HO.out
   rcases hown.2 with ⟨_,h0⟩|⟨g,cap,cur,rfl,hg,hh,hle,hmx,hcs,htk⟩
   ·omega
   have HC:Hid (∀ i (h:i<4),wr.cell? ⟨g,i,none⟩=some (.int .i64 (valAt t i:Nat))):=fun i h=>by
    have:=HO.out.cellAt i (by omega)
    rw [this]
    rcases four_i h with rfl|rfl|rfl|rfl <;> rfl
   have q0:=HC.out 0 (by omega)
   have q1:=HC.out 1 (by omega)
   have q2:=HC.out 2 (by omega)
   have q3:=HC.out 3 (by omega)
   obtain ⟨e0,e1,e2,e3⟩:=valAt_eq t
   rw [e0,HN.out] at q0
   rw [e1,HRS.out] at q1
   rw [e2,HRS.out] at q2
   rw [e3,HRS.out] at q3
   clear e0 e1 e2 e3
   have RRr:=hid ((HB.out.block w.heap.size (by omega)).trans RR.out)
   have HBw:=hid (HBX.out.trans (HB.out.mono (by omega)))
   have hgl:=row_ltJ hh
   have RG:=hid hh
   clear hown hh htk
   go_wp2_with fail
   go_region
   all_goals go_wp2_with fail
   obtain ⟨sb,Hsb⟩:∃ n,Hid (wr.heap.size=n):=⟨_,rfl⟩
   obtain ⟨Z,HZ⟩:∃ Z,Hid ((wr.alloc (.cells #[.int .i64 (r1:Int),.int .i64 (r2:Int),.int .i64 (r3:Int)] 80)).drew=Z):=⟨_,rfl⟩
   have SZ:Hid (Z.heap[sb]? = some (.cells #[.int .i64 (r1:Int),.int .i64 (r2:Int),.int .i64 (r3:Int)] 80 (0,0))):=by rw [← HZ.out,← Hsb.out]; exact heap_alloc_new wr _
   have RZ:Hid (Z.heap[w.heap.size]? = some (.cells #[.int .i64 0,.int .i64 0,.int .i64 0] 80 (0,0))):=by rw [← HZ.out]; exact (Below.heap_alloc wr _ _ (by omega)).trans RRr.out
   have GZ:=fun i=>(show Z.cell? ⟨g,i,none⟩=wr.cell? ⟨g,i,none⟩ by rw [← HZ.out]; exact World.cell?_of_block (w:=wr) (Below.heap_alloc wr _ g hgl))
   have z0:=(GZ 0).trans q0
   have z1:=(GZ 1).trans q1
   have z2:=(GZ 2).trans q2
   have z3:=(GZ 3).trans q3
   have HBZ:Hid (Below w.heap.size w Z):=by rw [← HZ.out]; exact (HBw.out.alloc HBw.out.size _).drew
   have hzs:wr.heap.size<Z.heap.size:=by rw [Hsb.out]; exact row_ltJ SZ.out
   rw [Hsb.out,HZ.out]
   clear q0 q1 q2 q3 GZ
   obtain ⟨hb,Hhb⟩:∃ b:Bool,Hid (decide (1≤n∧n % 2=k % 2∧bodyL n ⟨r1,r2,r3⟩ ++ [165]=t)=b):=⟨_,hid (Eq.refl _)⟩
   have c0:Z.cell? ⟨sb,0,none⟩=some (.int .i64 (r1:Int)):=by rw [cell_of_row _ _ _ _ _ _ SZ.out]; rfl
   have c1:Z.cell? ⟨sb,1,none⟩=some (.int .i64 (r2:Int)):=by rw [cell_of_row _ _ _ _ _ _ SZ.out]; rfl
   have c2:Z.cell? ⟨sb,2,none⟩=some (.int .i64 (r3:Int)):=by rw [cell_of_row _ _ _ _ _ _ SZ.out]; rfl
   have KP:Hid (∀ wx,Below Z.heap.size Z wx→wx.heap[w.heap.size]? = some (.cells #[.int .i64 0,.int .i64 0,.int .i64 0] 80 (0,0))∧wx.heap[sb]? = some (.cells #[.int .i64 (r1:Int),.int .i64 (r2:Int),.int .i64 (r3:Int)] 80 (0,0))∧wx.cell? ⟨g,0,none⟩=some (.int .i64 (n:Int))∧Below w.heap.size w wx):=fun wx hx =>
    ⟨(hx.block _ (row_ltJ RZ.out)).trans RZ.out,(hx.block _ (row_ltJ SZ.out)).trans SZ.out,(hx.cell (p:=⟨g,0,none⟩) (by show g<_; omega)).trans z0,HBZ.out.trans (hx.mono HBZ.out.size)⟩
   have tn:(n:Int).tmod 2=((n % 2:Nat):Int):=by rw [Int.tmod_eq_emod_of_nonneg (by omega)]; omega
   have tk:(k:Int).tmod 2=((k % 2:Nat):Int):=by rw [Int.tmod_eq_emod_of_nonneg (by omega)]; omega
   go_cut [77] from 13 (fun s77 wx=>s77=.bool (!hb)∧wx.heap[w.heap.size]? = some (.cells #[.int .i64 0,.int .i64 0,.int .i64 0] 80 (0,0))∧wx.heap[sb]? = some (.cells #[.int .i64 (r1:Int),.int .i64 (r2:Int),.int .i64 (r3:Int)] 80 (0,0))∧wx.cell? ⟨g,0,none⟩=some (.int .i64 (n:Int))∧Below w.heap.size w wx)
   case first =>
    by_cases g0:n<1
    ·obtain rfl:n=0:=by omega
     have HF:Hid (hb=false):=by rw [← Hhb.out]; exact decide_eq_false (fun h=>by omega)
     have KZ:=hid (fun nq=>KP.out (Z.drewN nq) (below_drewN (Below.refl _ _) nq))
     clear tn tk
     go_quiet (fail)
     all_goals go_step
     all_goals go_step
     all_goals go_meet
     all_goals exact ⟨by rw [HF.out]; rfl,KZ.out _⟩
    ·have y0:decide ((n:Int)<1)=false:=decide_eq_false (by omega)
     by_cases g1:n % 2=k % 2
     ·have y1:((n:Int).tmod 2 != (k:Int).tmod 2)=false:=by rw [tn,tk,g1]; simp
      have y2:((n:Int) % 2 != (k:Int) % 2)=false:=by simp; omega
      obtain ⟨bs,Hbs⟩:∃ s,Hid (bA (bodyL n ⟨r1,r2,r3⟩)=s):=⟨_,rfl⟩
      have zb1:bs.size=17:=by rw [← Hbs.out,bA_size,bodyL_length]
      have zb2:(bA [165]).size=1:=bA_size _
      obtain ⟨b1,b2,b3⟩:=HFt.out
      have B1:=hid b1
      have B2:=hid b2
      have B3:=hid b3
      have heq:(!((bs ++ bA [165]).toList == tt.toList))=!hb:=by
       rw [← Hhb.out,← Hbs.out,bA_append,ByteArray.toList_eq,ByteArray.toList_eq,bA_list,HL.out]
       by_cases hx:bodyL n ⟨r1,r2,r3⟩ ++ [165]=t
       ·rw [decide_eq_true ⟨by omega,g1,hx⟩,hx]; simp
       ·rw [decide_eq_false (fun h=>hx h.2.2),beq_eq_false_iff_ne.2 hx]
      have HD0:Hid (Below Z.heap.size Z Z.drew):=(Below.refl _ _).drew
      clear b1 b2 b3 tn tk
      go_region_held3 (fun w'=>w'.cell? ⟨g,0,none⟩=some (.int .i64 (n:Int))∧w'.cell? ⟨sb,0,none⟩=some (.int .i64 (r1:Int))∧w'.cell? ⟨sb,1,none⟩=some (.int .i64 (r2:Int))∧w'.cell? ⟨sb,2,none⟩=some (.int .i64 (r3:Int))) (go_keep) (first|(go_at_call 185; (with_reducible refine (body_is n r1 r2 r3 bs _ hnl B1.out B2.out B3.out Hbs.out).mono ?_); rintro e wn ⟨rfl,hbn⟩; have HBn:=below_step (by assumption) hbn; obtain ⟨x0,x1,x2,-⟩:=KP.out _ HBn.out; have d0:wn.cell? ⟨sb,0,none⟩=some (.int .i64 (r1:Int)):=(cell_of_row _ _ _ _ _ _ x1).trans rfl; have d1:wn.cell? ⟨sb,1,none⟩=some (.int .i64 (r2:Int)):=(cell_of_row _ _ _ _ _ _ x1).trans rfl; have d2:wn.cell? ⟨sb,2,none⟩=some (.int .i64 (r3:Int)):=(cell_of_row _ _ _ _ _ _ x1).trans rfl; clear hbn x0 x1)|(go_at_call 143; (with_reducible refine (byte165 _).mono ?_); rintro e wn ⟨rfl,hbn⟩; have HBn:=below_step (by assumption) hbn; obtain ⟨x0,x1,x2,-⟩:=KP.out _ HBn.out; have d0:wn.cell? ⟨sb,0,none⟩=some (.int .i64 (r1:Int)):=(cell_of_row _ _ _ _ _ _ x1).trans rfl; have d1:wn.cell? ⟨sb,1,none⟩=some (.int .i64 (r2:Int)):=(cell_of_row _ _ _ _ _ _ x1).trans rfl; have d2:wn.cell? ⟨sb,2,none⟩=some (.int .i64 (r3:Int)):=(cell_of_row _ _ _ _ _ _ x1).trans rfl; clear hbn x0 x1))
      all_goals go_step
      all_goals go_step
      all_goals go_meet
      all_goals exact ⟨by first|rfl|exact congrArg Value.bool heq,KP.out _ (Hid.out (by assumption))⟩
     ·have y1:((n:Int).tmod 2 != (k:Int).tmod 2)=true:=by rw [tn,tk]; simp; omega
      have y2:((n:Int) % 2 != (k:Int) % 2)=true:=by simp; omega
      have HF:Hid (hb=false):=by rw [← Hhb.out]; exact decide_eq_false (fun h=>g1 h.2.1)
      have KZ:=hid (fun nq=>KP.out (Z.drewN nq) (below_drewN (Below.refl _ _) nq))
      clear tn tk
      go_quiet (fail)
      all_goals go_step
      all_goals go_step
      all_goals go_meet
      all_goals exact ⟨by rw [HF.out]; rfl,KZ.out _⟩
   case rest =>
    obtain ⟨rfl,rz,rs,rg,rb⟩:=hcut
    have RZ2:=hid rz
    have RB2:=hid rb
    have v0:wc.cell? ⟨w.heap.size,0,none⟩=some (.int .i64 0):=by rw [cell_of_row _ _ _ _ _ _ rz]; rfl
    have v1:wc.cell? ⟨w.heap.size,1,none⟩=some (.int .i64 0):=by rw [cell_of_row _ _ _ _ _ _ rz]; rfl
    have v2:wc.cell? ⟨w.heap.size,2,none⟩=some (.int .i64 0):=by rw [cell_of_row _ _ _ _ _ _ rz]; rfl
    have f0:=frozen_of_row wc w.heap.size 0 _ _ rz
    have f1:=frozen_of_row wc w.heap.size 1 _ _ rz
    have f2:=frozen_of_row wc w.heap.size 2 _ _ rz
    have s0:wc.cell? ⟨sb,0,none⟩=some (.int .i64 (r1:Int)):=by rw [cell_of_row _ _ _ _ _ _ rs]; rfl
    have s1:wc.cell? ⟨sb,1,none⟩=some (.int .i64 (r2:Int)):=by rw [cell_of_row _ _ _ _ _ _ rs]; rfl
    have s2:wc.cell? ⟨sb,2,none⟩=some (.int .i64 (r3:Int)):=by rw [cell_of_row _ _ _ _ _ _ rs]; rfl
    have hd:=HDef.out
    clear rz rs rb tn tk z0 z1 z2 z3 c0 c1 c2
    cases hb with
    | true =>
     rw [if_pos (of_decide_eq_true Hhb.out)] at hd
     obtain ⟨rfl,rfl,rfl,rfl⟩:n=o1∧r1=p1∧r2=p2∧r3=p3:=by simpa using hd
     clear hd
     go_wp2_with fail
     go_region
     all_goals go_wp2_with fail
     refine bodyPost_ret (results_row3 rfl _ _ w.heap.size 80 _ (0,0) _ rfl (set3R RZ2.out _ _ _) Tryz.underlying80 rfl sizeStR) rfl ?_
     exact ⟨rfl,(((RB2.out.setCell (Nat.le_refl _) _).setCell (Nat.le_refl _) _).setCell (Nat.le_refl _) _).drew⟩
    | false =>
     rw [if_neg (of_decide_eq_false Hhb.out)] at hd
     obtain ⟨rfl,rfl,rfl,rfl⟩:0=o1∧0=p1∧0=p2∧0=p3:=by simpa [St.zero] using hd
     clear hd
     go_wp2_with fail
     refine bodyPost_ret (results_row3 rfl _ _ w.heap.size 80 _ (0,0) _ rfl (set3R RZ2.out _ _ _) Tryz.underlying80 rfl sizeStR) rfl ?_
     exact ⟨rfl,((RB2.out.setCell (Nat.le_refl _) _).setCell (Nat.le_refl _) _).setCell (Nat.le_refl _) _⟩
end Go.Proofs.YtaehdgemkafinaaGreatDoor
