/-
  On the way to WStepsProof, WCommitsProof, WAgreesProof, WEndsProof, WWaitsProof, JTampersProof, PAgreesProof, PAgainProof: VD UG UC.
-/
import Derived.Test.YtadhpkopkkjmfaaGreatDoorBz21
import Derived.Deep.RegionLaw
import Derived.Deep.MidRow
import Derived.Laws.IdiomCopy
import Derived.Lib.SliceRun
import Derived.Laws.Externs
import Derived.Lib.Overlaps
set_option maxHeartbeats 8000000
set_option maxRecDepth 100000
namespace Go.Proofs.YtadhpkopkkjmfaaGreatDoor
open Go.RowKit
theorem row_setCells {g:Nat} {t:TypeId}:∀ (vs:List Value) (o:Nat) (w:World) (cur:Array Value),w.heap[g]? = some (.cells cur t (0,0))→o+vs.length≤cur.size →
  (w.setCells g o vs).heap[g]? = some (.cells (cur.toList.take o ++ vs ++ cur.toList.drop (o+vs.length)).toArray t (0,0))
 | [],o,w,cur,h,_=>by simpa [World.setCells] using h
 | v :: r,o,w,cur,h,hl=>by
  have h1:=heap_setCell_same w g o _ _ v h
  have hl':o+(r.length+1)≤cur.size:=by simpa using hl
  have h2:=row_setCells r (o+1) (w.setCell ⟨g,o,none⟩ v) _ h1 (by simp; omega)
  show ((w.setCell ⟨g,o,none⟩ v).setCells g (o+1) r).heap[g]? = _
  rw [h2]
  congr 2
  apply Array.ext'
  simp only [Array.toList_setIfInBounds]
  rw [List.take_set,List.drop_set_of_lt (by omega),List.take_add_one]
  have hg:cur.toList[o]? = some (cur.toList[o]'(by simp; omega)):=List.getElem?_eq_getElem _
  rw [hg]
  simp only [Option.toList,List.set_append,List.length_take,Array.length_toList]
  rw [if_neg (by omega),show o - min o cur.size=0 by omega]
  simp
  congr 1
  omega
theorem kept_setCells (g:Nat):∀ (vs:List Value) (o:Nat) (w:World),Kept (In1 g) w (w.setCells g o vs)
 | [],_,w=>Kept.refl _ w
 | v :: r,o,w=>((Kept.refl _ w).set1 o v).trans (kept_setCells g r (o+1) _)
def zF:List Value:=[.int .i64 0,.int .i64 0,.int .i64 0,.int .i64 0,.int .i64 0,.bool false,.int .i64 0,.int .i64 0,.int .i64 0]
theorem zF_len:zF.length=9:=rfl
theorem zF_one:∀ u∈zF,u.oneCell'=true:=by
 intro u hu
 simp [zF] at hu
 rcases hu with rfl|rfl|rfl <;> rfl
theorem run_clear1 (w:World) (ty:TypeId) (b o c:Nat) (hc:∀ j,j<9→(w.cell? ⟨b,o+j,none⟩).isSome=true) (hf:∀ j,j<9→w.frozen? ⟨b,o+j,none⟩=false) :
  (Builtin.clear_ #[34] ty #[.slice (some ⟨b,o,none⟩) 1 c]).run Tryz.prog w=.ok (.tuple #[]) (w.setCells b o zF):=by
 have hzc:(Builtin.zeroCells (frV 0 0 0 0 0 false 0 0 0).cells 1).toList=zF:=by first|rfl|kernel_rfl
 have hst:=run_storeCells_cells (P:=Tryz.prog) b o zF 0 w (by simpa [zF] using hc) (by simpa [zF] using hf) zF_one
 simp only [Nat.add_zero] at hst
 simp [Builtin.clear_,run_underlying Tryz.underlying34,hzc,hst]
theorem frCells_take (L:List F9) (k:Nat):frCells (L.take k)=(frCells L).take (k * 9):=by
 induction L generalizing k with
 | nil=>simp [frCells]
 | cons x r ih =>
  cases k with
  | zero=>simp [frCells]
  | succ k =>
   simp only [List.take_succ_cons,frCells,List.flatMap_cons] at *
   rw [ih,List.take_append,f9L_length,List.take_of_length_le (l:=f9L x) (by rw [f9L_length]; omega),show (k+1) * 9 - 9=k * 9 by omega]
theorem frCells_drop (L:List F9) (k:Nat):frCells (L.drop k)=(frCells L).drop (k * 9):=by
 induction L generalizing k with
 | nil=>simp [frCells]
 | cons x r ih =>
  cases k with
  | zero=>simp [frCells]
  | succ k =>
   simp only [List.drop_succ_cons,frCells,List.flatMap_cons] at *
   rw [ih,List.drop_append,f9L_length,List.drop_of_length_le (l:=f9L x) (by rw [f9L_length]; omega),show (k+1) * 9 - 9=k * 9 by omega]
   simp
theorem del_frs (base g cap k j n:Nat) (cur:Array Value) (L:List F9) (w:World) (hg:w.heap[g]? = some (.cells cur 104 (0,0))) (hb:base≤g) (hn:L.length=n) (h1:n≤cap) (h2:cap≤maxLen) (hs:cur.size=cap * 9) (ht:cur.toList.take (n * 9)=frCells L) (hk:k<n) (hj:j=k+1) :
  Calls Tryz.prog 107 #[.slice (some ⟨g,0,none⟩) n cap,.int .i64 (k:Int),.int .i64 (j:Int)] w fun e w'=>e=.returned (.slice (some ⟨g,0,none⟩) (n - 1) cap)∧w'.ownsRow base 104 9 (.slice (some ⟨g,0,none⟩) (n - 1) cap) (n - 1) (frCells (L.eraseIdx k))∧Kept (In1 g) w w':=by
 obtain ⟨i0,hi0,hz0,hz1,hz2⟩:=info_parts Tryz.infoFq
 have hmul:n * 9≤cap * 9:=Nat.mul_le_mul_right 9 h1
 have hcell:∀ x,x<n * 9→w.cell? ⟨g,x,none⟩=(frCells L)[x]?:=fun x hx=>by
  rw [cell_of_row _ _ _ _ _ _ hg,← ht,List.getElem?_take_of_lt hx,Array.getElem?_toList]
 have hsome:∀ x,x<cap * 9→(w.cell? ⟨g,x,none⟩).isSome=true:=fun x hx=>by
  rw [cell_of_row _ _ _ _ _ _ hg,Array.getElem?_eq_getElem (by rw [hs]; exact hx)]; rfl
 have hfz:∀ x,w.frozen? ⟨g,x,none⟩=false:=fun x=>frozen_of_row _ _ _ _ _ hg
 have hLl:=frCells_length L
 obtain ⟨news,HN⟩:∃ news,Hid (news=frCells (L.drop j)):=⟨_,rfl⟩
 have HL:Hid (news.length=(n - j) * 9):=by rw [HN.out,frCells_length,List.length_drop,hn]; exact rfl
 obtain ⟨a0,hA,hsrc⟩:∃ a0:Addr,(if cap=j then some (⟨g,0,none⟩:Addr) else some ⟨g,j * 9,none⟩)=some a0∧Hid (∀ t u,news[t]? = some u→w.drew.cell? (a0.add t)=some u):=by
  by_cases h:cap=j
  ·refine ⟨⟨g,0,none⟩,by simp [h],fun t u hu=>?_⟩
   have h0:news.length=0:=by rw [HL.out]; omega
   rw [List.length_eq_zero_iff.1 h0] at hu
   simp at hu
  ·refine ⟨⟨g,j * 9,none⟩,by simp [h],fun t u hu=>?_⟩
   have htt:=(List.getElem?_eq_some_iff.1 hu).1
   rw [HL.out] at htt
   rw [addr_add]
   show w.cell? ⟨g,j * 9+t,none⟩=some u
   rw [hcell _ (by omega),← hu,HN.out,frCells_drop,List.getElem?_drop]
 have s2:Hid (∀ u∈news,u.oneCell'=true):=by rw [HN.out]; exact frCells_one _
 have s3:Hid (∀ t,t<news.length→(w.drew.cell? ⟨g,0+k * 9+t,none⟩).isSome=true∧w.drew.frozen? ⟨g,0+k * 9+t,none⟩=false):=by
  intro t htt
  rw [HL.out] at htt
  exact ⟨hsome _ (by omega),hfz _⟩
 obtain ⟨W1,HW1⟩:∃ W1,Hid (w.drew.setCells g (0+k * 9) news=W1):=⟨_,rfl⟩
 have HR1:Hid (W1.heap[g]? = some (.cells (cur.toList.take (0+k * 9) ++ news ++ cur.toList.drop (0+k * 9+news.length)).toArray 104 (0,0))):=by
  rw [← HW1.out]; exact row_setCells news _ w.drew cur hg (by rw [HL.out,hs]; omega)
 have HK1:Hid (Kept (In1 g) w W1):=by rw [← HW1.out]; exact (Kept.refl _ w).drew.trans (kept_setCells g news _ _)
 have hsz:(cur.toList.take (0+k * 9) ++ news ++ cur.toList.drop (0+k * 9+news.length)).length=cap * 9:=by
  rw [List.length_append,List.length_append,List.length_take,List.length_drop,HL.out,Array.length_toList,hs]; omega
 have hcl:∀ ty,(Builtin.clear_ #[34] ty #[.slice (some ⟨g,(k+(n - j)) * 9,none⟩) (n - (k+(n - j))) (cap - (k+(n - j)))]).run Tryz.prog W1=.ok (.tuple #[]) (W1.setCells g ((k+(n - j)) * 9) zF):=by
  intro ty
  rw [show n - (k+(n - j))=1 by omega]
  exact run_clear1 W1 ty g _ _ (fun x hx=>by rw [cell_of_row _ _ _ _ _ _ HR1.out,List.getElem?_toArray,List.getElem?_eq_getElem (by rw [hsz]; omega)]; rfl) (fun x _=>frozen_of_row _ _ _ _ _ HR1.out)
 have HF:Hid ((W1.setCells g ((k+(n - j)) * 9) zF).ownsRow base 104 9 (.slice (some ⟨g,0,none⟩) (n - 1) cap) (n - 1) (frCells (L.eraseIdx k))):=by
  have hr:=row_setCells zF ((k+(n - j)) * 9) W1 _ HR1.out (by rw [List.size_toArray,hsz,zF_len]; omega)
  refine ⟨by rw [frCells_length,List.length_eraseIdx_of_lt (by omega),hn],.inr ⟨g,cap,_,rfl,hb,hr,by omega,h2,?_,?_⟩⟩
  ·rw [List.size_toArray,List.length_append,List.length_append,List.length_take,List.length_drop,List.toList_toArray,hsz,zF_len]
   omega
  ·have hE1:n - 1=k+(n - j):=by omega
   rw [List.toList_toArray,List.toList_toArray,hE1]
   rw [List.append_assoc,List.take_append_of_le_length (by rw [List.length_take,hsz]; omega),List.take_take,Nat.min_self]
   rw [List.take_append_of_le_length (by rw [List.length_append,List.length_take,Array.length_toList,HL.out,hs]; omega),List.take_of_length_le (by rw [List.length_append,List.length_take,Array.length_toList,HL.out,hs]; omega)]
   rw [HN.out,List.eraseIdx_eq_take_drop_succ,frCells_append,frCells_take,hj,Nat.zero_add,← ht,List.take_take,Nat.min_eq_left (by omega)]
 have HK2:Hid (Kept (In1 g) w (W1.setCells g ((k+(n - j)) * 9) zF)):=HK1.out.trans (kept_setCells g _ _ _)
 have HE:Hid (n - 1=k+(n - j)):=by show n - 1=k+(n - j); omega
 have h63:cap≤9223372036854775807:=by unfold maxLen at h2; omega
 have hkc:k≤cap:=by omega
 have hjc:j≤cap:=by omega
 have hjn:j≤n:=by omega
 have hkj:k<j:=by omega
 clear hcell hsome hfz hg ht hs hj hLl hsz hmul
 rw [HE.out] at HF ⊢
 go_enter Tryz.func107,Tryz.ntmps107
 go_wp2_with fail
 go_region_law (refine step_append_room rfl (.tmp 22) (.tmp 25) 34 rfl 104 i0 9 Tryz.underlying34 hi0 hz1 g 0 k cap (by simp [Act.eval,Act.put]) a0 (n - j) (cap - j) news (by simp [Act.eval,Act.put]) HL.out hsrc.out s2.out (by omega) s3.out ?_; rw [HW1.out])
 go_wp2
 go_ret
 exact ⟨rfl,HF.out,HK2.out⟩
theorem get_spliced (cur vs:List Value) (o k:Nat) (h:o+vs.length≤cur.length):(cur.take o ++ vs ++ cur.drop (o+vs.length))[k]? = if k<o then cur[k]? else if k<o+vs.length then vs[k - o]? else cur[k]?:=by
 by_cases h1:k<o
 ·rw [if_pos h1,List.append_assoc,List.getElem?_append_left (by rw [List.length_take]; omega),List.getElem?_take_of_lt h1]
 ·rw [if_neg h1]
  by_cases h2:k<o+vs.length
  ·rw [if_pos h2,List.append_assoc,List.getElem?_append_right (by rw [List.length_take]; omega),List.length_take,show min o cur.length=o by omega,List.getElem?_append_left (by omega)]
  ·rw [if_neg h2,List.getElem?_append_right (by rw [List.length_append,List.length_take]; omega),List.length_append,List.length_take,show min o cur.length=o by omega,List.getElem?_drop]
   congr 1
   omega
def OwnF (w:World) (base:Nat) (v:Value) (L:List F9):Prop :=
 (v=.slice none 0 0∧L=[]) ∨ ∃ g o cap,∃ cur:Array Value,v=.slice (some ⟨g,o,none⟩) L.length cap∧base≤g∧w.heap[g]? = some (.cells cur 104 (0,0))∧L.length≤cap∧cap≤maxLen∧o+cap * 9≤cur.size∧∀ j,j<L.length * 9→cur[o+j]? = (frCells L)[j]?
section
variable {w w':World} {base:Nat} {v:Value} {L:List F9}
theorem OwnF.of_own (h:w.ownsRow base 104 9 v L.length (frCells L)):OwnF w base v L:=by
 rcases h.2 with ⟨rfl,h0⟩|⟨g,cap,cur,rfl,hb,hg,hle,hcap,hsz,htk⟩
 ·exact .inl ⟨rfl,List.length_eq_zero_iff.1 h0⟩
 ·refine .inr ⟨g,0,cap,cur,rfl,hb,hg,hle,hcap,by omega,fun j hj=>?_⟩
  rw [← htk,List.getElem?_take_of_lt hj,Array.getElem?_toList,Nat.zero_add]
theorem OwnF.kept {S:Nat→Prop} (h:OwnF w base v L) (k:Kept S w w') (hs:∀ g,v.ownBlock=some g→¬ S g):OwnF w' base v L:=by
 rcases h with h|⟨g,o,cap,cur,rfl,hb,hg,rest⟩
 ·exact .inl h
 ·exact .inr ⟨g,o,cap,cur,rfl,hb,k.row hg (hs g rfl),rest⟩
theorem OwnF.lt (h:OwnF w base v L):∀ g,v.ownBlock=some g→base≤g∧g<w.heap.size:=by
 intro x hx
 rcases h with ⟨rfl,-⟩|⟨g,o,cap,cur,rfl,hb,hg,rest⟩
 ·cases hx
 ·obtain rfl:g=x:=Option.some.inj hx
  exact ⟨hb,row_ltJ hg⟩
theorem OwnF.form (h:OwnF w base v L):∃ ad cap,v=.slice ad L.length cap:=by
 rcases h with ⟨rfl,rfl⟩|⟨g,o,cap,cur,rfl,-⟩
 ·exact ⟨none,0,rfl⟩
 ·exact ⟨_,_,rfl⟩
theorem OwnF.isFr (h:OwnF w base v L):IsFr w v L:=by
 rcases h with ⟨rfl,rfl⟩|⟨g,o,cap,cur,rfl,hb,hg,hle,hcap,hsz,hc⟩
 ·exact IsFr.zero w
 ·refine ⟨_,cap,rfl,fun i hi=>⟨g,o,rfl,fun j hj=>?_⟩⟩
  rw [cell_of_row _ _ _ _ _ _ hg,Nat.add_assoc,hc _ (by omega),frCells_get L i j hi hj]
theorem OwnF.splice {g o cap:Nat} {cur:Array Value} {M:List F9} (hb:base≤g) (hg:w.heap[g]? = some (.cells cur 104 (0,0))) (hle:L.length+M.length≤cap) (hcap:cap≤maxLen) (hsz:o+cap * 9≤cur.size) (hc:∀ j,j<L.length * 9→cur[o+j]? = (frCells L)[j]?) :
  OwnF (w.setCells g (o+L.length * 9) (frCells M)) base (.slice (some ⟨g,o,none⟩) (L.length+M.length) cap) (L ++ M):=by
 have hl:=frCells_length M
 have hfit:o+L.length * 9+(frCells M).length≤cur.size:=by rw [hl]; have:=Nat.mul_le_mul_right 9 hle; rw [Nat.add_mul] at this; omega
 have hr:=row_setCells (frCells M) (o+L.length * 9) w cur hg hfit
 refine .inr ⟨g,o,cap,_,by rw [List.length_append],hb,hr,by rw [List.length_append]; exact hle,hcap,?_,fun j hj=>?_⟩
 ·rw [List.size_toArray,List.length_append,List.length_append,List.length_take,List.length_drop,Array.length_toList (xs:=cur)]; omega
 ·rw [List.length_append,Nat.add_mul] at hj
  rw [List.getElem?_toArray,get_spliced _ _ _ _ (by rw [Array.length_toList (xs:=cur)]; exact hfit),frCells_append]
  by_cases h1:j<L.length * 9
  ·rw [if_pos (by omega),Array.getElem?_toList,hc j h1,List.getElem?_append_left (by rw [frCells_length]; exact h1)]
  ·rw [if_neg (by omega),if_pos (by omega),List.getElem?_append_right (by rw [frCells_length]; omega),frCells_length]
   congr 1
   omega
end
theorem run_copy_frs (w:World) (sT ty:TypeId) (b o dLen dCap:Nat) (a:Addr) (sLen sCap n:Nat) (cs:List Value) (hn:Nat.min sLen dLen=n) (hl:cs.length=n * 9)
  (hsrc:∀ j v,cs[j]? = some v→w.cell? (a.add j)=some v) (hc:∀ j,j<cs.length→(w.cell? ⟨b,o+j,none⟩).isSome=true) (hf:∀ j,j<cs.length→w.frozen? ⟨b,o+j,none⟩=false) (h1:∀ v∈cs,v.oneCell'=true) :
  (Builtin.copy_ #[34,sT] ty #[.slice (some ⟨b,o,none⟩) dLen dCap,.slice (some a) sLen sCap]).run Tryz.prog w=.ok (goInt n) (w.setCells b o cs):=by
 obtain ⟨i0,hi0,hz0,hz1,hz2⟩:=info_parts Tryz.infoFq
 have hl2:=run_firstCells_some (P:=Tryz.prog) w 9 n a sLen sCap cs hl hsrc
 have hst:=run_storeCells_cells (P:=Tryz.prog) b o cs 0 w (by simpa using hc) (by simpa using hf) h1
 simp only [Nat.add_zero] at hst
 simp [Builtin.copy_,run_underlying Tryz.underlying34,Builtin.lenOf,Go.sizeOf,typeInfo,hi0,hz1,hn,hl2,hst]
theorem wp_copy_runF (w:World) {o:Oper} {a:Act} {K:Act→World→Prop} {Q:Exit→Act→World→Prop} (d s:Operand) (t t':TypeId)
  (ho:o.op=.call { callee:=.builtin .copy,args:=#[d,s],argTypes:=#[t,t'] }) (v u:Value) (hd:a.eval d=v) (hs:a.eval s=u) {v':Value} {w':World}
  (hr:(Builtin.copy_ #[t,t'] o.type #[v,u]).run Tryz.prog w=.ok v' w') (h:K (a.put o.dst v') w'):o.wp Tryz.prog a w K Q:=by
 unfold Oper.wp execOp
 simp only [ho,resolve,invoke,builtin,Sem.run_bind,Sem.run_pure,Result.andThen_ok,List.map_toArray,List.map_cons,List.map_nil,hd,hs,hr]
 exact h
theorem wpList_copy_runF (w:World) {ops:Array Oper} {rest:List Oper} {o:Oper} {a:Act} {Q:Exit→Act→World→Prop} (hgd:o.guard=none) (d s:Operand) (t t':TypeId)
  (ho:o.op=.call { callee:=.builtin .copy,args:=#[d,s],argTypes:=#[t,t'] }) (v u:Value) (hd:a.eval d=v) (hs:a.eval s=u) {v':Value} {w':World}
  (hr:(Builtin.copy_ #[t,t'] o.type #[v,u]).run Tryz.prog w=.ok v' w') (h:wpList Tryz.prog ops Q rest (a.put o.dst v') w'):wpList Tryz.prog ops Q (o :: rest) a w :=
 wpList_plain hgd fun _ hK=>wp_copy_runF w d s t t' ho v u hd hs hr (hK _ _ h)
theorem step_copy_runF {ops:Array Oper} {o:Oper} {a:Act} {w:World} {K:Act→World→Prop} {Q:Exit→Act→World→Prop} {E:Prop}
  (hg:o.guard=none) (d x:Operand) (dT sT:TypeId) (hop:o.op=Op.call { callee:=Callee.builtin Builtin.copy,args:=#[d,x],argTypes:=#[dT,sT] })
  (v u:Value) (hd:a.eval d=v) (hx:a.eval x=u) {v':Value} {w':World} (hr:(Builtin.copy_ #[dT,sT] o.type #[v,u]).run Tryz.prog w=.ok v' w') (hK:K (a.put o.dst v') w') :
  if Region.wanted o (yielded ops a.tmps)=true then Oper.wp Tryz.prog o a w K Q else E:=by
 have hw:Region.wanted o (yielded ops a.tmps)=true:=by simp [Region.wanted,hg]
 rw [if_pos hw]
 exact wp_copy_runF w d x dT sT hop v u hd hx hr hK
theorem sizeFr (w:World):(Go.sizeOf 104).run Tryz.prog w=.ok 9 w:=by kernel_rfl
def insL (L:List F9) (i:Nat) (F:F9):List F9:=L.take i ++ F :: L.drop i
theorem insL_cells (L:List F9) (i:Nat) (F:F9):frCells (insL L i F)=(frCells L).take (i * 9) ++ f9L F ++ (frCells L).drop (i * 9):=by
 unfold insL
 rw [frCells_append,frCells_cons,frCells_take,frCells_drop,List.append_assoc]
theorem insL_length (L:List F9) (i:Nat) (F:F9) (h:i≤L.length):(insL L i F).length=L.length+1:=by unfold insL; rw [List.length_append,List.length_take,List.length_cons,List.length_drop]; omega
theorem insL_get (L:List F9) (i:Nat) (F:F9) (h:i≤L.length) (j:Nat):(frCells (insL L i F))[j]? = if j<i * 9 then (frCells L)[j]? else if j<i * 9+9 then (f9L F)[j - i * 9]? else (frCells L)[j - 9]?:=by
 have hl:((frCells L).take (i * 9)).length=i * 9:=by rw [List.length_take,frCells_length]; omega
 rw [insL_cells]
 by_cases h1:j<i * 9
 ·rw [if_pos h1,List.append_assoc,List.getElem?_append_left (by omega),List.getElem?_take_of_lt h1]
 ·rw [if_neg h1]
  by_cases h2:j<i * 9+9
  ·rw [if_pos h2,List.append_assoc,List.getElem?_append_right (by omega),hl,List.getElem?_append_left (by rw [f9L_length]; omega)]
  ·rw [if_neg h2,List.getElem?_append_right (by rw [List.length_append,hl,f9L_length]; omega),List.length_append,hl,f9L_length,List.getElem?_drop]
   congr 1
   omega
theorem ins_room (base b o n c i vb:Nat) (cur:Array Value) (L:List F9) (F:F9) (w:World) (hb:w.heap[b]? = some (.cells cur 104 (0,0))) (hbase:base≤b) (hL:L.length=n) (hnc:n+1≤c) (hcm:c≤maxLen) (hsz:o+c * 9≤cur.size) (htk:∀ j,j<n * 9→cur[o+j]? = (frCells L)[j]?) (hi:i<n) (hvb:w.heap[vb]? = some (.cells (f9L F).toArray 104 (0,0))) (hne:vb≠b) :
  Calls Tryz.prog 113 #[.slice (some ⟨b,o,none⟩) n c,.int .i64 (i:Int),.slice (some ⟨vb,0,none⟩) 1 1] w fun e w'=>e=.returned (.slice (some ⟨b,o,none⟩) (n+1) c)∧OwnF w' base (.slice (some ⟨b,o,none⟩) (n+1) c) (insL L i F)∧Kept (In1 b) w w':=by
 have h63:c≤9223372036854775807:=by unfold maxLen at hcm; omega
 have hmul:(n+1) * 9≤c * 9:=Nat.mul_le_mul_right 9 hnc
 have hcell:∀ x,x<n * 9→w.cell? ⟨b,o+x,none⟩=(frCells L)[x]?:=fun x hx=>by
  rw [cell_of_row _ _ _ _ _ _ hb,htk x hx]
 have hsome:∀ x,x<c * 9→(w.cell? ⟨b,o+x,none⟩).isSome=true:=fun x hx=>by
  rw [cell_of_row _ _ _ _ _ _ hb,Array.getElem?_eq_getElem (by omega)]; rfl
 have hfz:∀ x,w.frozen? ⟨b,x,none⟩=false:=fun x=>frozen_of_row _ _ _ _ _ hb
 have hLl:=frCells_length L
 have hdl:(frCells (L.drop i)).length=(n - i) * 9:=by rw [frCells_length,List.length_drop,hL]
 obtain ⟨W1,HW1⟩:∃ W1,Hid (w.drew.setCells b (o+(i+1) * 9) (frCells (L.drop i))=W1):=⟨_,rfl⟩
 have hfit:o+(i+1) * 9+(frCells (L.drop i)).length≤cur.size:=by rw [hdl]; omega
 obtain ⟨CR,hCR⟩:∃ CR,CR=(cur.toList.take (o+(i+1) * 9) ++ frCells (L.drop i) ++ cur.toList.drop (o+(i+1) * 9+(frCells (L.drop i)).length)):=⟨_,rfl⟩
 have HR1:Hid (W1.heap[b]? = some (.cells CR.toArray 104 (0,0))):=by
  rw [← HW1.out,hCR]; exact row_setCells _ _ w.drew cur hb hfit
 have hCg:∀ k,CR[k]? = if k<o+(i+1) * 9 then cur.toList[k]? else if k<o+(i+1) * 9+(frCells (L.drop i)).length then (frCells (L.drop i))[k - (o+(i+1) * 9)]? else cur.toList[k]?:=fun k=>by
  rw [hCR]; exact get_spliced _ _ _ _ (by rw [Array.length_toList (xs:=cur)]; exact hfit)
 have HK1:Hid (Kept (In1 b) w W1):=by rw [← HW1.out]; exact (Kept.refl _ w).drew.trans (kept_setCells b _ _ _)
 have hs1:CR.length=cur.size:=by
  rw [hCR,List.length_append,List.length_append,List.length_take,List.length_drop,hdl,Array.length_toList (xs:=cur)]; omega
 have hcp1:∀ ty dc sc,(Builtin.copy_ #[34,34] ty #[.slice (some ⟨b,o+(i+1) * 9,none⟩) (n - i) dc,.slice (some ⟨b,o+i * 9,none⟩) (n+1 - i) sc]).run Tryz.prog w.drew=.ok (goInt ((n - i:Nat):Int)) W1:=fun ty dc sc=>by
  rw [← HW1.out]
  exact run_copy_frs w.drew 34 ty b (o+(i+1) * 9) (n - i) dc ⟨b,o+i * 9,none⟩ (n+1 - i) sc (n - i) (frCells (L.drop i)) (by simp only [Nat.min_def]; split <;> omega) hdl
   (fun j v hj=>by
    have hjl:=(List.getElem?_eq_some_iff.1 hj).1
    rw [hdl] at hjl
    rw [addr_add]
    show w.cell? ⟨b,o+i * 9+j,none⟩=some v
    rw [Nat.add_assoc,hcell _ (by omega),← hj,frCells_drop,List.getElem?_drop])
   (fun j hj=>by rw [hdl] at hj; rw [Nat.add_assoc]; exact hsome _ (by omega)) (fun j _=>hfz _) (frCells_one _)
 have hcp2:∀ ty dc,(Builtin.copy_ #[34,34] ty #[.slice (some ⟨b,o+i * 9,none⟩) (n+1 - i) dc,.slice (some ⟨vb,0,none⟩) 1 1]).run Tryz.prog W1=.ok (goInt 1) (W1.setCells b (o+i * 9) (f9L F)):=fun ty dc =>
  run_copy_frs W1 34 ty b (o+i * 9) _ dc ⟨vb,0,none⟩ 1 1 1 (f9L F) (by simp only [Nat.min_def]; split <;> omega) rfl
   (fun j v hj=>by
    rw [addr_add,cell_of_row _ _ _ _ _ _ (HK1.out.row hvb hne),List.getElem?_toArray,Nat.zero_add]
    exact hj)
   (fun j hj=>by rw [cell_of_row _ _ _ _ _ _ HR1.out,List.getElem?_toArray,List.getElem?_eq_getElem (by rw [hs1]; rw [f9L_length] at hj; omega)]; rfl) (fun j _=>frozen_of_row _ _ _ _ _ HR1.out) (f9_oneQ F)
 have hov:∀ lb cb,(callFunc 150 #[.slice (some ⟨vb,0,none⟩) 1 1,.slice (some ⟨b,o+(i+1) * 9,none⟩) lb cb]).run Tryz.prog w=.ok (.value (.bool false)) w:=fun lb cb=>by
  rw [run_callFunc_extern Tryz.func150 (by kernel_rfl) (by kernel_rfl) (by kernel_rfl) (e:=Extern.SlicesOverlaps.overlaps #[34,34] #[4]) (by kernel_rfl),
   Lib.run_overlaps_apart w 34 4 104 Tryz.underlying34 9 sizeFr ⟨vb,0,none⟩ ⟨b,o+(i+1) * 9,none⟩ 1 1 lb cb hne 104 104 9 cur.size (by unfold World.shape?; rw [show w.heap[(⟨vb,0,none⟩:Addr).block]? = _ from hvb]; rfl) (by unfold World.shape?; rw [show w.heap[(⟨b,o+(i+1) * 9,none⟩:Addr).block]? = _ from hb]) (by omega) (frozen_of_row _ _ _ _ _ hvb) (frozen_of_row _ _ _ _ _ hvb)]
  rfl
 have HF:Hid (OwnF (W1.setCells b (o+i * 9) (f9L F)) base (.slice (some ⟨b,o,none⟩) (n+1) c) (insL L i F)):=by
  have hfit2:o+i * 9+(f9L F).length≤CR.length:=by rw [hs1,f9L_length]; omega
  have hr:=row_setCells (f9L F) (o+i * 9) W1 _ HR1.out (by rw [List.size_toArray]; exact hfit2)
  have hil:(insL L i F).length=n+1:=by rw [insL_length L i F (by omega),hL]
  refine .inr ⟨b,o,c,_,by rw [hil],hbase,hr,by rw [hil]; exact hnc,hcm,?_,fun j hj=>?_⟩
  ·rw [List.size_toArray,List.length_append,List.length_append,List.length_take,List.length_drop,List.toList_toArray,hs1,f9L_length]; omega
  ·rw [hil] at hj
   rw [List.getElem?_toArray,List.toList_toArray,get_spliced _ _ _ _ hfit2,insL_get L i F (by omega),f9L_length]
   by_cases h1:j<i * 9
   ·rw [if_pos (by omega),if_pos h1,hCg,if_pos (by omega),Array.getElem?_toList,htk j (by omega)]
   ·rw [if_neg (by omega),if_neg h1]
    by_cases h2:j<i * 9+9
    ·rw [if_pos (by omega),if_pos h2,show o+j - (o+i * 9)=j - i * 9 by omega]
    ·rw [if_neg (by omega),if_neg h2,hCg,if_neg (by omega),if_pos (by omega),frCells_drop,List.getElem?_drop,show i * 9+(o+j - (o+(i+1) * 9))=j - 9 by omega]
 have hq1:¬ (c=i+1):=by omega
 have hq2:¬ (c=i):=by omega
 have hq3:i≤n+1:=by omega
 have hq4:i+1≤n+1:=by omega
 have hw1:IntKind.i64.wrap ((i:Int)+1)=(i:Int)+1:=by rw [IntKind.wrap_i64]; omega
 have hb1:(0:Int)≤(i:Int)+1:=by omega
 have htn:((i:Int)+1).toNat=i+1:=by omega
 have hb5:(i:Int)≤(n:Int):=by omega
 have hb6:(i:Int)≤(n:Int)+1:=by omega
 have HK2:Hid (Kept (In1 b) w (W1.setCells b (o+i * 9) (f9L F))):=HK1.out.trans (kept_setCells b _ _ _)
 clear hcell hsome hfz hb hvb htk hsz hLl hdl hs1 hmul hCR hCg hfit
 go_enter Tryz.func113,Tryz.ntmps113
 go_wp2_with (simp only [hov])
 go_region_law (refine step_copy_runF rfl _ _ 34 34 rfl _ _ (by simp [Act.eval,Act.put]) (by simp [Act.eval,Act.put]) (hcp1 _ _ _) ?_)
 go_wp2_with (at_builtin; refine wpList_copy_runF _ rfl _ _ 34 34 rfl _ _ rfl rfl (hcp2 _ _) ?_)
 go_ret
 exact ⟨rfl,HF.out,HK2.out⟩
end Go.Proofs.YtadhpkopkkjmfaaGreatDoor
