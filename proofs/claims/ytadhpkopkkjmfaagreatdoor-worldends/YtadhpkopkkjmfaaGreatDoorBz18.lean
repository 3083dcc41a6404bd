/-
  On the way to WStepsProof, WCommitsProof, WAgreesProof, WEndsProof, WWaitsProof, PAgainProof: YHB.
-/
import Derived.Test.YtadhpkopkkjmfaaGreatDoorBz6
import Derived.Deep.RegionLaw
set_option maxHeartbeats 8000000
set_option maxRecDepth 100000
namespace Go.Proofs.YtadhpkopkkjmfaaGreatDoor
open Go.RowKit
theorem Tryz.infoME:(Tryz.prog.info? 121).map (fun i=>(i.zero,i.size,i.bytes))=some (some (.agg #[.int .i64 0,.int .i64 0,.int .i64 0]),3,24):=by kernel_rfl
theorem me3_one (x:E3):∀ u∈e3L x,u.oneCell'=true:=by
 intro u hu
 simp [e3L] at hu
 rcases hu with rfl|rfl|rfl <;> rfl
theorem step_append_me1 {w:World} {ops:Array Oper} {o:Oper} {a:Act} {K:Act→World→Prop} {Q:Exit→Act→World→Prop} {E:Prop} (hgd:o.guard=none) (s x:Operand)
  (ho:o.op=.call { callee:=.builtin .append,args:=#[s,x],argTypes:=#[57,57] })
  (base n:Nat) (v:Value) (xs:List Value) (ad:Addr) (c:Nat) (F:E3) (hs:a.eval s=v) (hx:a.eval x=.slice (some ad) 1 c) (hown:w.ownsRow base 121 3 v n xs) (hu:∀ j u,(e3L F)[j]? = some u→w.cell? (ad.add j)=some u) (hn:n≤1000000000000) (hb:base≤w.heap.size)
  (h:∀ ad' cap' w',w'.ownsRow base 121 3 (.slice ad' (n+1) cap') (n+1) (xs ++ e3L F)→w.grownBy w' v.ownBlock→K (a.put o.dst (.slice ad' (n+1) cap')) w') :
  if Region.wanted o (yielded ops a.tmps)=true then Oper.wp Tryz.prog o a w K Q else E:=by
 have hw:Region.wanted o (yielded ops a.tmps)=true:=by simp [Region.wanted,hgd]
 rw [if_pos hw]
 obtain ⟨i0,hi0,hz0,hz1,hz2⟩:=info_parts Tryz.infoME
 obtain ⟨v',w',hr,h2,h3,-,-⟩:=run_append_own_at (P:=Tryz.prog) w base 57 o.type 121 i0 _ 3 24 Tryz.underlying57 hi0 hz0 hz1 hz2 rfl (by decide) v n xs hown ad 1 c (e3L F) rfl hu (me3_one F) (by unfold maxLen; omega) (by omega) hb
 obtain ⟨ad',cap',rfl⟩:∃ ad' cap',v'=.slice ad' (n+1) cap':=by
  rcases h2.2 with ⟨e,h0⟩|⟨g,cap,cur,e,-⟩
  ·omega
  ·exact ⟨_,_,e⟩
 unfold Oper.wp execOp
 simp only [ho,resolve,invoke,builtin,Sem.run_bind,Sem.run_pure,Result.andThen_ok,List.map_toArray,List.map_cons,List.map_nil,hs,hx,hr]
 exact h ad' cap' w' h2 h3
theorem lit_cellsM (w:World) (t:TypeId) (L:List Value):∀ j u,L[j]? = some u→(w.alloc (.cells L.toArray t)).cell? ((⟨w.heap.size,0,none⟩:Addr).add j)=some u:=by
 intro j u h
 rw [addr_add,cell_of_row _ _ _ _ _ _ (heap_alloc_new w _),List.getElem?_toArray,Nat.zero_add]
 exact h
theorem evs_take (L:List E3) (k:Nat) (h:k<L.length):evCells (L.take (k+1))=evCells (L.take k) ++ e3L (L[k]'h):=by
 unfold evCells
 rw [take_snoc L k h,List.flatMap_append,List.flatMap_singleton]
theorem backEvents_any (ad:Option Addr) (cap:Nat) (L:List E3) (w:World) (hL:EL w ad L) (hl:L.length≤1000) :
  Calls Tryz.prog 30 #[.slice ad L.length cap] w fun e w'=>∃ ad' cap',e=.returned (.slice ad' L.length cap')∧EL w' ad' L∧Below w.heap.size w w':=by
 have HL:=hid hL
 clear hL
 go_enter Tryz.func30,Tryz.ntmps30
 go_wp2_with fail
 go_loopw [3,4] (fun v i wr=>∃ k:Nat,k≤L.length∧i=.int .i64 (k:Int)∧wr.ownsRow w.heap.size 121 3 v k (evCells (L.take k))∧Below w.heap.size w wr) (fun _ i _=>L.length - (intOf i).toNat)
 case atStart=>exact ⟨0,Nat.zero_le _,rfl,World.ownsRow_nil _ _ _ _,Below.refl _ _⟩
 case round =>
  obtain ⟨k,hk,rfl,hown,hb⟩:=hrel
  have HB:=hid hb
  by_cases hlt:k<L.length
  ·obtain ⟨b,o,rfl,y0,y1,y2⟩:=HL.out k hlt
   obtain ⟨⟨es,ed,ep⟩,HS⟩:∃ e,Hid (L[k]'hlt=e):=⟨_,rfl⟩
   rw [HS.out] at y0 y1 y2
   replace y0:=cell_later hb y0
   replace y1:=cell_later hb y1
   replace y2:=cell_later hb y2
   obtain ⟨W2,HW2⟩:∃ W2,Hid (wr.drew.alloc (.cells #[.int .i64 es,.int .i64 ed,.int .i64 ep] 121)=W2):=⟨_,rfl⟩
   have hW2:=HW2.out
   have HB2:Hid (Below wr.heap.size wr W2):=by rw [← HW2.out]; exact (Below.refl _ _).drew.alloc (Nat.le_refl _) _
   have HO:Hid (W2.ownsRow w.heap.size 121 3 u3 k (evCells (L.take k))):=own_later hown HB2.out (Nat.le_refl _)
   have HLit:Hid (∀ j u,(e3L ⟨es,ed,ep⟩)[j]? = some u→W2.cell? ((⟨wr.heap.size,0,none⟩:Addr).add j)=some u):=by rw [← HW2.out]; exact lit_cellsM wr.drew 121 (e3L ⟨es,ed,ep⟩)
   have HTk:=hid (evs_take L k hlt)
   rw [HS.out] at HTk
   have hbs:w.heap.size≤W2.heap.size:=Nat.le_trans hb.size HB2.out.size
   have hk60:k≤1000000000000:=by omega
   have HBo:Hid (∀ w',W2.grownBy w' u3.ownBlock→Below w.heap.size w w'):=fun w' hg=>Below.grown (below_trans HB.out HB2.out) hg hbs (fun q hq=>(HO.out.lt q hq).1)
   clear hb hown
   go_wp2_with fail
   go_region_law ((refine step_append_me1 (by rfl) _ _ (by rfl) w.heap.size k u3 (evCells (L.take k)) ⟨wr.heap.size,0,none⟩ 1 ⟨es,ed,ep⟩ (by rfl) (by rfl) (by exact HO.out) (by exact HLit.out) hk60 hbs ?_; intro ad' cap' w' hown hg; have HS2:=hid (And.intro hown (HBo.out w' hg)); clear hown hg))
   all_goals go_wp2_with fail
   all_goals go_roundw
   all_goals first|(simp [intOf]; omega)|skip
   all_goals exact ⟨k+1,by omega,by go_num,by rw [HTk.out]; exact HS2.out.1,HS2.out.2⟩
  ·obtain rfl:k=L.length:=by omega
   rw [List.take_length] at hown
   obtain ⟨adO,capO,rfl,-,-,hO⟩:=own_el hown
   have HOw:=hid hO
   have hk2:¬ ((L.length:Int)<(L.length:Int)):=by omega
   clear hown hb hO
   go_wp2_with fail
   go_ret
   exact ⟨_,⟨_,rfl⟩,HOw.out,HB.out⟩
end Go.Proofs.YtadhpkopkkjmfaaGreatDoor
