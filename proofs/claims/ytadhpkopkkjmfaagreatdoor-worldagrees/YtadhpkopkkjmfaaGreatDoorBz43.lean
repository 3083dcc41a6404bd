/-
  On the way to WStepsProof, WCommitsProof, WAgreesProof, WEndsProof, WWaitsProof, JTampersProof, PAgreesProof, PAgainProof: VV UA.
-/
import Derived.Test.YtadhpkopkkjmfaaGreatDoorBz42
set_option maxHeartbeats 8000000
set_option maxRecDepth 100000
namespace Go.Proofs.YtadhpkopkkjmfaaGreatDoor
open Go.RowKit
theorem own_form {w:World} {base n:Nat} {v:Value} {L:List F9} (h:w.ownsRow base 104 9 v L.length (frCells L)) (hn:L.length=n) (h0:0<n):∃ g cap cur,v=.slice (some ⟨g,0,none⟩) n cap∧base≤g∧w.heap[g]? = some (.cells cur 104 (0,0))∧n≤cap∧cap≤maxLen∧cur.size=cap * 9∧cur.toList.take (n * 9)=frCells L:=by
 subst hn
 rcases h.2 with ⟨-,h0'⟩|⟨g,cap,cur,h1,h2,h3,h4,h5,h6,h7⟩
 ·omega
 ·exact ⟨g,cap,cur,h1,h2,h3,h4,h5,h6,h7⟩
theorem del_frs1 (base g cap k n:Nat) (cur:Array Value) (L:List F9) (w:World) (hg:w.heap[g]? = some (.cells cur 104 (0,0))) (hb:base≤g) (hn:L.length=n) (h1:n≤cap) (h2:cap≤maxLen) (hs:cur.size=cap * 9) (ht:cur.toList.take (n * 9)=frCells L) (hk:k<n) :
  Calls Tryz.prog 107 #[.slice (some ⟨g,0,none⟩) n cap,.int .i64 (k:Int),.int .i64 ((k:Int)+1)] w fun e w'=>e=.returned (.slice (some ⟨g,0,none⟩) (n - 1) cap)∧w'.ownsRow base 104 9 (.slice (some ⟨g,0,none⟩) (n - 1) cap) (n - 1) (frCells (L.eraseIdx k))∧Kept (In1 g) w w':=by
 have h:=del_frs base g cap k (k+1) n cur L w hg hb hn h1 h2 hs ht hk rfl
 rw [show ((k+1:Nat):Int)=(k:Int)+1 by omega] at h
 exact h
theorem wrap7 {k:Nat} (h:k<7):IntKind.i64.wrap ((k:Int)+1)=(k:Int)+1:=by
 have:k=0 ∨ k=1 ∨ k=2 ∨ k=3 ∨ k=4 ∨ k=5 ∨ k=6:=by omega
 rcases this with rfl|rfl|rfl|rfl|rfl|rfl|rfl <;> decide
def electsL (s:Nat) (d a:Int) (n:Nat):List F9:=(toL s d 3 a 0 n).eraseIdx s
theorem ldStart1_any {w:World} {lb b cap id:Nat} {deal att:Int} {zs:List Int} {P:PL} (hn:zs.length≤7) (hi:id<zs.length) (ha:att≠0) (h:LD w lb b cap id deal att zs P) :
  Calls Tryz.prog 58 #[.pointer (some ⟨lb,0,none⟩)] w fun e w'=>∃ v,e=.returned v∧FrB w.heap.size w' v (electsL id deal att zs.length)∧Below w.heap.size w w':=by
 obtain ⟨c0,c1,c2,-⟩:=h.cells
 have H:=hid h
 have hlb:=row_ltJ h.row
 have ha':(att == 0)=false:=beq_eq_false_iff_ne.2 ha
 obtain ⟨L,HL⟩:∃ L,Hid (toL id deal 3 att 0 zs.length=L):=⟨_,rfl⟩
 obtain ⟨n,hnn⟩:∃ n,Hid (zs.length=n):=⟨_,rfl⟩
 have HLen:Hid (L.length=n):=by rw [← HL.out,← hnn.out]; exact toL_length id deal 3 att 0 zs.length
 have HEl:Hid (electsL id deal att zs.length=L.eraseIdx id):=by rw [← HL.out]; exact rfl
 rw [HEl.out]
 rw [hnn.out] at hi
 have HWr:=hid (wrap7 (show id<7 by have:=hnn.out; omega))
 have HTA:Hid (∀ w:World,LD w lb b cap id deal att zs P→Calls Tryz.prog 106 #[.pointer (some ⟨lb,0,none⟩),.int .i64 3,.int .i64 0] w fun e w'=>∃ g cp cur,e=.returned (.slice (some ⟨g,0,none⟩) n cp)∧(w.heap.size≤g∧w'.heap[g]? = some (.cells cur 104 (0,0))∧n≤cp∧cp≤maxLen∧cur.size=cp * 9∧cur.toList.take (n * 9)=frCells L)∧Below w.heap.size w w'):=by
  intro w hw
  refine (ldtoAll_own lb b cap id deal att zs P 3 0 w hw hn).mono ?_
  rintro e w' ⟨v,he,ho,hb⟩
  rw [HL.out] at ho
  obtain ⟨g,cp,cur,hv,hg⟩:=own_form ho HLen.out (by omega)
  exact ⟨g,cp,cur,by rw [he,hv],hg,hb⟩
 clear h
 go_enter Tryz.func58,Tryz.ntmps58
 go_wp2_with fail
 go_region_held3 (fun V=>V.cell? ⟨lb,0,none⟩=some (.int .i64 (id:Int))) (go_keep) (first|(go_at_call 106; (with_reducible refine (HTA.out _ (H.out.later (Below.refl _ _).drew)).mono ?_); rintro e w1 ⟨g,cp,cur,rfl,hg,hb⟩; have q0:=cell_later hb c0; have HO1:Hid (w.heap.size≤g):=hg.1; have HO:=hid hg.2; have HB:=hid (show Below w.heap.size w w1 from (Below.refl _ w).drew.trans hb); clear hb hg)|(go_at_call 107; rw [HWr.out]; (with_reducible refine (del_frs1 w.heap.size g cp id n cur L _ HO.out.1 HO1.out HLen.out HO.out.2.1 HO.out.2.2.1 HO.out.2.2.2.1 HO.out.2.2.2.2 hi).mono ?_); rintro e w2 ⟨rfl,ho2,hk2⟩; have HD:=hid (And.intro ho2 hk2); have q1:=keptCell hk2 q0 (fun e=>by have h1:=HO1.out; have h2:lb=g:=e; omega); clear ho2 hk2))
 all_goals go_wp2_with fail
 all_goals go_ret
 all_goals refine ⟨_,rfl,?_,HD.out.2.below HB.out.size (fun x hx=>by rw [show x=g from hx]; exact HO1.out) HB.out⟩
 all_goals
  have h1:=HD.out.1
  have e1:(L.eraseIdx id).length=n - 1:=by rw [List.length_eraseIdx_of_lt (by rw [HLen.out]; exact hi),HLen.out]
  rw [← e1] at h1 ⊢
  exact FrB.owned h1
theorem sl_nilF (b off n cap:Nat) (w:World):(binOp .eql 34 (.slice (some ⟨b,off,none⟩) n cap) (.slice none 0 0)).run Tryz.prog w=.ok (.bool false) w:=by
 rfl
theorem sl_nilF0 (w:World):(binOp .eql 34 (.slice none 0 0) (.slice none 0 0)).run Tryz.prog w=.ok (.bool true) w:=by
 rfl
theorem sl_nilE0 (w:World):(binOp .eql 45 (.slice none 0 0) (.slice none 0 0)).run Tryz.prog w=.ok (.bool true) w:=by
 rfl
theorem sl_nilE (b off n cap:Nat) (w:World):(binOp .eql 45 (.slice (some ⟨b,off,none⟩) n cap) (.slice none 0 0)).run Tryz.prog w=.ok (.bool false) w:=by
 rfl
theorem cloneFrs_any (base:Nat) (v:Value) (L:List F9) (w:World) (hv:OwnF w base v L) (hl:L.length≤1000000000000) :
  Calls Tryz.prog 59 #[v] w fun e w'=>∃ v',e=.returned v'∧w'.ownsRow w.heap.size 104 9 v' L.length (frCells L)∧Below w.heap.size w w':=by
 have hf:=hv.isFr
 rcases hv with ⟨e,h0⟩|⟨g,o,cap,cur,e,-⟩
 ·subst e
  subst h0
  clear hf
  have hnil:=sl_nilF0
  go_enter Tryz.func59,Tryz.ntmps59
  go_wp2_with fail
  go_ret
  exact ⟨_,rfl,World.ownsRow_nil _ _ _ _,Below.refl _ _⟩
 ·subst e
  have hnil:=sl_nilF g o L.length cap
  have HF:=hid (hf.later ((Below.refl w.heap.size w).alloc (Nat.le_refl _) (.cells #[] 104)))
  have HOw:Hid ((w.alloc (.cells #[] 104)).ownsRow w.heap.size 104 9 (.slice (some ⟨w.heap.size,0,none⟩) 0 0) 0 []):=World.ownsRow_lit w #[] 0 (Nat.le_refl _) (by unfold maxLen; omega) rfl
  clear hf
  go_enter Tryz.func59,Tryz.ntmps59
  go_wp2_with (at_builtin; refine wpList_append_frs rfl _ _ rfl w.heap.size 0 (.slice (some ⟨w.heap.size,0,none⟩) 0 0) (.slice (some ⟨g,o,none⟩) L.length cap) [] L rfl rfl HOw.out HF.out (by omega) (by simp) ?_; intro ad' cap' w1 hown hg ho; have HS:=hid (And.intro hown hg); clear hown hg ho)
  go_ret
  refine ⟨_,rfl,?_,((Below.refl w.heap.size w).alloc (Nat.le_refl _) (.cells #[] 104)).grown HS.out.2 (by simp) (fun j hj=>(HOw.out.lt j hj).1)⟩
  have:=HS.out.1
  simpa using this
theorem wpList_append_evs {w:World} {ops:Array Oper} {rest:List Oper} {o:Oper} {a:Act} {Q:Exit→Act→World→Prop} (hgd:o.guard=none) (s x:Operand)
  (ho:o.op=.call { callee:=.builtin .append,args:=#[s,x],argTypes:=#[45,45] })
  (base n:Nat) (v:Value) (ad:Addr) (c:Nat) (xs:List Value) (L:List E3) (hs:a.eval s=v) (hx:a.eval x=.slice (some ad) L.length c) (hown:w.ownsRow base 75 3 v n xs) (hu:∀ j u,(evCells L)[j]? = some u→w.cell? (ad.add j)=some u) (hn:n+L.length≤1000000000000) (hb:base≤w.heap.size)
  (h:∀ ad' cap' w',w'.ownsRow base 75 3 (.slice ad' (n+L.length) cap') (n+L.length) (xs ++ evCells L)→w.grownBy w' v.ownBlock→wpList Tryz.prog ops Q rest (a.put o.dst (.slice ad' (n+L.length) cap')) w') :
  wpList Tryz.prog ops Q (o :: rest) a w:=by
 obtain ⟨i0,hi0,hz0,hz1,hz2⟩:=info_parts Tryz.infoEv
 refine wpList_append_own_at w hgd s x 45 ho base 75 i0 _ 3 24 Tryz.underlying45 hi0 hz0 hz1 hz2 rfl (by decide) v n xs hs hown ad L.length c (evCells L) hx (evCells_length L) hu (fun u hu=>?_) (by unfold maxLen; omega) (by omega) hb ?_
 ·unfold evCells at hu
  obtain ⟨y,-,hy⟩:=List.mem_flatMap.1 hu
  exact e3_one y u hy
 ·intro v' w' h2 h3 _ h5
  obtain ⟨ad',cap',rfl⟩:∃ ad' cap',v'=.slice ad' (n+L.length) cap':=by
   rcases h2.2 with ⟨e,h0⟩|⟨g,cap,cur,e,-⟩
   ·exact ⟨none,0,by rw [e,h0]⟩
   ·exact ⟨_,_,e⟩
  exact h ad' cap' w' h2 h3
theorem cloneEvs_any (base:Nat) (v:Value) (L:List E3) (w:World) (hv:w.ownsRow base 75 3 v L.length (evCells L)) (hl:L.length≤1000000000000) :
  Calls Tryz.prog 66 #[v] w fun e w'=>∃ v',e=.returned v'∧w'.ownsRow w.heap.size 75 3 v' L.length (evCells L)∧Below w.heap.size w w':=by
 rcases hv.2 with ⟨e,h0⟩|⟨g,cap,cur,e,-⟩
 ·subst e
  obtain rfl:L=[]:=List.length_eq_zero_iff.1 h0
  clear hv h0
  have hnil:=sl_nilE0
  go_enter Tryz.func66,Tryz.ntmps66
  go_wp2_with fail
  go_ret
  exact ⟨_,rfl,World.ownsRow_nil _ _ _ _,Below.refl _ _⟩
 ·subst e
  have hnil:=sl_nilE g 0 L.length cap
  have HF:Hid (∀ j u,(evCells L)[j]? = some u→(w.alloc (.cells #[] 75)).cell? ((⟨g,0,none⟩:Addr).add j)=some u):=fun j u hu=>cell_alloc _ (hv.cells rfl j u hu)
  have HOw:Hid ((w.alloc (.cells #[] 75)).ownsRow w.heap.size 75 3 (.slice (some ⟨w.heap.size,0,none⟩) 0 0) 0 []):=World.ownsRow_lit w #[] 0 (Nat.le_refl _) (by unfold maxLen; omega) rfl
  clear hv
  go_enter Tryz.func66,Tryz.ntmps66
  go_wp2_with (at_builtin; refine wpList_append_evs rfl _ _ rfl w.heap.size 0 (.slice (some ⟨w.heap.size,0,none⟩) 0 0) ⟨g,0,none⟩ cap [] L rfl rfl HOw.out HF.out (by omega) (by simp) ?_; intro ad' cap' w1 hown hg; have HS:=hid (And.intro hown hg); clear hown hg)
  go_ret
  refine ⟨_,rfl,?_,((Below.refl w.heap.size w).alloc (Nat.le_refl _) (.cells #[] 75)).grown HS.out.2 (by simp) (fun j hj=>(HOw.out.lt j hj).1)⟩
  have:=HS.out.1
  simpa using this
section
variable {w0 w w':World} {C C':Nat→Nat} {K:NB} {X:XB} {i m m':Nat} {zs:List Int} {N:PN} {V V':PX} {A:Nat→Addr}
theorem flying_any (h:WD w0 w C X zs V m) (hm:m≤100000000) :
  Calls Tryz.prog 19 #[.pointer (some ⟨X.xb,0,none⟩)] w fun e w'=>∃ v',e=.returned v'∧w'.ownsRow w.heap.size 104 9 v' V.fly.length (frCells V.fly)∧Below w.heap.size w w':=by
 obtain ⟨-,-,-,c3,-⟩:=h.cells
 have HC:=hid (cloneFrs_any w0.heap.size X.fv V.fly w h.fly (by have:=h.inv.fl; omega))
 generalize X.fv=fv at c3 HC
 clear h
 go_enter Tryz.func19,Tryz.ntmps19
 go_wp2_with fail
 refine HC.out.mono ?_
 rintro e w1 ⟨v',rfl,h1,h2⟩
 have HH:=hid (And.intro h1 h2)
 clear h1 h2
 go_wp2_with fail
 go_ret
 exact ⟨_,rfl,HH.out⟩
theorem events_any (h:WD w0 w C X zs V m) :
  Calls Tryz.prog 24 #[.pointer (some ⟨X.xb,0,none⟩)] w fun e w'=>∃ v',e=.returned v'∧w'.ownsRow w.heap.size 75 3 v' V.evs.length (evCells V.evs)∧Below w.heap.size w w':=by
 obtain ⟨-,-,-,-,c4⟩:=h.cells
 have HC:=hid (cloneEvs_any w0.heap.size X.ev V.evs w h.evs (by have:=h.inv.ev; omega))
 generalize X.ev=fv at c4 HC
 clear h
 go_enter Tryz.func24,Tryz.ntmps24
 go_wp2_with fail
 refine HC.out.mono ?_
 rintro e w1 ⟨v',rfl,h1,h2⟩
 have HH:=hid (And.intro h1 h2)
 clear h1 h2
 go_wp2_with fail
 go_ret
 exact ⟨_,rfl,HH.out⟩
end
end Go.Proofs.YtadhpkopkkjmfaaGreatDoor
