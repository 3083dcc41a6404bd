/-
  On the way to SReadsProof: O27 O28R.
-/
import Derived.Test.YtjcflddbaeiajacGreatDoorBu50
set_option maxHeartbeats 8000000
set_option maxRecDepth 100000
namespace Go.Proofs.YtjcflddbaeiajacGreatDoor
open Go.RowKit
theorem dec_ne (n:Nat):Lib.decDigits n≠[]:=fun h=>by
 have h1:=Lib.decDigits_length n
 have h2:=Lib.nDigits_pos n
 rw [h] at h1
 simp at h1
 omega
theorem errO_ne {c:Nat} (h:c<9):errO (c+1)≠[]:=by
 have:∀ j,j<9→errO (j+1)≠[]:=by decide
 exact this c h
theorem join_ne {xs:List Bs} {sep:Bs} {x:Bs} (hx:x≠[]):Lib.join (x :: xs) sep≠[]:=fun h=>by
 rw [Lib.join_cons] at h
 exact hx (List.append_eq_nil_iff.1 h).1
theorem phaseO_ne (p:Int):phaseO p≠[]:=by
 unfold phaseO
 repeat' split
 all_goals simp
theorem lead_ne (N:PN) (d:Nat):(leadT N d).data.toList≠[]:=by
 unfold leadT
 split
 ·decide
 ·unfold stP
  repeat' split
  all_goals decide
theorem tell_ne (zs:List Int) (V:PX) (i:Nat) (a b:Int) (h:(tellQ zs V i a b).1.1=0):(tellQ zs V i a b).1.2≠[]:=by
 unfold tellQ at *
 split at h
 ·exact dec_ne _
 ·exact dec_ne _
 ·revert h
  show (if _ then _ else _:Nat×Bs).1=0→(if _ then _ else _:Nat×Bs).2≠[]
  split
  ·intro _ q
   exact phaseO_ne _ (List.append_eq_nil_iff.1 q).1
  ·intro q; cases q
 ·revert h
  show (if _ then _ else _:Nat×Bs).1=0→(if _ then _ else _:Nat×Bs).2≠[]
  split
  ·intro _
   exact lead_ne _ _
  ·intro q; cases q
 ·revert h
  show (if _ then _ else _:Nat×Bs).1=0→(if _ then _ else _:Nat×Bs).2≠[]
  split
  ·intro _
   show (if _ then _ else _:Bs)≠[]
   split <;> simp
  ·intro q; cases q
 ·show eventsO V.evs≠[]
  unfold eventsO
  cases V.evs with
  | nil=>simp
  | cons e r =>
   rw [if_neg (by simp),List.map_cons]
   refine join_ne fun q=>?_
   unfold evB at q
   exact dec_ne _ (List.append_eq_nil_iff.1 q).1
theorem res_ne (st:PSt) (i:Nat) (ns:List Int):(resP st i ns).1.1=0→(resP st i ns).1.2≠[]:=by
 unfold resP
 by_cases h0:i=0
 ·rw [if_pos h0]
  by_cases h1:errW ns=0
  ·rw [if_pos h1]; intro _; simp
  ·rw [if_neg h1]; intro h; exact absurd h h1
 ·rw [if_neg h0]
  cases st with
  | none=>intro h; cases h
  | some p =>
   obtain ⟨zs,V⟩:=p
   simp only
   by_cases h2:i≤12
   ·rw [if_pos h2]; intro _; simp
   ·rw [if_neg h2]; exact tell_ne _ _ _ _ _
theorem line_ne (st:PSt) (ws:List Bs):(lineP st ws).1.1=0→(lineP st ws).1.2≠[]:=by
 unfold lineP
 cases cmdO (ws.headD []) with
 | none=>intro h; cases h
 | some i =>
  simp only
  cases readO (formO.getD i []) (i == 0) ws.tail with
  | none=>intro h; cases h
  | some ns=>exact res_ne st i ns
theorem say_ne (st:PSt) (ws:List Bs):sayO (lineP st ws).1≠[]:=by
 have hc:=cod_line st ws
 unfold sayO
 split
 ·exact line_ne st ws ‹_›
 ·rename_i h0
  obtain ⟨c,hc2⟩:∃ c,(lineP st ws).1.1=c+1:=⟨(lineP st ws).1.1 - 1,by omega⟩
  rw [hc2] at hc ⊢
  exact errO_ne (by unfold CodO at hc; omega)
theorem say_none {st:PSt} {ws:List Bs} (h:cmdO (ws.headD [])=none):sayO (lineP st ws).1=errO 1:=by
 unfold lineP
 rw [h]
 rfl
theorem first_word:∀ (l:Bs) (j:Nat),(∀ i,i<j→l[i]?≠some 32)→(l.length≤j ∨ l[j]? = some 32)→(splO l).headD []=l.take j
 | [],j,_,_=>by simp [splO]
 | c :: r,0,_,h=>by
  rcases h with h|h
  ·simp at h
  ·obtain rfl:c=32:=by simpa using h
   simp [splO]
 | c :: r,j+1,h1,h2=>by
  have hc:c≠32:=fun e=>h1 0 (by omega) (by rw [e]; rfl)
  have ih:=first_word r j (fun i hi=>by have:=h1 (i+1) (by omega); simpa using this) (by
   rcases h2 with h|h
   ·left; simp at h; omega
   ·right; simpa using h)
  unfold splO
  rw [if_neg hc,List.take_succ_cons,← ih]
  split
  ·rename_i hs; rw [hs]; rfl
  ·rename_i hs; rw [hs]; rfl
theorem runP_length:∀ (st:PSt) (ls:List (List Bs)),(runP st ls).1.length=ls.length
 | _,[]=>rfl
 | st,l :: r=>by
  show (runP (lineP st l).2 r).1.length+1=r.length+1
  rw [runP_length _ r]
theorem runP_at:∀ (st:PSt) (ls:List (List Bs)) (i:Nat) (l:List Bs),ls[i]? = some l→∃ st',(runP st ls).1[i]? = some (sayO (lineP st' l).1)
 | st,[],i,l,h=>by simp at h
 | st,l0 :: r,0,l,h=>by
  obtain rfl:l0=l:=by simpa using h
  exact ⟨st,rfl⟩
 | st,l0 :: r,i+1,l,h=>by
  obtain ⟨st',h'⟩:=runP_at (lineP st l0).2 r i l (by simpa using h)
  exact ⟨st',by simpa [runP] using h'⟩
def regAt (f:Func) (n k:Nat):Oper:=((regF f n)[k]?).getD opNo
abbrev srP:List (Op×Option Nat×Option (Nat×Bool)):=[(Op.move (.tmp 6),some 104,none),(Op.move (.tmp 8),some 105,none),(Op.indexAddr 74 (.tmp 104) (.tmp 105),some 106,none),(Op.load 9 (.tmp 106),some 107,none),(Op.binOp .eql 9 (.tmp 107) (.const (.string ⟨#[]⟩)) 9,some 108,none),(Op.move (.tmp 108),some 109,none),(Op.move (.tmp 12),some 110,some (5,false)),(Op.unOp .not 4 (.tmp 110),some 111,some (5,false)),(Op.move (.tmp 111),some 112,some (5,false)),(Op.move (.tmp 6),some 113,some (8,true)),(Op.move (.tmp 8),some 114,some (8,true)),(Op.indexAddr 74 (.tmp 113) (.tmp 114),some 115,some (8,true)),(Op.load 9 (.tmp 115),some 116,some (8,true)),(Op.call { callee:=.value (.func 40),args:=#[.const (.int .i64 1)],argTypes:=#[3] },some 117,some (8,true)),(Op.binOp .neq 9 (.tmp 116) (.tmp 117) 9,some 118,some (8,true)),(Op.pick (.tmp 112) (.tmp 118) (.const (.bool false)),some 119,some (5,false)),(Op.pick (.tmp 109) (.const (.bool true)) (.tmp 119),some 120,none)]
abbrev srW:List (Nat×Nat):=[(2,0),(2,1),(3,2),(4,3),(5,4),(6,5),(7,6),(7,5),(8,7),(8,5),(9,8),(10,8),(11,9),(11,10),(11,8),(12,11),(12,8),(13,8),(14,12),(14,13),(14,8),(15,8),(15,14),(15,5),(16,5),(16,15)]
theorem sr_size:(regF Tryz.f9 25).size=17:=by kernel_rfl
theorem sr_parts:(List.range 17).map (fun i=>partO (regAt Tryz.f9 25 i))=srP:=by kernel_rfl
theorem sr_depsB:((regF Tryz.f9 25).toList.zipIdx.all fun p=>p.1.after.all fun e=>decide (e.on<p.2))=true:=by kernel_rfl
theorem sr_waits:(srW.all fun p=>(regAt Tryz.f9 25 p.1).after.any fun e=>e.on == p.2 && Region.binds .any e)=true:=by kernel_rfl
theorem sr_deps:∀ (i:Nat) (o:Oper),(regF Tryz.f9 25)[i]? = some o→∀ e,e∈o.after.toList→e.on<i:=by
 intro i o ho e he
 have h1:(o,i)∈(regF Tryz.f9 25).toList.zipIdx:=by
  rw [List.mem_zipIdx_iff_getElem?,← ho]; simp
 have h2:=List.all_eq_true.1 sr_depsB _ h1
 simp only [Array.all_eq_true'] at h2
 exact of_decide_eq_true (h2 e (Array.mem_toList_iff.1 he))
theorem sr_at {i:Nat} {o:Oper} (ho:(regF Tryz.f9 25)[i]? = some o):regAt Tryz.f9 25 i=o:=by
 unfold regAt
 rw [ho]; rfl
theorem sr_part {i:Nat} {o:Oper} (ho:(regF Tryz.f9 25)[i]? = some o) {p:Op×Option Nat×Option (Nat×Bool)} (hp:srP[i]? = some p):o.op=p.1∧o.dst=p.2.1∧o.guard=p.2.2:=by
 rw [← sr_parts,List.getElem?_map] at hp
 have hi:i<17:=by
  rcases Nat.lt_or_ge i 17 with h|h
  ·exact h
  ·rw [List.getElem?_eq_none (by simpa using h)] at hp; cases hp
 rw [List.getElem?_range hi] at hp
 have this:partO (regAt Tryz.f9 25 i)=p:=Option.some.inj hp
 rw [sr_at ho] at this
 rw [← this]
 exact ⟨rfl,rfl,rfl⟩
theorem sr_dst:∀ (i:Nat) (o:Oper),(regF Tryz.f9 25)[i]? = some o→o.dst=some (104+i):=by
 intro i o ho
 have hi:i<17:=by
  rcases Nat.lt_or_ge i 17 with h|h
  ·exact h
  ·rw [Array.getElem?_eq_none (by rw [sr_size]; exact h)] at ho; cases ho
 have:∀ j,j<17→(srP[j]?).map (·.2.1)=some (some (104+j)):=by decide
 have h2:=this i hi
 cases hp:srP[i]? with
 | none=>rw [hp] at h2; cases h2
 | some p =>
  rw [hp] at h2
  rw [(sr_part ho hp).2.1]
  exact Option.some.inj h2
theorem sr_dep {a:Act} {val:Nat→Value} {i:Nat} {o:Oper} (ho:(regF Tryz.f9 25)[i]? = some o) (hd:∀ e,e∈o.after.toList→Region.binds .any e=true→a.eval (.tmp (104+e.on))=val e.on) (j:Nat) (h:(i,j)∈srW):a.eval (.tmp (104+j))=val j:=by
 have h1:=List.all_eq_true.1 sr_waits (i,j) h
 obtain ⟨e,he,h2⟩:=Array.any_eq_true'.1 h1
 simp only [Bool.and_eq_true,beq_iff_eq] at h2
 rw [sr_at ho] at he
 have h3:=hd e (Array.mem_toList_iff.2 he) h2.2
 rw [h2.1] at h3; exact h3
abbrev eT1:ByteArray:=⟨#[116,104,114,101,101,102,111,108,100,58,32,116,101,120,116]⟩
section
variable {o:Oper} {a:Act} {w:World} {s u b d i k c:Nat} {v:Value}
theorem ex_ix (ho:o.op=.indexAddr 74 (.tmp s) (.tmp u)) (hs:a.eval (.tmp s)=.slice (some ⟨b,d,none⟩) k c) (hu:a.eval (.tmp u)=.int .i64 (i:Int)) (hi:i<k):(execOp a.eval o).run Tryz.prog w=.ok (.value (.pointer (some ⟨b,d+i,none⟩))) w:=by
 have h1:=eval_form hs
 have h2:=eval_form hu
 unfold execOp
 rw [ho]
 go_simp
theorem ex_ld (ho:o.op=.load 9 (.tmp s)) (hs:a.eval (.tmp s)=.pointer (some ⟨b,d,none⟩)) (hc:w.cell? ⟨b,d,none⟩=some (.string eT1)):(execOp a.eval o).run Tryz.prog w=.ok (.value (.string eT1)) w:=by
 have h1:=eval_form hs
 unfold execOp
 rw [ho]
 go_simp
theorem ex_eq0 (ho:o.op=.binOp .eql 9 (.tmp s) (.const (.string ⟨#[]⟩)) 9) (hs:a.eval (.tmp s)=.string eT1):(execOp a.eval o).run Tryz.prog w=.ok (.value (.bool false)) w:=by
 have h1:=eval_form hs
 unfold execOp
 rw [ho]
 go_simp
theorem ex_ne0 (ho:o.op=.binOp .neq 9 (.tmp s) (.tmp u) 9) (hs:a.eval (.tmp s)=.string eT1) (hu:a.eval (.tmp u)=.string eT1):(execOp a.eval o).run Tryz.prog w=.ok (.value (.bool false)) w:=by
 have h1:=eval_form hs
 have h2:=eval_form hu
 unfold execOp
 rw [ho]
 go_simp
theorem ex_not0 (ho:o.op=.unOp .not 4 (.tmp s)) (hs:a.eval (.tmp s)=.bool false):(execOp a.eval o).run Tryz.prog w=.ok (.value (.bool true)) w:=by
 have h1:=eval_form hs
 unfold execOp
 rw [ho]
 go_simp
theorem ex_pickA (ho:o.op=.pick (.tmp s) (.tmp u) (.const (.bool false))) (hs:a.eval (.tmp s)=.bool true) (hu:a.eval (.tmp u)=v):(execOp a.eval o).run Tryz.prog w=.ok (.value v) w:=by
 have h1:=eval_form hs
 have h2:=eval_form hu
 unfold execOp
 rw [ho]
 go_simp
theorem ex_pickO (ho:o.op=.pick (.tmp s) (.const (.bool true)) (.tmp u)) (hs:a.eval (.tmp s)=.bool false) (hu:a.eval (.tmp u)=v):(execOp a.eval o).run Tryz.prog w=.ok (.value v) w:=by
 have h1:=eval_form hs
 have h2:=eval_form hu
 unfold execOp
 rw [ho]
 go_simp
theorem ex_call1 {f:Nat} {ts:Array TypeId} (ho:o.op=.call { callee:=.value (.func f),args:=#[.const (.int .i64 1)],argTypes:=ts }) (he:∀ args w,(callFunc f args).run Tryz.prog w=.ok (.enter f args) w):(execOp a.eval o).run Tryz.prog w=.ok (.enter f #[.int .i64 1]) w:=by
 unfold execOp
 rw [ho]
 go_simp
end
def srV (u:Value) (b d i:Nat):Nat→Value
 | 0|9=>u
 | 1|10=>.int .i64 (i:Int)
 | 2|11=>.pointer (some ⟨b,d+i,none⟩)
 | 3|12|13=>.string eT1
 | 7|8=>.bool true
 | _=>.bool false
theorem sr_region {ops:Array Oper} {Q:Exit→Act→World→Prop} {a0:Act} {W:World} {b d i k c:Nat} (hops:ops=regF Tryz.f9 25) (hz:a0.tmps.size=121) (h6:a0.eval (.tmp 6)=.slice (some ⟨b,d,none⟩) k c) (h8:a0.eval (.tmp 8)=.int .i64 (i:Int)) (h12:a0.eval (.tmp 12)=.bool false) (hi:i<k) (hc:W.cell? ⟨b,d+i,none⟩=some (.string eT1))
  (hE:∀ w:World,Calls Tryz.prog 40 #[.int .i64 1] w fun e w'=>e=.returned (.string eT1)∧Below w.heap.size w w')
  (hQ:∀ (a:Act) w,a.tmps.size=121→a.defers=a0.defers→(∀ s,s<104→a.eval (.tmp s)=a0.eval (.tmp s))→a.eval (.tmp 120)=.bool false→Below W.heap.size W w→Q .normal a w) :
  (Code.region 25 ops true).wp Tryz.prog Q a0 W:=by
 subst hops
 refine wp_tab (val:=srV (.slice (some ⟨b,d,none⟩) k c) b d i) (lo:=104) (n:=17) sr_size (by omega) sr_deps sr_dst ?_ (fun a w q1 q2 q3 q4 q5=>hQ a w (q1.trans hz) q2 q3 (q4 16 (by decide)) q5)
 intro j o hj ho a w q1 q3 q4 q5
 have dep:=fun x (h:(j,x)∈srW)=>sr_dep ho q4 x h
 have e6:=(q3 6 (by decide)).trans h6
 have e8:=(q3 8 (by decide)).trans h8
 have e12:=(q3 12 (by decide)).trans h12
 have c0:w.cell? ⟨b,d+i,none⟩=some (.string eT1):=cell_later q5 hc
 have g5:∀ o',(j,5)∈srW→o'.guard=some (5,false)→Region.wanted o' (yielded (regF Tryz.f9 25) a.tmps)=true:=fun o' h hg=>by
  have h5:(regF Tryz.f9 25)[5]? = some ((regF Tryz.f9 25)[5]'(by rw [sr_size]; decide)):=Array.getElem?_eq_getElem _
  exact want_of hg h5 (sr_dst 5 _ h5) (dep 5 h)
 have g8:∀ o',(j,8)∈srW→o'.guard=some (8,true)→Region.wanted o' (yielded (regF Tryz.f9 25) a.tmps)=true:=fun o' h hg=>by
  have h8:(regF Tryz.f9 25)[8]? = some ((regF Tryz.f9 25)[8]'(by rw [sr_size]; decide)):=Array.getElem?_eq_getElem _
  exact want_of hg h8 (sr_dst 8 _ h8) (dep 8 h)
 have rf:=Below.refl w.heap.size w
 have hc17:j=0 ∨ j=1 ∨ j=2 ∨ j=3 ∨ j=4 ∨ j=5 ∨ j=6 ∨ j=7 ∨ j=8 ∨ j=9 ∨ j=10 ∨ j=11 ∨ j=12 ∨ j=13 ∨ j=14 ∨ j=15 ∨ j=16:=by omega
 rcases hc17 with rfl|rfl|rfl|rfl|rfl|rfl|rfl|rfl|rfl|rfl|rfl|rfl|rfl|rfl|rfl|rfl|rfl <;> obtain ⟨p1,p2,p3⟩:=sr_part ho rfl
 ·exact ⟨want_none p3,fun K hK=>op_value (ex_move (.inl p1) e6) (hK _ rf)⟩
 ·exact ⟨want_none p3,fun K hK=>op_value (ex_move (.inl p1) e8) (hK _ rf)⟩
 ·exact ⟨want_none p3,fun K hK=>op_value (ex_ix p1 (dep 0 (by decide)) (dep 1 (by decide)) hi) (hK _ rf)⟩
 ·exact ⟨want_none p3,fun K hK=>op_value (ex_ld p1 (dep 2 (by decide)) c0) (hK _ rf)⟩
 ·exact ⟨want_none p3,fun K hK=>op_value (ex_eq0 p1 (dep 3 (by decide))) (hK _ rf)⟩
 ·exact ⟨want_none p3,fun K hK=>op_value (ex_move (.inl p1) (dep 4 (by decide))) (hK _ rf)⟩
 ·exact ⟨g5 _ (by decide) p3,fun K hK=>op_value (ex_move (.inl p1) e12) (hK _ rf)⟩
 ·exact ⟨g5 _ (by decide) p3,fun K hK=>op_value (ex_not0 p1 (dep 6 (by decide))) (hK _ rf)⟩
 ·exact ⟨g5 _ (by decide) p3,fun K hK=>op_value (ex_move (.inl p1) (dep 7 (by decide))) (hK _ rf)⟩
 ·exact ⟨g8 _ (by decide) p3,fun K hK=>op_value (ex_move (.inl p1) e6) (hK _ rf)⟩
 ·exact ⟨g8 _ (by decide) p3,fun K hK=>op_value (ex_move (.inl p1) e8) (hK _ rf)⟩
 ·exact ⟨g8 _ (by decide) p3,fun K hK=>op_value (ex_ix p1 (dep 9 (by decide)) (dep 10 (by decide)) hi) (hK _ rf)⟩
 ·exact ⟨g8 _ (by decide) p3,fun K hK=>op_value (ex_ld p1 (dep 11 (by decide)) c0) (hK _ rf)⟩
 ·refine ⟨g8 _ (by decide) p3,fun K hK=>?_⟩
  unfold Oper.wp
  rw [ex_call1 p1 (enters_of Tryz.func40 (by kernel_rfl) rfl)]
  refine (hE w).mono ?_
  rintro e w' ⟨rfl,hb⟩
  exact hK _ hb
 ·exact ⟨g8 _ (by decide) p3,fun K hK=>op_value (ex_ne0 p1 (dep 12 (by decide)) (dep 13 (by decide))) (hK _ rf)⟩
 ·exact ⟨g5 _ (by decide) p3,fun K hK=>op_value (ex_pickA p1 (dep 8 (by decide)) (dep 14 (by decide))) (hK _ rf)⟩
 ·exact ⟨want_none p3,fun K hK=>op_value (ex_pickO p1 (dep 5 (by decide)) (dep 15 (by decide))) (hK _ rf)⟩
end Go.Proofs.YtjcflddbaeiajacGreatDoor
