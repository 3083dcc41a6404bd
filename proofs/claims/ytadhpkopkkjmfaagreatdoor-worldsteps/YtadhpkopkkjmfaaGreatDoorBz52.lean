/-
  On the way to WStepsProof: XJ XK XL XM.
-/
import Derived.Test.YtadhpkopkkjmfaaGreatDoorBz49
import Derived.DeepKeys
set_option maxHeartbeats 8000000
set_option maxRecDepth 100000
namespace Go.Proofs.YtadhpkopkkjmfaaGreatDoor
open Go.RowKit
theorem twoCells_get:∀ (L:List (Nat×Nat)) (i j:Nat) (h:i<L.length),j<2→(twoCells L)[i * 2+j]? = (twoL (L[i]'h))[j]?
 | [],i,_,h,_=>absurd h (Nat.not_lt_zero _)
 | x :: L,0,j,_,hj=>by
  show (twoL x ++ twoCells L)[0 * 2+j]? = _
  rw [Nat.zero_mul,Nat.zero_add,List.getElem?_append_left (by show j<2; exact hj)]
  rfl
 | x :: L,i+1,j,h,hj=>by
  show (twoL x ++ twoCells L)[(i+1) * 2+j]? = _
  rw [List.getElem?_append_right (by show 2≤_; omega),show (i+1) * 2+j - (twoL x).length=i * 2+j by show _ - 2=_; omega]
  exact twoCells_get L i j (by simpa using h) hj
theorem two_plain:Tryz.prog.plainKey 3=true:=by kernel_rfl
theorem two_under:Tryz.prog.underlying 200=some (.array 2 3):=by kernel_rfl
theorem two_cellsX:Tryz.prog.cellsOf 3=1:=by kernel_rfl
theorem two_int:Tryz.prog.underlying 3=some (.int .i64):=by kernel_rfl
theorem two_info:(Tryz.prog.info? 3).isSome=true:=by kernel_rfl
theorem two_equal (x y a b:Int) (w:World):(Op.equalIn (9999+1) 200 (.agg #[.int .i64 x,.int .i64 y]) (.agg #[.int .i64 a,.int .i64 b])).run Tryz.prog w=.ok (decide (x=a∧y=b)) w:=by
 obtain ⟨i,hi⟩:=Option.isSome_iff_exists.1 two_info
 rw [run_equalIn_array w 9999 _ _ two_under hi,two_cellsX]
 have p0:∀ (u v:Int) w,(part 3 #[.int .i64 u,.int .i64 v] (0 * 1)).run Tryz.prog w=.ok (.int .i64 u) w:=fun u v w=>run_part_plain w two_plain rfl
 have p1:∀ (u v:Int) w,(part 3 #[.int .i64 u,.int .i64 v] 1).run Tryz.prog w=.ok (.int .i64 v) w:=fun u v w=>run_part_plain w two_plain rfl
 have q:∀ (u v:Int) w,(Op.equalIn 9999 3 (.int .i64 u) (.int .i64 v)).run Tryz.prog w=.ok (u == v) w:=fun u v w=>run_equalIn_int w 9998 _ _ _ u v two_int
 show (Op.eqItems 9999 3 1 _ _ [0,1]).run Tryz.prog w=_
 simp only [Op.eqItems,Sem.run_bind,p0,q,Result.andThen_ok]
 by_cases h0:x=a <;> by_cases h1:y=b <;> simp [h0,h1,p1,q]
theorem two_eq (x y a b:Int) (w:World):(binOp .eql 200 (.agg #[.int .i64 x,.int .i64 y]) (.agg #[.int .i64 a,.int .i64 b])).run Tryz.prog w=.ok (.bool (decide (x=a∧y=b))) w:=by
 have h:=two_equal x y a b w
 rw [show 9999+1=10000 from rfl] at h
 go_simp
section
variable {w0 w w':World} {C C':Nat→Nat} {Y:YB} {aw:Option Addr} {cap m m':Nat} {zs:List Int} {V V':PX}
theorem own_two {base n:Nat} {v:Value} {L:List (Nat×Nat)} (h:w.ownsRow base 200 2 v n (twoCells L)) (hn:L.length=n):∃ a c,v=.slice a n c∧∀ i (hi:i<L.length),∃ g,a=some ⟨g,0,none⟩∧w.cell? ⟨g,i * 2,none⟩=some (.int .i64 ((L[i]'hi).1:Int))∧w.cell? ⟨g,i * 2+1,none⟩=some (.int .i64 ((L[i]'hi).2:Int)):=by
 rcases h.2 with ⟨h1,h0⟩|⟨g,cp,cur,h1,hb,hr,h4,h5,h6,h7⟩
 ·exact ⟨none,0,by rw [h1,h0],fun i hi=>by omega⟩
 ·refine ⟨_,_,h1,fun i hi=>⟨g,rfl,?_,?_⟩⟩
  ·rw [cell_of_row _ _ _ _ _ _ hr,← Array.getElem?_toList,← List.getElem?_take_of_lt (j:=n * 2) (by omega),h7]
   exact twoCells_get L i 0 hi (by omega)
  ·rw [cell_of_row _ _ _ _ _ _ hr,← Array.getElem?_toList,← List.getElem?_take_of_lt (j:=n * 2) (by omega),h7]
   exact twoCells_get L i 1 hi (by omega)
theorem mem_upto {L:List (Nat×Nat)} {p:Nat×Nat→Prop} (h:∀ i (hi:i<L.length),¬ p (L[i]'hi)):¬ ∃ x,x∈L∧p x:=by
 rintro ⟨x,hx,hp⟩
 obtain ⟨i,hi,rfl⟩:=List.getElem_of_mem hx
 exact h i hi hp
theorem rbroken_l (a b:Nat) (L:List (Nat×Nat)) (h:RW w0 w C Y aw cap zs V m) (hL:w.ownsRow w0.heap.size 200 2 Y.bv L.length (twoCells L)) (hl:L.length≤1000000000) :
  Calls Tryz.prog 132 #[.pointer (some ⟨Y.xb,0,none⟩),.int .i64 (a:Int),.int .i64 (b:Int)] w fun e w'=>e=.returned (.bool (decide ((a,b)∈L ∨ (b,a)∈L)))∧w'=w:=by
 obtain ⟨ad,c,hv,hc⟩:=own_two hL rfl
 have c2:=(h.cells).2.2.1
 rw [hv] at c2
 have HC:=hid hc
 obtain ⟨n,hn⟩:∃ n,Hid (L.length=n):=⟨_,rfl⟩
 rw [hn.out] at c2 hl
 clear h hL hv hc
 go_enter Tryz.func132,Tryz.ntmps132
 go_wp2_with fail
 go_loopw [7] (fun v wr=>∃ k:Nat,k≤n∧v=.int .i64 (k:Int)∧wr=w∧∀ i (hi:i<L.length),i<k→¬ (L[i]'hi=(a,b) ∨ L[i]'hi=(b,a))) (fun v _=>n - (intOf v).toNat)
 case atStart=>exact ⟨0,Nat.zero_le _,rfl,rfl,fun _ _ hj=>absurd hj (Nat.not_lt_zero _)⟩
 case round =>
  obtain ⟨k,hk,rfl,hwr,hno⟩:=hrel
  subst hwr
  have HNo:=hid hno
  clear hno
  by_cases hlt:k<n
  ·have hkL:k<L.length:=by rw [hn.out]; exact hlt
   obtain ⟨g,rfl,d0,d1⟩:=HC.out k hkL
   obtain ⟨⟨x,y⟩,HE⟩:∃ e,Hid (L[k]'hkL=e):=⟨_,rfl⟩
   rw [HE.out] at d0 d1
   simp only at d0 d1
   obtain ⟨p,HP⟩:∃ p,Hid (decide ((x:Int)=(a:Int)∧(y:Int)=(b:Int))=p):=⟨_,rfl⟩
   obtain ⟨q,HQ⟩:∃ q,Hid (decide ((x:Int)=(b:Int)∧(y:Int)=(a:Int))=q):=⟨_,rfl⟩
   have hp:∀ w,(binOp .eql 200 (.agg #[.int .i64 (x:Int),.int .i64 (y:Int)]) (.agg #[.int .i64 (a:Int),.int .i64 (b:Int)])).run Tryz.prog w=.ok (.bool p) w:=fun w=>by rw [← HP.out]; exact two_eq _ _ _ _ w
   have hq:∀ w,(binOp .eql 200 (.agg #[.int .i64 (x:Int),.int .i64 (y:Int)]) (.agg #[.int .i64 (b:Int),.int .i64 (a:Int)])).run Tryz.prog w=.ok (.bool q) w:=fun w=>by rw [← HQ.out]; exact two_eq _ _ _ _ w
   cases p with
   | true =>
    have h1:=of_decide_eq_true HP.out
    have hmem:(a,b)∈L:=by
     rw [show (a,b)=L[k]'hkL by rw [HE.out,Prod.mk.injEq]; omega]; exact List.getElem_mem _
    have HM:Hid (decide ((a,b)∈L ∨ (b,a)∈L)=true):=decide_eq_true (.inl hmem)
    clear h1 hmem
    go_wp2_with fail
    go_ret
    exact ⟨by rw [HM.out]; rfl,rfl⟩
   | false =>
    cases q with
    | true =>
     have h1:=of_decide_eq_true HQ.out
     have hmem:(b,a)∈L:=by
      rw [show (b,a)=L[k]'hkL by rw [HE.out,Prod.mk.injEq]; omega]; exact List.getElem_mem _
     have HM:Hid (decide ((a,b)∈L ∨ (b,a)∈L)=true):=decide_eq_true (.inr hmem)
     clear h1 hmem
     go_wp2_with fail
     go_ret
     exact ⟨by rw [HM.out]; rfl,rfl⟩
    | false =>
     go_wp2_with fail
     go_roundw
     case rel =>
      refine ⟨k+1,by omega,by go_num,trivial,fun j hj hjk=>?_⟩
      by_cases e:j=k
      ·subst e
       rw [HE.out]
       have h1:=of_decide_eq_false HP.out
       have h2:=of_decide_eq_false HQ.out
       rw [Prod.mk.injEq,Prod.mk.injEq]
       omega
      ·exact HNo.out j hj (by omega)
     case measure=>simp [intOf]; omega
  ·obtain rfl:k=n:=by omega
   have HM:Hid (decide ((a,b)∈L ∨ (b,a)∈L)=false):=decide_eq_false (fun hm=>mem_upto (p:=fun x=>x=(a,b) ∨ x=(b,a)) (fun i hi=>HNo.out i hi (by rw [← hn.out]; exact hi)) (by
    rcases hm with q|q
    ·exact ⟨_,q,.inl rfl⟩
    ·exact ⟨_,q,.inr rfl⟩))
   go_wp2_with fail
   go_ret
   exact ⟨by rw [HM.out]; rfl,rfl⟩
theorem rbroken_is (a b:Nat) (h:RW w0 w C Y aw cap zs V m) (ha:a<7) (hb:b<7) (hm:m≤100000000) :
  Calls Tryz.prog 132 #[.pointer (some ⟨Y.xb,0,none⟩),.int .i64 (a:Int),.int .i64 (b:Int)] w fun e w'=>e=.returned (.bool (!(decide (a=b) || !brX V a b)))∧w'=w:=by
 obtain ⟨L,h1,h2,h3⟩:=h.brk
 refine (rbroken_l a b L h h1 (by omega)).mono ?_
 rintro e w' ⟨rfl,rfl⟩
 refine ⟨?_,rfl⟩
 congr 2
 by_cases e:a=b
 ·subst e
  have:¬ ((a,a)∈L ∨ (a,a)∈L):=fun q=>by
   rcases q with q|q <;> exact h2.2 _ q rfl
  rw [decide_eq_false this]; simp
 ·have:=h2.1 a b ha hb e
  cases hx:brX V a b with
  | true=>rw [hx] at this; rw [decide_eq_true (this.1 rfl)]; simp [e]
  | false=>rw [hx] at this; rw [decide_eq_false (fun q=>by cases this.2 q)]; simp
end
theorem Tryz.infoTwo:(Tryz.prog.info? 200).map (fun i=>(i.zero,i.size,i.bytes))=some (some (.agg #[.int .i64 0,.int .i64 0]),2,16):=by kernel_rfl
theorem two_one (x:Nat×Nat):∀ u∈twoL x,u.oneCell'=true:=by
 intro u hu
 simp [twoL] at hu
 rcases hu with rfl|rfl <;> rfl
theorem wpList_append_two {w:World} {ops:Array Oper} {rest:List Oper} {o:Oper} {a:Act} {Q:Exit→Act→World→Prop} (hgd:o.guard=none) (s x:Operand)
  (ho:o.op=.call { callee:=.builtin .append,args:=#[s,x],argTypes:=#[145,145] })
  (base n:Nat) (v:Value) (ad:Addr) (c:Nat) (xs:List Value) (e:Nat×Nat) (hs:a.eval s=v) (hx:a.eval x=.slice (some ad) 1 c) (hown:w.ownsRow base 200 2 v n xs) (hu:∀ j u,(twoL e)[j]? = some u→w.cell? (ad.add j)=some u) (hn:n≤1000000000000) (hb:base≤w.heap.size)
  (h:∀ ad' cap' w',w'.ownsRow base 200 2 (.slice ad' (n+1) cap') (n+1) (xs ++ twoL e)→w.grownBy w' v.ownBlock→wpList Tryz.prog ops Q rest (a.put o.dst (.slice ad' (n+1) cap')) w') :
  wpList Tryz.prog ops Q (o :: rest) a w:=by
 obtain ⟨i0,hi0,hz0,hz1,hz2⟩:=info_parts Tryz.infoTwo
 refine wpList_append_own_at w hgd s x 145 ho base 200 i0 _ 2 16 Tryz.underlying145 hi0 hz0 hz1 hz2 rfl (by decide) v n xs hs hown ad 1 c (twoL e) hx rfl hu (two_one e) (by unfold maxLen; omega) (by omega) hb ?_
 intro v' w' h2 h3 _ h5
 obtain ⟨ad',cap',rfl⟩:∃ ad' cap',v'=.slice ad' (n+1) cap':=by
  rcases h2.2 with ⟨e,h0⟩|⟨g,cap,cur,e,-⟩
  ·exact ⟨none,0,by rw [e,h0]⟩
  ·exact ⟨_,_,e⟩
 exact h ad' cap' w' h2 h3
theorem two_ne (x y a b:Int) (w:World):(binOp .neq 200 (.agg #[.int .i64 x,.int .i64 y]) (.agg #[.int .i64 a,.int .i64 b])).run Tryz.prog w=.ok (.bool (!decide (x=a∧y=b))) w:=by
 have h:=two_equal x y a b w
 rw [show 9999+1=10000 from rfl] at h
 go_simp
def keepL (a b:Nat) (L:List (Nat×Nat)):List (Nat×Nat):=L.filter (fun x=>decide (x≠(a,b)) && decide (x≠(b,a)))
def linkL (a b:Nat) (whole:Bool) (L:List (Nat×Nat)):List (Nat×Nat):=keepL a b L ++ if whole=false∧a≠b then [(a,b)] else []
theorem mem_keepL {a b:Nat} {L:List (Nat×Nat)} {x:Nat×Nat}:x∈keepL a b L ↔ x∈L∧x≠(a,b)∧x≠(b,a):=by
 unfold keepL
 rw [List.mem_filter,Bool.and_eq_true,decide_eq_true_iff,decide_eq_true_iff]
theorem brkI_link {V:PX} {L:List (Nat×Nat)} {a b:Nat} {whole:Bool} (h:BrkI V L):BrkI (linkX V a b whole) (linkL a b whole L):=by
 have hmem:∀ x,x∈linkL a b whole L ↔ (x∈L∧x≠(a,b)∧x≠(b,a)) ∨ (whole=false∧a≠b)∧x=(a,b):=fun x=>by
  unfold linkL
  rw [List.mem_append,mem_keepL]
  by_cases g:whole=false∧a≠b
  ·rw [if_pos g,List.mem_singleton]; simp only [g,true_and,ne_eq,not_false_eq_true]
  ·rw [if_neg g]; simp only [g,false_and,List.not_mem_nil]
 refine ⟨fun x y hx hy hne=>?_,fun x hx=>?_⟩
 ·rw [hmem,hmem]
  have h0:=h.1 x y hx hy hne
  show (if min x y=min a b∧max x y=max a b then !whole else V.br (min x y) (max x y))=true ↔ _
  simp only [Prod.mk.injEq,ne_eq]
  by_cases g:min x y=min a b∧max x y=max a b
  ·rw [if_pos g]
   have g':(x=a∧y=b) ∨ (x=b∧y=a):=by omega
   have hab:a≠b:=by omega
   cases whole with
   | true =>
    simp only [Bool.not_true,Bool.false_eq_true,false_iff,Bool.true_eq_false,false_and,or_false]
    rcases g' with ⟨rfl,rfl⟩|⟨rfl,rfl⟩ <;> simp
   | false =>
    simp only [Bool.not_false,true_iff,true_and]
    rcases g' with ⟨rfl,rfl⟩|⟨rfl,rfl⟩
    ·exact .inl (.inr ⟨hab,rfl,rfl⟩)
    ·exact .inr (.inr ⟨hab,rfl,rfl⟩)
  ·rw [if_neg g]
   have g1:¬ (x=a∧y=b):=by omega
   have g2:¬ (x=b∧y=a):=by omega
   have g3:¬ (y=a∧x=b):=by omega
   have g4:¬ (y=b∧x=a):=by omega
   rw [show V.br (min x y) (max x y)=brX V x y from rfl,h0]
   simp only [g1,g2,g3,g4,not_false_eq_true,and_true,and_false,or_false]
 ·rcases (hmem x).1 hx with ⟨g,-⟩|⟨⟨-,g⟩,rfl⟩
  ·exact h.2 x g
  ·exact g
section
variable {w0 w w':World} {C C':Nat→Nat} {Y:YB} {aw:Option Addr} {cap m m':Nat} {zs:List Int} {V V':PX}
theorem XI.linked {a b:Nat} {whole:Bool} (h:XI zs V m):XI zs (linkX V a b whole) (m+1) :=
 have i:=h.mono (Nat.le_succ m)
 ⟨i.he,i.nd,i.fr,i.fl,i.ev⟩
theorem RW.linked {a b:Nat} {whole:Bool} {Bk:List (Nat×Nat)} {v':Value} (h:RW w0 w C Y aw cap zs V m) (hb:Below w.heap.size w w') (ho:w'.ownsRow w.heap.size 200 2 v' Bk.length (twoCells Bk)) (hbi:BrkI (linkX V a b whole) Bk) (hl:Bk.length≤m+1) :
  ROut w0 w (w'.setCell ⟨Y.xb,2,none⟩ v') C Y aw cap zs (linkX V a b whole) (m+1):=by
 have hx:=row_ltJ h.row
 have hcx:=h.cx
 have hrow:w'.heap[Y.xb]? = some (.cells (rwC Y aw zs.length cap).toArray 147 (0,0)):=(hb.block _ hx).trans h.row
 have hK2:Kept (In1 Y.xb) w (w'.setCell ⟨Y.xb,2,none⟩ v'):=(Kept.of_below hb).set1 2 v'
 have hr2:(w'.setCell ⟨Y.xb,2,none⟩ v').heap[Y.xb]? = some (.cells (rwC { Y with bv:=v',fv:=Y.fv,ev:=Y.ev } aw zs.length cap).toArray 147 (0,0)):=by
  rw [heap_setCell_same w' Y.xb 2 _ _ _ hrow]; rfl
 have hf:(w'.setCell ⟨Y.xb,2,none⟩ v').ownsRow w0.heap.size 104 9 Y.fv V.fly.length (frCells V.fly):=own_kept h.fly hK2 (fun g hg e=>by
  have h6:=h.cf g hg; rw [show g=Y.xb from e] at h6; omega)
 have he:(w'.setCell ⟨Y.xb,2,none⟩ v').ownsRow w0.heap.size 121 3 Y.ev V.evs.length (evCells V.evs):=own_kept h.evs hK2 (fun g hg e=>by
  have h6:=h.ce g hg; rw [show g=Y.xb from e] at h6; omega)
 have hbb:(w'.setCell ⟨Y.xb,2,none⟩ v').ownsRow w0.heap.size 200 2 v' Bk.length (twoCells Bk):=own_lower (own_kept ho ((Kept.refl (In1 Y.xb) w').set1 2 v') (fun g hg e=>by have:=(ho.lt g hg).1; rw [show g=Y.xb from e] at this; omega)) h.bel.size
 obtain ⟨C1,hC1,hl1,hcg1⟩:∃ C1:Nat→Nat,(∀ x,x<w.heap.size→C1 x=C x)∧(∀ x,w.heap.size≤x→C1 x<2000→x<(w'.setCell ⟨Y.xb,2,none⟩ v').heap.size)∧∀ g,v'.ownBlock=some g→C1 g=1004:=by
  cases hob:v'.ownBlock with
  | none=>exact ⟨C,fun _ _=>rfl,fun x hx hc=>by have:=h.lt x hc; omega,fun g hg=>by cases hg⟩
  | some g' =>
   have hg':=ho.lt g' hob
   refine ⟨paint C g' 1004,fun x hx=>paint_ne (by omega),fun x hx hc=>?_,fun g hg=>?_⟩
   ·by_cases e:x=g'
    ·rw [e]; simpa using hg'.2
    ·rw [paint_ne e] at hc
     have:=h.lt x hc; omega
   ·obtain rfl:=Option.some.inj hg
    exact paint_at _ _ _
 refine ⟨C1,{ Y with bv:=v',fv:=Y.fv,ev:=Y.ev },?_,rfl,hK2.mono (fun x hx=>by show C x<2000; rw [show x=Y.xb from hx]; omega),hC1⟩
 exact h.own (br:=(linkX V a b whole).br) hK2 (fun x hx=>.inl (by rw [show x=Y.xb from hx]; exact hcx)) hC1 hl1 hr2 hbb hbi hl hf he hcg1 (fun g hg=>by rw [hC1 g (own_lt h.fly hg)]; exact h.cf g hg) (fun g hg=>by rw [hC1 g (own_lt h.evs hg)]; exact h.ce g hg) h.inv.linked
end
theorem keepL_step {a b k:Nat} {L:List (Nat×Nat)} (hk:k<L.length):keepL a b (L.take (k+1))=keepL a b (L.take k) ++ if (L[k]'hk)≠(a,b)∧(L[k]'hk)≠(b,a) then [L[k]'hk] else []:=by
 unfold keepL
 rw [List.take_succ_eq_append_getElem hk,List.filter_append]
 congr 1
 by_cases g:(L[k]'hk)≠(a,b)∧(L[k]'hk)≠(b,a)
 ·rw [if_pos g,List.filter_cons_of_pos (by simpa using g),List.filter_nil]
 ·rw [if_neg g,List.filter_cons_of_neg (by simpa using g),List.filter_nil]
theorem twoCells_append (L M:List (Nat×Nat)):twoCells (L ++ M)=twoCells L ++ twoCells M:=by unfold twoCells; rw [List.flatMap_append]
theorem keepL_length (a b:Nat) (L:List (Nat×Nat)):(keepL a b L).length≤L.length:=List.length_filter_le _ _
section
variable {w0 w w':World} {C C':Nat→Nat} {Y:YB} {aw:Option Addr} {cap m m':Nat} {zs:List Int} {V V':PX}
def LkR (w wr:World) (a b:Nat) (L:List (Nat×Nat)) (v:Value):Prop:=wr.ownsRow w.heap.size 200 2 v (keepL a b L).length (twoCells (keepL a b L))∧Below w.heap.size w wr
theorem rlink_ok (a b:Nat) (whole:Bool) (h:RW w0 w C Y aw cap zs V m) (ha:a<zs.length) (hb:b<zs.length) (hm:m≤100000000) :
  Calls Tryz.prog 95 #[.pointer (some ⟨Y.xb,0,none⟩),.int .i64 (a:Int),.int .i64 (b:Int),.bool whole] w fun e w'=>e=.returned (.int .i64 0)∧ROut w0 w w' C Y aw cap zs (linkX V a b whole) (m+1):=by
 obtain ⟨L,hL,hbi,hlm⟩:=h.brk
 obtain ⟨ad,c,hv,hc⟩:=own_two hL rfl
 obtain ⟨-,c1,c2,-,-⟩:=h.cells
 rw [hv] at c2
 have HC:=hid hc
 have H:=hid h
 have n7:=h.n7
 have HBI:=hid hbi
 obtain ⟨n,hn⟩:∃ n,Hid (L.length=n):=⟨_,rfl⟩
 obtain ⟨z,hz⟩:∃ z,Hid (zs.length=z):=⟨_,rfl⟩
 rw [hn.out] at c2 hlm
 rw [hz.out] at c1 ha hb n7
 clear h hL hv hc hbi
 go_enter Tryz.func95,Tryz.ntmps95
 go_wp2_with fail
 simp only [show decide ((a:Int)<0)=false from decide_eq_false (by omega),show decide ((b:Int)<0)=false from decide_eq_false (by omega),show decide (z≤a)=false from decide_eq_false (by omega),show decide (z≤b)=false from decide_eq_false (by omega),Bool.or_false]
 go_loopw [9,10] (fun v i wr=>∃ k:Nat,k≤n∧i=.int .i64 (k:Int)∧LkR w wr a b (L.take k) v) (fun _ i _=>n - (intOf i).toNat)
 case atStart=>exact ⟨0,Nat.zero_le _,rfl,World.ownsRow_nil _ _ _ _,Below.refl _ _⟩
 case round =>
  obtain ⟨k,hk,rfl,hr⟩:=hrel
  rename_i u9 _ wr _
  obtain ⟨av,cv,hu⟩:∃ av cv,u9=.slice av (keepL a b (L.take k)).length cv:=by
   rcases hr.1.2 with ⟨e,h0⟩|⟨g,cp,cur,e,-⟩
   ·exact ⟨none,0,by rw [e,h0]⟩
   ·exact ⟨_,_,e⟩
  subst hu
  have HR:=hid hr
  have c2r:=cell_later hr.2 c2
  have hwr:=hr.2.size
  clear hr
  by_cases hlt:k<n
  ·have hkL:k<L.length:=by rw [hn.out]; exact hlt
   obtain ⟨g,rfl,d0',d1'⟩:=HC.out k hkL
   have d0:=cell_later HR.out.2 d0'
   have d1:=cell_later HR.out.2 d1'
   clear d0' d1'
   have HSt:=hid (keepL_step (a:=a) (b:=b) hkL)
   obtain ⟨⟨x,y⟩,HE⟩:∃ e,Hid (L[k]'hkL=e):=⟨_,rfl⟩
   rw [HE.out] at d0 d1 HSt
   simp only at d0 d1
   obtain ⟨p,HP⟩:∃ p,Hid ((!decide ((x:Int)=(a:Int)∧(y:Int)=(b:Int)))=p):=⟨_,rfl⟩
   obtain ⟨q,HQ⟩:∃ q,Hid ((!decide ((x:Int)=(b:Int)∧(y:Int)=(a:Int)))=q):=⟨_,rfl⟩
   have hp:∀ w,(binOp .neq 200 (.agg #[.int .i64 (x:Int),.int .i64 (y:Int)]) (.agg #[.int .i64 (a:Int),.int .i64 (b:Int)])).run Tryz.prog w=.ok (.bool p) w:=fun w=>by rw [← HP.out]; exact two_ne _ _ _ _ w
   have hq:∀ w,(binOp .neq 200 (.agg #[.int .i64 (x:Int),.int .i64 (y:Int)]) (.agg #[.int .i64 (b:Int),.int .i64 (a:Int)])).run Tryz.prog w=.ok (.bool q) w:=fun w=>by rw [← HQ.out]; exact two_ne _ _ _ _ w
   cases p with
   | false =>
    have h1:x=a∧y=b:=by have:=HP.out; simp at this; omega
    have HN:Hid (LkR w wr a b (L.take (k+1)) (.slice av (keepL a b (L.take k)).length cv)):=by
     show LkR _ _ _ _ _ _
     unfold LkR
     rw [HSt.out,if_neg (fun g=>g.1 (by rw [h1.1,h1.2])),List.append_nil]; exact HR.out
    clear h1
    go_wp2_with fail
    go_roundw
    case rel=>exact ⟨k+1,by omega,by go_num,HN.out⟩
    case measure=>simp [intOf]; omega
   | true =>
    cases q with
    | false =>
     have h1:x=b∧y=a:=by have:=HQ.out; simp at this; omega
     have HN:Hid (LkR w wr a b (L.take (k+1)) (.slice av (keepL a b (L.take k)).length cv)):=by
      show LkR _ _ _ _ _ _
      unfold LkR
      rw [HSt.out,if_neg (fun g=>g.2 (by rw [h1.1,h1.2])),List.append_nil]; exact HR.out
     clear h1
     go_wp2_with fail
     go_roundw
     case rel=>exact ⟨k+1,by omega,by go_num,HN.out⟩
     case measure=>simp [intOf]; omega
    | true =>
     have h1:(x,y)≠(a,b)∧(x,y)≠(b,a):=by
      have e1:=HP.out; have e2:=HQ.out; simp at e1 e2
      rw [ne_eq,ne_eq,Prod.mk.injEq,Prod.mk.injEq]; omega
     rw [if_pos h1] at HSt
     obtain ⟨W2,HW2⟩:∃ W2,Hid (wr.alloc (.cells #[.int .i64 (x:Int),.int .i64 (y:Int)] 200)=W2):=⟨_,rfl⟩
     have hW2:=HW2.out
     have HB2:Hid (Below wr.heap.size wr W2):=by rw [← HW2.out]; exact (Below.refl _ _).alloc (Nat.le_refl _) _
     have HLc:Hid (∀ j u,(twoL (x,y))[j]? = some u→W2.cell? ((⟨wr.heap.size,0,none⟩:Addr).add j)=some u):=by rw [← HW2.out]; exact lit_cellsQ wr 200 (twoL (x,y))
     have HBw:Hid (Below w.heap.size w W2):=HR.out.2.trans (HB2.out.mono HR.out.2.size)
     have HO:Hid (W2.ownsRow w.heap.size 200 2 (.slice av (keepL a b (L.take k)).length cv) (keepL a b (L.take k)).length (twoCells (keepL a b (L.take k)))):=own_kept HR.out.1 (Kept.of_below (S:=fun _=>False) HB2.out) (fun _ _ e=>e)
     have hkl:(keepL a b (L.take k)).length≤1000000000000:=by have:=keepL_length a b (L.take k); rw [List.length_take] at this; omega
     have HX:Hid (∀ ad' cap' w',w'.ownsRow w.heap.size 200 2 (.slice ad' ((keepL a b (L.take k)).length+1) cap') ((keepL a b (L.take k)).length+1) (twoCells (keepL a b (L.take k)) ++ twoL (x,y))→W2.grownBy w' (Value.slice av (keepL a b (L.take k)).length cv).ownBlock→LkR w w' a b (L.take (k+1)) (.slice ad' ((keepL a b (L.take k)).length+1) cap')):=by
      intro ad' cap' w' ho hg
      unfold LkR
      rw [HSt.out,List.length_append,twoCells_append]
      refine ⟨?_,Below.grown HBw.out hg HBw.out.size (fun j hj=>(HO.out.lt j hj).1)⟩
      rw [show twoCells [(x,y)]=twoL (x,y) by unfold twoCells; simp]
      exact ho
     obtain ⟨kl,HK⟩:∃ kl,Hid ((keepL a b (L.take k)).length=kl):=⟨_,rfl⟩
     rw [HK.out] at HX HO hkl
     rw [HK.out]
     have hbw:=HBw.out.size
     clear h1 HR
     go_wp2_with (at_builtin; refine wpList_append_two rfl _ _ rfl w.heap.size kl (.slice av kl cv) ⟨wr.heap.size,0,none⟩ 1 _ (x,y) rfl rfl HO.out HLc.out hkl hbw ?_; intro ad' cap' w' hown hg; have HN:=hid (HX.out ad' cap' w' hown hg); clear hown hg)
     go_roundw
     case rel=>exact ⟨k+1,by omega,by go_num,HN.out⟩
     case measure=>simp [intOf]; omega
  ·obtain rfl:k=n:=by omega
   have HLt:Hid (L.take k=L):=by rw [← hn.out]; exact List.take_length
   rw [HLt.out] at HR ⊢
   have HFin:Hid (∀ (v':Value) (w':World),w'.ownsRow w.heap.size 200 2 v' (linkL a b whole L).length (twoCells (linkL a b whole L))→Below w.heap.size w w'→ROut w0 w (w'.setCell ⟨Y.xb,2,none⟩ v') C Y aw cap zs (linkX V a b whole) (m+1)):=by
    intro v' w' ho hb'
    refine H.out.linked hb' ho (brkI_link HBI.out) ?_
    have h1:=keepL_length a b L
    have h2:=hn.out
    unfold linkL
    rw [List.length_append]
    split
    ·simp only [List.length_cons,List.length_nil]; omega
    ·simp only [List.length_nil]; omega
   have hfz:=frozen_of_row _ Y.xb 2 _ _ ((H.out.later HR.out.2).row)
   by_cases hcase:whole=false∧a≠b
   ·have HLk:=hid (show linkL a b whole L=keepL a b L ++ [(a,b)] by unfold linkL; rw [if_pos hcase])
    obtain ⟨rfl,hab⟩:=hcase
    have hab':¬ (a:Int)=(b:Int):=by omega
    obtain ⟨W2,HW2⟩:∃ W2,Hid (wr.alloc (.cells #[.int .i64 (a:Int),.int .i64 (b:Int)] 200)=W2):=⟨_,rfl⟩
    have hW2:=HW2.out
    have HB2:Hid (Below wr.heap.size wr W2):=by rw [← HW2.out]; exact (Below.refl _ _).alloc (Nat.le_refl _) _
    have HLc:Hid (∀ j u,(twoL (a,b))[j]? = some u→W2.cell? ((⟨wr.heap.size,0,none⟩:Addr).add j)=some u):=by rw [← HW2.out]; exact lit_cellsQ wr 200 (twoL (a,b))
    have HBw:Hid (Below w.heap.size w W2):=HR.out.2.trans (HB2.out.mono HR.out.2.size)
    have HO:Hid (W2.ownsRow w.heap.size 200 2 (.slice av (keepL a b L).length cv) (keepL a b L).length (twoCells (keepL a b L))):=own_kept HR.out.1 (Kept.of_below (S:=fun _=>False) HB2.out) (fun _ _ e=>e)
    have hkl:(keepL a b L).length≤1000000000000:=by have:=keepL_length a b L; have:=hn.out; omega
    have HX:Hid (∀ ad' cap' w',w'.ownsRow w.heap.size 200 2 (.slice ad' ((keepL a b L).length+1) cap') ((keepL a b L).length+1) (twoCells (keepL a b L) ++ twoL (a,b))→W2.grownBy w' (Value.slice av (keepL a b L).length cv).ownBlock→w'.cell? ⟨Y.xb,2,none⟩=some (.slice ad k c)∧w'.frozen? ⟨Y.xb,2,none⟩=false∧ROut w0 w (w'.setCell ⟨Y.xb,2,none⟩ (.slice ad' ((keepL a b L).length+1) cap')) C Y aw cap zs (linkX V a b false) (m+1)):=by
     intro ad' cap' w' ho hg
     have hbb:Below w.heap.size w w':=Below.grown HBw.out hg HBw.out.size (fun j hj=>(HO.out.lt j hj).1)
     refine ⟨cell_later hbb c2,frozen_of_row _ Y.xb 2 _ _ ((H.out.later hbb).row),HFin.out _ w' ?_ hbb⟩
     rw [HLk.out,List.length_append,twoCells_append,show twoCells [(a,b)]=twoL (a,b) by unfold twoCells; simp]
     exact ho
    obtain ⟨kl,HK⟩:∃ kl,Hid ((keepL a b L).length=kl):=⟨_,rfl⟩
    rw [HK.out] at HX HO hkl
    rw [HK.out]
    have hbw:=HBw.out.size
    clear HR HFin hab
    go_wp2_with (at_builtin; refine wpList_append_two rfl _ _ rfl w.heap.size kl (.slice av kl cv) ⟨wr.heap.size,0,none⟩ 1 _ (a,b) rfl rfl HO.out HLc.out hkl hbw ?_; intro ad' cap' w' hown hg; obtain ⟨y2,z2,ho2⟩:=HX.out ad' cap' w' hown hg; have HN:=hid ho2; clear hown hg ho2)
    go_ret
    exact ⟨rfl,HN.out⟩
   ·have HLk:=hid (show linkL a b whole L=keepL a b L by unfold linkL; rw [if_neg hcase,List.append_nil])
    rw [HLk.out] at HFin
    have HZ:=hid (HFin.out _ _ HR.out.1 HR.out.2)
    clear HFin
    cases whole with
    | true =>
     go_wp2_with fail
     go_ret
     exact ⟨rfl,HZ.out⟩
    | false =>
     have hab:(a:Int)=(b:Int):=by
      have:a=b:=Classical.byContradiction (fun e=>hcase ⟨rfl,e⟩)
      omega
     go_wp2_with fail
     go_ret
     exact ⟨rfl,HZ.out⟩
end
section
variable {w0 w w':World} {C C':Nat→Nat} {Y:YB} {aw:Option Addr} {cap m m':Nat} {zs:List Int} {V V':PX}
theorem rlink_no (a b:Int) (whole:Bool) (h:RW w0 w C Y aw cap zs V m) (hs:¬ ((0≤a∧a<zs.length)∧0≤b∧b<zs.length)) :
  Calls Tryz.prog 95 #[.pointer (some ⟨Y.xb,0,none⟩),.int .i64 a,.int .i64 b,.bool whole] w fun e w'=>e=.returned (.int .i64 2)∧w'=w:=by
 obtain ⟨-,c1,-,-,-⟩:=h.cells
 have n7:=h.n7
 obtain ⟨z,hz⟩:∃ z,Hid (zs.length=z):=⟨_,rfl⟩
 rw [hz.out] at c1 n7 hs
 clear h
 by_cases h1:a<0
 ·clear hs
  go_enter Tryz.func95,Tryz.ntmps95
  go_wp2_with fail
  go_ret
  exact ⟨rfl,rfl⟩
 ·by_cases h2:(z:Int)≤a
  ·clear hs
   go_enter Tryz.func95,Tryz.ntmps95
   go_wp2_with fail
   go_ret
   exact ⟨rfl,rfl⟩
  ·by_cases h3:b<0
   ·clear hs
    go_enter Tryz.func95,Tryz.ntmps95
    go_wp2_with fail
    go_ret
    exact ⟨rfl,rfl⟩
   ·have h4:(z:Int)≤b:=by omega
    clear hs
    go_enter Tryz.func95,Tryz.ntmps95
    go_wp2_with fail
    go_ret
    exact ⟨rfl,rfl⟩
end
end Go.Proofs.YtadhpkopkkjmfaaGreatDoor
