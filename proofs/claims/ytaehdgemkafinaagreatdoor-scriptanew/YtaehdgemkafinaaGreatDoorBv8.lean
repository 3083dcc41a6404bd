/-
  On the way to SAnewProof: TD O6A.
-/
import Derived.Test.YtaehdgemkafinaaGreatDoorBv3
set_option maxHeartbeats 8000000
set_option maxRecDepth 100000
namespace Go.Proofs.YtaehdgemkafinaaGreatDoor
open Go.RowKit
theorem greatest_is (pb:Nat) (a:Option Addr) (cap:Nat) (L:List S3) (ph m:Int) (is:Bool) (w:World) (hp:w.cell? ⟨pb,0,none⟩=some (.slice a L.length cap)) (hl:L.length≤200) (hL:SL w a L) (h:gr ph L=(m,is)) :
  Calls Tryz.prog 247 #[.int .i64 ph,.pointer (some ⟨pb,0,none⟩)] w fun e w'=>e=.returned (.tuple #[.int .i64 m,.bool is])∧Below w.heap.size w w':=by
 have:=greatest_any pb a cap L ph w hp hl hL
 rw [h] at this
 exact this
theorem choose_any (a:Option Addr) (cap:Nat) (L:List S3) (w:World) (hl:L.length≤200) (hL:SL w a L) :
  Calls Tryz.prog 221 #[.slice a L.length cap] w fun e w'=>e=.returned (.tuple #[.int .i64 (chooseL L).1,.bool (chooseL L).2])∧Below w.heap.size w w':=by
 have HL:=hid hL
 obtain ⟨⟨cp,cf⟩,HC⟩:∃ x,Hid (chooseL L=x):=⟨_,rfl⟩
 rw [HC.out]
 obtain ⟨⟨m2,i2⟩,H2⟩:∃ x,Hid (gr 2 L=x):=⟨_,rfl⟩
 obtain ⟨⟨m3,i3⟩,H3⟩:∃ x,Hid (gr 3 L=x):=⟨_,rfl⟩
 obtain ⟨⟨m4,i4⟩,H4⟩:∃ x,Hid (gr 4 L=x):=⟨_,rfl⟩
 obtain ⟨⟨m5,i5⟩,H5⟩:∃ x,Hid (gr 5 L=x):=⟨_,rfl⟩
 have HD:Hid ((if i2=true then ((2:Int),true) else if i3=true then (3,true) else if i4=true∧(i5=false ∨ m5≤m4) then (4,false) else (5,false))=(cp,cf)):=by
  unfold Hid; rw [← HC.out]; unfold chooseL; rw [H2.out,H3.out,H4.out,H5.out]
 clear hL HC
 have hmf:∀ (fn:Fn) (first cap:Array Value) (w:World),(Instr.makeFunc fn first cap).run Tryz.prog w=.ok (.func fn first cap) w:=fun _ _ _ _=>rfl
 go_enter Tryz.func221,Tryz.ntmps221
 go_wp2_with fail
 go_loopw [16] (fun i wr=>∃ k:Nat,k≤2∧i=.int .i64 (k:Int)∧(0<k→i2=false)∧(1<k→i3=false)∧Below w.heap.size w wr∧wr.cell? ⟨w.heap.size,0,none⟩=some (.slice a L.length cap)∧wr.cell? ⟨w.heap.size+1,0,none⟩=some (.int .i64 2)∧wr.cell? ⟨w.heap.size+1,1,none⟩=some (.int .i64 3)) (fun i _=>2 - (intOf i).toNat)
 case atStart =>
  refine ⟨0,by omega,rfl,by omega,by omega,((Below.refl _ _).alloc (Nat.le_refl _) _).alloc (by simp) _,?_,?_,?_⟩
  ·exact cell_alloc _ (by simp)
  ·rw [World.cell?_alloc_at _ _ _ _ (by simp)]; rfl
  ·rw [World.cell?_alloc_at _ _ _ _ (by simp)]; rfl
 case round =>
  obtain ⟨k,hk,rfl,hk1,hk2,hb,c0,c1,c2⟩:=hrel
  have HB:=hid hb
  have C0:=hid c0
  have C1:=hid c1
  have C2:=hid c2
  have HLw:=hid (HL.out.later hb)
  have hlt0:=cell_lt c0
  have hlt1:=cell_lt c1
  clear hb
  rcases (by omega:k=0 ∨ k=1 ∨ k=2) with rfl|rfl|rfl
  ·clear hk1 hk2
   cases i2 with
   | true =>
    obtain ⟨rfl,rfl⟩:(2:Int)=cp∧true=cf:=by simpa using HD.out
    clear HD
    go_wp2_with (go_at_call 247; refine (greatest_is w.heap.size a cap L 2 m2 true _ C0.out hl HLw.out H2.out).mono ?_; rintro e w1 ⟨rfl,hb1⟩)
    go_ret2
    exact ⟨rfl,below_trans HB.out hb1⟩
   | false =>
    go_wp2_with (go_at_call 247; refine (greatest_is w.heap.size a cap L 2 m2 false _ C0.out hl HLw.out H2.out).mono ?_; rintro e w1 ⟨rfl,hb1⟩)
    go_roundw
    case rel=>exact ⟨1,by omega,by go_num,(by intros; trivial),by omega,below_trans HB.out hb1,cell_later hb1 C0.out,cell_later hb1 C1.out,cell_later hb1 C2.out⟩
    case measure=>simp [intOf]
  ·obtain rfl:=hk1 (by omega)
   clear hk1 hk2
   cases i3 with
   | true =>
    obtain ⟨rfl,rfl⟩:(3:Int)=cp∧true=cf:=by simpa using HD.out
    clear HD
    go_wp2_with (go_at_call 247; refine (greatest_is w.heap.size a cap L 3 m3 true _ C0.out hl HLw.out H3.out).mono ?_; rintro e w1 ⟨rfl,hb1⟩)
    go_ret2
    exact ⟨rfl,below_trans HB.out hb1⟩
   | false =>
    go_wp2_with (go_at_call 247; refine (greatest_is w.heap.size a cap L 3 m3 false _ C0.out hl HLw.out H3.out).mono ?_; rintro e w1 ⟨rfl,hb1⟩)
    go_roundw
    case rel=>exact ⟨2,by omega,by go_num,(by intros; trivial),(by intros; trivial),below_trans HB.out hb1,cell_later hb1 C0.out,cell_later hb1 C1.out,cell_later hb1 C2.out⟩
    case measure=>simp [intOf]
  ·obtain rfl:=hk1 (by omega)
   obtain rfl:=hk2 (by omega)
   clear hk1 hk2 c0 c1 c2
   have HD2:Hid ((if i4=true∧(i5=false ∨ m5≤m4) then ((4:Int),false) else (5,false))=(cp,cf)):=by unfold Hid; simpa using HD.out
   clear HD
   cases i4 with
   | false =>
    obtain ⟨rfl,rfl⟩:(5:Int)=cp∧false=cf:=by simpa using HD2.out
    clear HD2
    go_wp2_with (go_at_call 247; first
     | ((with_reducible refine (greatest_is w.heap.size a cap L 5 m5 i5 _ (cell_later hb1 C0.out) hl (HLw.out.later hb1) H5.out).mono ?_); rintro e w2 ⟨rfl,hb2⟩)
     | ((with_reducible refine (greatest_is w.heap.size a cap L 4 m4 false _ C0.out hl HLw.out H4.out).mono ?_); rintro e w1 ⟨rfl,hb1⟩))
    go_ret2
    exact ⟨rfl,below_trans (below_trans HB.out hb1) hb2⟩
   | true =>
    cases i5 with
    | false =>
     obtain ⟨rfl,rfl⟩:(4:Int)=cp∧false=cf:=by simpa using HD2.out
     clear HD2
     go_wp2_with (go_at_call 247; first
      | ((with_reducible refine (greatest_is w.heap.size a cap L 5 m5 false _ (cell_later hb1 C0.out) hl (HLw.out.later hb1) H5.out).mono ?_); rintro e w2 ⟨rfl,hb2⟩)
      | ((with_reducible refine (greatest_is w.heap.size a cap L 4 m4 true _ C0.out hl HLw.out H4.out).mono ?_); rintro e w1 ⟨rfl,hb1⟩))
     go_ret2
     exact ⟨rfl,below_trans (below_trans HB.out hb1) hb2⟩
    | true =>
     by_cases hm:m5≤m4
     ·obtain ⟨rfl,rfl⟩:(4:Int)=cp∧false=cf:=by simpa [hm] using HD2.out
      clear HD2
      go_wp2_with (go_at_call 247; first
       | ((with_reducible refine (greatest_is w.heap.size a cap L 5 m5 true _ (cell_later hb1 C0.out) hl (HLw.out.later hb1) H5.out).mono ?_); rintro e w2 ⟨rfl,hb2⟩)
       | ((with_reducible refine (greatest_is w.heap.size a cap L 4 m4 true _ C0.out hl HLw.out H4.out).mono ?_); rintro e w1 ⟨rfl,hb1⟩))
      go_ret2
      exact ⟨rfl,below_trans (below_trans HB.out hb1) hb2⟩
     ·obtain ⟨rfl,rfl⟩:(5:Int)=cp∧false=cf:=by simpa [hm] using HD2.out
      clear HD2
      go_wp2_with (go_at_call 247; first
       | ((with_reducible refine (greatest_is w.heap.size a cap L 5 m5 true _ (cell_later hb1 C0.out) hl (HLw.out.later hb1) H5.out).mono ?_); rintro e w2 ⟨rfl,hb2⟩)
       | ((with_reducible refine (greatest_is w.heap.size a cap L 4 m4 true _ C0.out hl HLw.out H4.out).mono ?_); rintro e w1 ⟨rfl,hb1⟩))
      go_ret2
      exact ⟨rfl,below_trans (below_trans HB.out hb1) hb2⟩
def leftO (n:Nat) (L:Array Bool):Nat:=((List.range n).filter fun i=>!L.getD i true).length
theorem filter_less {α:Type} {p q:α→Bool}:∀ (l:List α) (x:α),x∈l→(∀ y,q y=true→p y=true)→p x=true→q x=false→(l.filter q).length<(l.filter p).length
 | [],x,h,_,_,_=>by cases h
 | y :: l,x,h,hpq,hp,hq=>by
  have hle:∀ l:List α,(l.filter q).length≤(l.filter p).length:=fun l=>by
   induction l with
   | nil=>exact Nat.le_refl _
   | cons z l ih =>
    simp only [List.filter_cons]
    cases h1:q z with
    | true=>rw [hpq z h1]; simpa using ih
    | false=>cases p z <;> simp <;> omega
  rcases List.mem_cons.1 h with rfl|h
  ·simp only [List.filter_cons,hp,hq]
   have:=hle l
   simp; omega
  ·have:=filter_less l x h hpq hp hq
   simp only [List.filter_cons]
   cases h1:q y with
   | true=>rw [hpq y h1]; simpa using this
   | false=>cases p y <;> simp <;> omega
theorem left_set {n i:Nat} {L:Array Bool} (hi:i<n) (hs:i<L.size) (h:L.getD i true=false):leftO n (L.setIfInBounds i true)<leftO n L:=by
 refine filter_less (List.range n) i (List.mem_range.2 hi) (fun y hy=>?_) (by rw [h]; rfl) ?_
 ·by_cases e:y=i
  ·subst e; rw [h]; rfl
  ·have:(L.setIfInBounds i true).getD y true=L.getD y true:=by simp [Ne.symm e]
   rw [this] at hy; exact hy
 ·simp [hs]
section
variable {P:Program} {md:Region.Mode} {ops:Array Oper} {Q:Exit→Act→World→Prop} {I:Nat→(Nat→Bool)→Act→World→Prop}
theorem ready_mem {L:Array Bool} {i:Nat} (h:i∈Region.ready md ops L):i<ops.size∧L.getD i true=false∧∀ o,ops[i]? = some o→∀ e,e∈o.after.toList→Region.binds md e=true→L.getD e.on false=true:=by
 unfold Region.ready at h
 obtain ⟨h1,h2⟩:=List.mem_filter.1 h
 simp only [Bool.and_eq_true,Bool.not_eq_true'] at h2
 refine ⟨List.mem_range.1 h1,h2.1,fun o ho e he hb=>?_⟩
 have h3:=h2.2
 rw [ho] at h3
 simp only [Option.map_some,Option.getD_some,Array.all_eq_true'] at h3
 have h4:=h3 e (Array.mem_toList_iff.1 he)
 rw [hb] at h4
 simpa using h4
theorem ready_nil (hd:∀ (i:Nat) (o:Oper),ops[i]? = some o→∀ e,e∈o.after.toList→e.on<i) {L:Array Bool} (hL:L.size=ops.size) (h:Region.ready md ops L=[]):∀ i,i<ops.size→L.getD i false=true:=by
 intro i
 induction i using Nat.strongRecOn with
 | ind i ih =>
  intro hi
  cases hq:L.getD i false with
  | true=>rfl
  | false =>
   exfalso
   have hmem:i∈Region.ready md ops L:=by
    unfold Region.ready
    refine List.mem_filter.2 ⟨List.mem_range.2 hi,?_⟩
    have h1:L.getD i true=false:=by
     rw [Array.getD_eq_getD_getElem?,Array.getElem?_eq_getElem (by omega)] at hq ⊢
     simpa using hq
    rw [h1,Array.getElem?_eq_getElem hi]
    simp only [Bool.not_false,Bool.true_and,Option.map_some,Option.getD_some,Array.all_eq_true']
    intro e he
    have h2:=hd i _ (Array.getElem?_eq_getElem hi) e (Array.mem_toList_iff.2 he)
    rw [ih e.on h2 (by omega)]
    simp
   rw [h] at hmem; cases hmem
theorem wpAny_inv (hd:∀ (i:Nat) (o:Oper),ops[i]? = some o→∀ e,e∈o.after.toList→e.on<i)
  (hstep:∀ f L a w,I (f+1) L a w→∀ i,i<ops.size→L i=false→(∀ (o:Oper),ops[i]? = some o→∀ e,e∈o.after.toList→Region.binds md e=true→L e.on=true) →
   wpOp P ops Q i (fun a' w'=>∀ L',(∀ j,L' j=if j=i then true else L j)→I f L' a' w') a w)
  (hend:∀ f L a w,I f L a w→(∀ i,i<ops.size→L i=true)→Q .normal a w) :
  ∀ (fuel:Nat) (L:Array Bool) (a:Act) (w:World),L.size=ops.size→leftO ops.size L≤fuel→I fuel (fun i=>L.getD i false) a w→wpAny P md ops Q fuel L a w:=by
 intro fuel
 induction fuel with
 | zero =>
  intro L a w hL hl hI
  have hr:Region.ready md ops L=[]:=by
   cases h:Region.ready md ops L with
   | nil=>rfl
   | cons i r =>
    exfalso
    obtain ⟨h1,h2,-⟩:=ready_mem (md:=md) (ops:=ops) (L:=L) (i:=i) (by rw [h]; exact List.mem_cons_self)
    have:=left_set h1 (by omega) h2
    omega
  exact ⟨hr,hend 0 _ a w hI (ready_nil hd hL hr)⟩
 | succ fuel ih =>
  intro L a w hL hl hI
  refine ⟨fun hr=>hend _ _ a w hI (ready_nil hd hL hr),fun i hi=>?_⟩
  obtain ⟨h1,h2,h3⟩:=ready_mem hi
  have hLf:L.getD i false=false:=by
   rw [Array.getD_eq_getD_getElem?,Array.getElem?_eq_getElem (by omega)] at h2 ⊢
   simpa using h2
  refine wpOp_mono (fun a' w' hI'=>?_) (hstep fuel _ a w hI i h1 hLf h3)
  refine ih (L.setIfInBounds i true) a' w' (by simpa using hL) (by have:=left_set h1 (by omega) h2; omega) (hI' _ (fun j=>?_))
  by_cases e:j=i
  ·subst e; simp [show j<L.size by omega]
  ·rw [if_neg e]; simp [Ne.symm e]
end
end Go.Proofs.YtaehdgemkafinaaGreatDoor
