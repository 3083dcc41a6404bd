/-
  On the way to WStepsProof, WCommitsProof, WAgreesProof, WEndsProof, WWaitsProof, JTampersProof, PAgreesProof, PAgainProof: TD YB.
-/
import Derived.Test.YtadhpkopkkjmfaaGreatDoorBz7
set_option maxHeartbeats 8000000
set_option maxRecDepth 100000
namespace Go.Proofs.YtadhpkopkkjmfaaGreatDoor
open Go.RowKit
theorem greatest_is (pb:Nat) (a:Option Addr) (cap:Nat) (L:List S3) (ph m:Int) (is:Bool) (w:World) (hp:w.cell? ⟨pb,0,none⟩=some (.slice a L.length cap)) (hl:L.length≤200) (hL:SL w a L) (h:gr ph L=(m,is)) :
  Calls Tryz.prog 190 #[.int .i64 ph,.pointer (some ⟨pb,0,none⟩)] w fun e w'=>e=.returned (.tuple #[.int .i64 m,.bool is])∧Below w.heap.size w w':=by
 have:=greatest_any pb a cap L ph w hp hl hL
 rw [h] at this
 exact this
theorem choose_any (a:Option Addr) (cap:Nat) (L:List S3) (w:World) (hl:L.length≤200) (hL:SL w a L) :
  Calls Tryz.prog 172 #[.slice a L.length cap] w fun e w'=>e=.returned (.tuple #[.int .i64 (chooseL L).1,.bool (chooseL L).2])∧Below w.heap.size w w':=by
 have HL:=hid hL
 obtain ⟨⟨cp,cf⟩,HC⟩:∃ x,Hid (chooseL L=x):=⟨_,rfl⟩
 rw [HC.out]
 obtain ⟨⟨m2,i2⟩,H2⟩:∃ x,Hid (gr 2 L=x):=⟨_,rfl⟩
 obtain ⟨⟨m3,i3⟩,H3⟩:∃ x,Hid (gr 3 L=x):=⟨_,rfl⟩
 obtain ⟨⟨m4,i4⟩,H4⟩:∃ x,Hid (gr 4 L=x):=⟨_,rfl⟩
 obtain ⟨⟨m5,i5⟩,H5⟩:∃ x,Hid (gr 5 L=x):=⟨_,rfl⟩
 have HD:Hid ((if i2=true then ((2:Int),true) else if i3=true then (3,true) else if i4=true∧(i5=false ∨ m5≤m4) then (4,false) else (5,false))=(cp,cf)):=by
  unfold Hid; rw [← HC.out]; unfold chooseL; rw [H2.out,H3.out,H4.out,H5.out]
 clear hL HC
 have hmf:∀ (fn:Fn) (first cap:Array Value) (w:World),(Instr.makeFunc fn first cap).run Tryz.prog w=.ok (.func fn first cap) w:=fun _ _ _ _=>rfl
 go_enter Tryz.func172,Tryz.ntmps172
 go_wp2_with fail
 go_loopw [16] (fun i wr=>∃ k:Nat,k≤2∧i=.int .i64 (k:Int)∧(0<k→i2=false)∧(1<k→i3=false)∧Below w.heap.size w wr∧wr.cell? ⟨w.heap.size,0,none⟩=some (.slice a L.length cap)∧wr.cell? ⟨w.heap.size+1,0,none⟩=some (.int .i64 2)∧wr.cell? ⟨w.heap.size+1,1,none⟩=some (.int .i64 3)) (fun i _=>2 - (intOf i).toNat)
 case atStart =>
  refine ⟨0,by omega,rfl,by omega,by omega,((Below.refl _ _).alloc (Nat.le_refl _) _).alloc (by simp) _,?_,?_,?_⟩
  ·exact cell_alloc _ (by simp)
  ·rw [World.cell?_alloc_at _ _ _ _ (by simp)]; rfl
  ·rw [World.cell?_alloc_at _ _ _ _ (by simp)]; rfl
 case round =>
  obtain ⟨k,hk,rfl,hk1,hk2,hb,c0,c1,c2⟩:=hrel
  have HB:=hid hb
  have C0:=hid c0
  have C1:=hid c1
  have C2:=hid c2
  have HLw:=hid (HL.out.later hb)
  have hlt0:=cell_lt c0
  have hlt1:=cell_lt c1
  clear hb
  rcases (by omega:k=0 ∨ k=1 ∨ k=2) with rfl|rfl|rfl
  ·clear hk1 hk2
   cases i2 with
   | true =>
    obtain ⟨rfl,rfl⟩:(2:Int)=cp∧true=cf:=by simpa using HD.out
    clear HD
    go_wp2_with (go_at_call 190; refine (greatest_is w.heap.size a cap L 2 m2 true _ C0.out hl HLw.out H2.out).mono ?_; rintro e w1 ⟨rfl,hb1⟩)
    go_ret2
    exact ⟨rfl,below_trans HB.out hb1⟩
   | false =>
    go_wp2_with (go_at_call 190; refine (greatest_is w.heap.size a cap L 2 m2 false _ C0.out hl HLw.out H2.out).mono ?_; rintro e w1 ⟨rfl,hb1⟩)
    go_roundw
    case rel=>exact ⟨1,by omega,by go_num,(by intros; trivial),by omega,below_trans HB.out hb1,cell_later hb1 C0.out,cell_later hb1 C1.out,cell_later hb1 C2.out⟩
    case measure=>simp [intOf]
  ·obtain rfl:=hk1 (by omega)
   clear hk1 hk2
   cases i3 with
   | true =>
    obtain ⟨rfl,rfl⟩:(3:Int)=cp∧true=cf:=by simpa using HD.out
    clear HD
    go_wp2_with (go_at_call 190; refine (greatest_is w.heap.size a cap L 3 m3 true _ C0.out hl HLw.out H3.out).mono ?_; rintro e w1 ⟨rfl,hb1⟩)
    go_ret2
    exact ⟨rfl,below_trans HB.out hb1⟩
   | false =>
    go_wp2_with (go_at_call 190; refine (greatest_is w.heap.size a cap L 3 m3 false _ C0.out hl HLw.out H3.out).mono ?_; rintro e w1 ⟨rfl,hb1⟩)
    go_roundw
    case rel=>exact ⟨2,by omega,by go_num,(by intros; trivial),(by intros; trivial),below_trans HB.out hb1,cell_later hb1 C0.out,cell_later hb1 C1.out,cell_later hb1 C2.out⟩
    case measure=>simp [intOf]
  ·obtain rfl:=hk1 (by omega)
   obtain rfl:=hk2 (by omega)
   clear hk1 hk2 c0 c1 c2
   have HD2:Hid ((if i4=true∧(i5=false ∨ m5≤m4) then ((4:Int),false) else (5,false))=(cp,cf)):=by unfold Hid; simpa using HD.out
   clear HD
   cases i4 with
   | false =>
    obtain ⟨rfl,rfl⟩:(5:Int)=cp∧false=cf:=by simpa using HD2.out
    clear HD2
    go_wp2_with (go_at_call 190; first
     | ((with_reducible refine (greatest_is w.heap.size a cap L 5 m5 i5 _ (cell_later hb1 C0.out) hl (HLw.out.later hb1) H5.out).mono ?_); rintro e w2 ⟨rfl,hb2⟩)
     | ((with_reducible refine (greatest_is w.heap.size a cap L 4 m4 false _ C0.out hl HLw.out H4.out).mono ?_); rintro e w1 ⟨rfl,hb1⟩))
    go_ret2
    exact ⟨rfl,below_trans (below_trans HB.out hb1) hb2⟩
   | true =>
    cases i5 with
    | false =>
     obtain ⟨rfl,rfl⟩:(4:Int)=cp∧false=cf:=by simpa using HD2.out
     clear HD2
     go_wp2_with (go_at_call 190; first
      | ((with_reducible refine (greatest_is w.heap.size a cap L 5 m5 false _ (cell_later hb1 C0.out) hl (HLw.out.later hb1) H5.out).mono ?_); rintro e w2 ⟨rfl,hb2⟩)
      | ((with_reducible refine (greatest_is w.heap.size a cap L 4 m4 true _ C0.out hl HLw.out H4.out).mono ?_); rintro e w1 ⟨rfl,hb1⟩))
     go_ret2
     exact ⟨rfl,below_trans (below_trans HB.out hb1) hb2⟩
    | true =>
     by_cases hm:m5≤m4
     ·obtain ⟨rfl,rfl⟩:(4:Int)=cp∧false=cf:=by simpa [hm] using HD2.out
      clear HD2
      go_wp2_with (go_at_call 190; first
       | ((with_reducible refine (greatest_is w.heap.size a cap L 5 m5 true _ (cell_later hb1 C0.out) hl (HLw.out.later hb1) H5.out).mono ?_); rintro e w2 ⟨rfl,hb2⟩)
       | ((with_reducible refine (greatest_is w.heap.size a cap L 4 m4 true _ C0.out hl HLw.out H4.out).mono ?_); rintro e w1 ⟨rfl,hb1⟩))
      go_ret2
      exact ⟨rfl,below_trans (below_trans HB.out hb1) hb2⟩
     ·obtain ⟨rfl,rfl⟩:(5:Int)=cp∧false=cf:=by simpa [hm] using HD2.out
      clear HD2
      go_wp2_with (go_at_call 190; first
       | ((with_reducible refine (greatest_is w.heap.size a cap L 5 m5 true _ (cell_later hb1 C0.out) hl (HLw.out.later hb1) H5.out).mono ?_); rintro e w2 ⟨rfl,hb2⟩)
       | ((with_reducible refine (greatest_is w.heap.size a cap L 4 m4 true _ C0.out hl HLw.out H4.out).mono ?_); rintro e w1 ⟨rfl,hb1⟩))
      go_ret2
      exact ⟨rfl,below_trans (below_trans HB.out hb1) hb2⟩
section
variable {zs:List Int} {s s':Nat→St} {g g':Gh}
def ghV (g:Gh) (a v:Nat):Gh:=⟨g.acc,fun b=>if b=a then v else g.val b,g.no⟩
theorem ghV_at (g:Gh) (a v:Nat):(ghV g a v).val a=v:=if_pos rfl
theorem ghV_ne (g:Gh) (a v:Nat) {b:Nat} (h:b≠a):(ghV g a v).val b=g.val b:=if_neg h
theorem co_val (h:Co zs s g) {a v:Nat} (h0:g.val a=0) (hv:v=4 ∨ v=5) (hz:a=0→v=4) (how:0<a→a≤(s (a % zs.length)).pr) (hbg:0<a→Qo zs fun i=>a≤(s i).pr)
  (hpx:∀ b,b<a→g.val b≠0→v≠g.val b→Qo zs fun i=>b<(s i).pr∧¬ g.acc i b) (hal:v=4→∀ i,i<zs.length→(s i).ph≠0) (hno:v=4→∀ i,i<zs.length→¬ g.no i) :
  Co zs s (ghV g a v)∧Gr zs s g s (ghV g a v):=by
 have hva:∀ b,g.val b≠0→(ghV g a v).val b=g.val b:=fun b hb=>ghV_ne g a v (fun e=>hb (by rw [e]; exact h0))
 have hG:Gr zs s g s (ghV g a v):=⟨fun _=>Nat.le_refl _,fun _ _ x=>x,hva,fun _ _ x=>x,fun _ _ _ x=>.inl x,fun _ x=>x,fun _ _ x=>.inl x⟩
 refine ⟨?_,hG⟩
 have hcase:∀ b,(ghV g a v).val b≠0→b=a ∨ (b≠a∧g.val b≠0∧(ghV g a v).val b=g.val b):=by
  intro b hb
  by_cases e:b=a
  ·exact .inl e
  ·rw [ghV_ne g a v e] at hb
   exact .inr ⟨e,hb,ghV_ne g a v e⟩
 refine ⟨fun i b x=>?_,h.ap,fun b=>?_,?_,fun b hb h1=>?_,fun b hb h1=>?_,fun c b hcb hc hb hne=>?_,fun i hi x=>?_,h.s0,fun i hi x=>(h.s2 i hi x).grow hG,fun i hi x=>(h.s3 i hi x).grow hG,fun b hb i hi=>?_,fun i hi x=>⟨(h.nv i hi x).1,fun b hb=>?_⟩⟩
 ·have:=h.av i b x
  rw [hva b this]; exact this
 ·by_cases e:b=a
  ·rw [e,ghV_at]; omega
  ·rw [ghV_ne g a v e]; exact h.vi b
 ·by_cases e:0=a
  ·rw [e,ghV_at]; have:=hz e.symm; omega
  ·rw [ghV_ne g a v e]; exact h.v0
 ·rcases hcase b hb with rfl|⟨-,x,-⟩
  ·exact how h1
  ·exact h.ow b x h1
 ·rcases hcase b hb with rfl|⟨-,x,-⟩
  ·exact hbg h1
  ·exact h.bg b x h1
 ·rcases hcase c hc with rfl|⟨e,x,y⟩
  ·rcases hcase b hb with rfl|⟨e2,x2,y2⟩
   ·omega
   ·rw [ghV_at,y2] at hne
    exact hpx b hcb x2 hne
  ·rcases hcase b hb with rfl|⟨e2,x2,y2⟩
   ·refine (h.bg c x (by omega)).mono fun i _ hi=>⟨by omega,fun hac=>h.av i _ hac h0⟩
   ·rw [y,y2] at hne
    exact h.px c b hcb x x2 hne
 ·obtain ⟨x1,x2⟩:=h.s4 i hi x
  exact ⟨by rw [hva _ (by omega)]; exact x1,x2⟩
 ·rcases hcase b (by omega) with rfl|⟨-,-,y⟩
  ·rw [ghV_at] at hb; exact hal hb i hi
  ·exact h.al b (by rw [← y]; exact hb) i hi
 ·rcases hcase b (by omega) with rfl|⟨-,-,y⟩
  ·rw [ghV_at] at hb; exact hno hb i hi x
  ·exact (h.nv i hi x).2 b (by rw [← y]; exact hb)
theorem bit_ans {n:Nat} {a:Int} {m i:Nat} (hn:n≤7) (h0:0≤a) (h1:a<2 ^ n) (hm:m<n) (h:bit (ansS a m) i=true):bit a i=true ∨ i=m:=by
 have hp:=(pow_le7 hn).1
 obtain ⟨k,rfl⟩:=Int.eq_ofNat_of_zero_le h0
 have h3:(2:Nat) ^ m<9223372036854775808:=Nat.lt_of_lt_of_le (Nat.pow_lt_pow_right (by decide) (Nat.lt_of_lt_of_le hm hn)) (by decide)
 unfold ansS at h
 rw [pow_nat m,bits_or_nat k (2 ^ m) (by omega) h3] at h
 unfold bit at h ⊢
 rw [Int.toNat_natCast,Nat.testBit_or,Bool.or_eq_true] at h
 rw [Int.toNat_natCast]
 rcases h with h|h
 ·exact .inl h
 ·rw [Nat.testBit_two_pow] at h
  exact .inr (of_decide_eq_true h).symm
theorem bit_zero (i:Nat):bit 0 i=false:=by unfold bit; simp
theorem bit_full {n i:Nat} (hi:i<n):bit (2 ^ n - 1) i=true:=by
 unfold bit
 have h1:(1:Nat)≤2 ^ n:=Nat.one_le_two_pow
 rw [pow_nat,show (((2 ^ n:Nat):Int) - 1).toNat=2 ^ n - 1 by omega,Nat.testBit_two_pow_sub_one]
 exact decide_eq_true hi
theorem waitsY {P:PL} {att k:Int} (h:waitsB P att k=true):(k=2∧P.stt=0∧att=0) ∨ (k=4∧P.stt=0∧0<att) ∨ (k=6∧P.stt=1):=by
 unfold waitsB at h
 simp at h
 omega
theorem choose_fin {L:List S3} {p:Int} (h:chooseL L=(p,true)):(p=2 ∨ p=3)∧∃ t,t∈L∧t.p=p:=by
 unfold chooseL at h
 split at h
 ·rename_i x
  obtain ⟨rfl,-⟩:=Prod.mk.inj h
  rw [gr_has,hasP_iff] at x
  exact ⟨.inl rfl,x⟩
 ·split at h
  ·rename_i x
   obtain ⟨rfl,-⟩:=Prod.mk.inj h
   rw [gr_has,hasP_iff] at x
   exact ⟨.inr rfl,x⟩
  ·split at h <;> (obtain ⟨-,h2⟩:=Prod.mk.inj h; cases h2)
theorem gr_none {p:Int} {L:List S3} (h:¬ (gr p L).2=true):∀ t,t∈L→t.p≠p:=by
 intro t ht e
 refine h ?_
 rw [gr_has,hasP_iff]
 exact ⟨t,ht,e⟩
theorem gr_top {p:Int} {L:List S3} (h:(gr p L).2=true):(∃ t,t∈L∧t.p=p∧t.a=(gr p L).1)∧∀ t,t∈L→t.p=p→t.a≤(gr p L).1:=by
 rcases gr_of p L with ⟨-,h2,h3⟩|⟨h1,-⟩
 ·exact ⟨h2,h3⟩
 ·rw [h1] at h; cases h
theorem choose_pre {L:List S3} {v:Int} (h:chooseL L=(v,false)):(v=4 ∨ v=5)∧(∀ t,t∈L→t.p≠2∧t.p≠3) ∧
  ((v=5∧∀ t,t∈L→t.p≠4∧t.p≠5) ∨ ∃ t,t∈L∧t.p=v∧∀ u,u∈L→(u.p=4 ∨ u.p=5)→u.a≤t.a):=by
 unfold chooseL at h
 split at h
 ·obtain ⟨-,h2⟩:=Prod.mk.inj h; cases h2
 ·rename_i x2
  split at h
  ·obtain ⟨-,h2⟩:=Prod.mk.inj h; cases h2
  ·rename_i x3
   have h23:∀ t,t∈L→t.p≠2∧t.p≠3:=fun t ht=>⟨gr_none x2 t ht,gr_none x3 t ht⟩
   split at h
   ·rename_i x4
    obtain ⟨rfl,-⟩:=Prod.mk.inj h
    obtain ⟨⟨t,t1,t2,t3⟩,t4⟩:=gr_top x4.1
    refine ⟨.inl rfl,h23,.inr ⟨t,t1,t2,fun u hu hp=>?_⟩⟩
    rcases hp with hp|hp
    ·rw [t3]; exact t4 u hu hp
    ·by_cases x5:(gr 5 L).2=true
     ·have:=(gr_top x5).2 u hu hp
      rcases x4.2 with y|y
      ·rw [y] at x5; cases x5
      ·omega
     ·exact absurd hp (gr_none x5 u hu)
   ·rename_i x4
    obtain ⟨rfl,-⟩:=Prod.mk.inj h
    refine ⟨.inr rfl,h23,?_⟩
    by_cases x5:(gr 5 L).2=true
    ·obtain ⟨⟨t,t1,t2,t3⟩,t4⟩:=gr_top x5
     refine .inr ⟨t,t1,t2,fun u hu hp=>?_⟩
     rcases hp with hp|hp
     ·by_cases y4:(gr 4 L).2=true
      ·have h1:=(gr_top y4).2 u hu hp
       have h2:¬ (gr 5 L).1≤(gr 4 L).1:=fun z=>x4 ⟨y4,.inr z⟩
       omega
      ·exact absurd hp (gr_none y4 u hu)
     ·rw [t3]; exact t4 u hu hp
    ·by_cases y4:(gr 4 L).2=true
     ·exfalso
      refine x4 ⟨y4,.inl ?_⟩
      cases hz:(gr 5 L).2 with
      | true=>exact absurd hz x5
      | false=>rfl
     ·exact .inl ⟨rfl,fun t ht=>⟨gr_none y4 t ht,gr_none x5 t ht⟩⟩
def LeOut (zs:List Int) (s:Nat→St) (g:Gh) (id:Nat) (deal att:Int) (x:PL×Option (Int×Int)):Prop :=
 ∃ g',Co zs s g'∧Gr zs s g s g'∧(∀ a,g'.val a≠g.val a→a=att.toNat∧g.val a=0)∧Le zs s g' id att x.1∧∀ f,f∈outL id deal att zs.length x.2→Fr zs s g' f
theorem toL_mem {id:Nat} {deal k att ph:Int} {n:Nat} {f:F9} (h:f∈toL id deal k att ph n):f.k=k∧f.a=att∧f.ph=ph∧f.y=false∧f.f=id∧f.d=deal:=by
 induction n with
 | zero=>cases h
 | succ n ih =>
  rw [toL,List.mem_append] at h
  rcases h with h|h
  ·exact ih h
  ·rw [List.mem_singleton] at h
   subst h
   exact ⟨rfl,rfl,rfl,rfl,rfl,rfl⟩
theorem fr_dec {id:Nat} {deal att p:Int} {n:Nat} (h2:p=2→Dec2 zs g) (h3:p=3→Dec3 zs g):∀ f,f∈toL id deal 7 att p n→Fr zs s g f:=by
 intro f hf
 obtain ⟨e1,-,e3,-⟩:=toL_mem hf
 exact ⟨fun k=>by omega,fun k=>by omega,fun k=>by omega,fun k=>by omega,fun k=>by omega,fun _ e=>h2 (by omega),fun _ e=>h3 (by omega)⟩
theorem fr_pre {id:Nat} {deal att p:Int} {n:Nat} (h1:p=4 ∨ p=5) (h2:(g.val att.toNat:Int)=p):∀ f,f∈toL id deal 5 att p n→Fr zs s g f:=by
 intro f hf
 obtain ⟨e1,e2,e3,-⟩:=toL_mem hf
 exact ⟨fun k=>by omega,fun k=>by omega,fun k=>by omega,fun _=>by rw [e2,e3]; exact ⟨h1,h2⟩,fun k=>by omega,fun k=>by omega,fun k=>by omega⟩
theorem le_done {id:Nat} {att:Int} {P:PL} (h0:0≤att) (how:0<att→att.toNat % zs.length=id∧att.toNat≤(s id).pr) (hs:P.stt=2 ∨ P.stt=3):Le zs s g id att P :=
 ⟨h0,fun e=>by omega,fun e=>by omega,fun e=>by omega,fun e=>by omega,how,fun e=>by omega,fun e=>by omega⟩
theorem keep_out {id:Nat} {deal att:Int} {P:PL} (h:Co zs s g) (hl:Le zs s g id att P):LeOut zs s g id deal att (P,none) :=
 ⟨g,h,Gr.refl _ _ _,fun _ e=>absurd rfl e,hl,fun _ hf=>by cases hf⟩
theorem dec_out {id:Nat} {deal att p:Int} {P:PL} (h:Co zs s g) (h0:0≤att) (how:0<att→att.toNat % zs.length=id∧att.toNat≤(s id).pr) (h2:p=2→Dec2 zs g) (h3:p=3→Dec3 zs g):LeOut zs s g id deal att (decP P p) :=
 ⟨g,h,Gr.refl _ _ _,fun _ e=>absurd rfl e,le_done h0 how (.inl rfl),fr_dec h2 h3⟩
theorem le_pre {id:Nat} {att:Int} {P:PL} {v:Int} (h0:0≤att) (how:0<att→att.toNat % zs.length=id∧att.toNat≤(s id).pr) (hv:v=4 ∨ v=5) (hg:(g.val att.toNat:Int)=v):Le zs s g id att (preP P v).1 :=
 ⟨h0,fun e=>(by cases e),fun e=>(by cases e),fun e=>(by cases e),fun e=>(by cases e),how,fun _=>⟨hv,hg⟩,fun _ i _ hb=>by
  have hb2:bit 0 i=true:=hb
  rw [bit_zero] at hb2; cases hb2⟩
theorem pre_out {id:Nat} {deal att v:Int} {P:PL} (h:Co zs s g) (h0:0≤att) (how:0<att→att.toNat % zs.length=id∧att.toNat≤(s id).pr) (hv:v=4 ∨ v=5) (hz:att=0→v=4)
  (hb:0<att→g.val att.toNat=0) (hbg:0<att→Qo zs fun i=>att.toNat≤(s i).pr)
  (hpx:∀ b,b<att.toNat→g.val b≠0→v≠g.val b→Qo zs fun i=>b<(s i).pr∧¬ g.acc i b) (hal:v=4→∀ i,i<zs.length→(s i).ph≠0) (hno:v=4→∀ i,i<zs.length→¬ g.no i):LeOut zs s g id deal att (preP P v):=by
 by_cases e0:g.val att.toNat=0
 ·have hc:=co_val (v:=v.toNat) h e0 (by omega) (fun e=>by have:=hz (by omega); omega) (fun e=>by have:=how (by omega); rw [this.1]; exact this.2) (fun e=>hbg (by omega)) (fun b hb1 hb2 hb3=>hpx b hb1 hb2 (by omega)) (fun e=>hal (by omega)) (fun e=>hno (by omega))
  have hval:((ghV g att.toNat v.toNat).val att.toNat:Int)=v:=by rw [ghV_at]; omega
  refine ⟨_,hc.1,hc.2,fun a ha=>?_,le_pre h0 how hv hval,fr_pre hv hval⟩
  by_cases e:a=att.toNat
  ·exact ⟨e,by rw [e]; exact e0⟩
  ·rw [ghV_ne _ _ _ e] at ha; exact absurd rfl ha
 ·have ha:att=0:=by
   rcases Int.lt_or_eq_of_le h0 with x|x
   ·exact absurd (hb x) e0
   ·exact x.symm
  have hval:(g.val att.toNat:Int)=v:=by
   have h1:=h.vi att.toNat
   have h2:=h.v0
   have h3:=hz ha
   subst ha
   simp only [Int.toNat_zero] at h1 e0 ⊢
   omega
  exact ⟨g,h,Gr.refl _ _ _,fun _ e=>absurd rfl e,le_pre h0 how hv hval,fr_pre hv hval⟩
theorem lead_co (h:Co zs s g) (he:errW zs=0) {id:Nat} {deal att:Int} {P:PL} (hl:Le zs s g id att P) (hw:PW zs.length P) (f:F9) (hf:Fr zs s g f):LeOut zs s g id deal att (phear zs id deal att P f):=by
 have hn:=(errW_zero he).2.1
 unfold phear
 by_cases ht:takesB zs.length id deal att P f=true
 ·rw [if_pos ht]
  obtain ⟨⟨-,-,ea⟩,hwt,⟨f0,f1⟩,-⟩:=takesB_in ht
  have hm:f.f.toNat<zs.length:=by omega
  have hpn:=hw.note (f:=f) hn f0 f1
  have hb:∀ i,bit (noteP P f).ans i=true→bit P.ans i=true ∨ i=f.f.toNat:=fun i hi=>bit_ans hn hw.lo hw.hi hm hi
  unfold takenP
  rcases waitsY hwt with ⟨ek,es,ez⟩|⟨ek,es,ez⟩|⟨ek,es⟩
  ·rw [if_pos ek]
   unfold voteP
   cases ey:f.y with
   | false =>
    rw [if_pos rfl]
    exact dec_out h hl.a0 hl.ow (fun e=>by omega) (fun _=>hf.vn ek ey)
   | true =>
    rw [if_neg (by simp)]
    have hvo:∀ i,i<zs.length→bit (noteP P f).ans i=true→(s i).ph≠0∧¬ g.no i:=by
     intro i hi hbi
     rcases hb i hbi with x|rfl
     ·exact hl.vo es ez i hi x
     ·exact hf.vy ek ey
    split
    ·rename_i hfull
     have hall:∀ i,i<zs.length→(s i).ph≠0∧¬ g.no i:=fun i hi=>hvo i hi (by rw [hfull]; exact bit_full hi)
     exact pre_out h hl.a0 hl.ow (.inl rfl) (fun _=>rfl) (fun e=>by omega) (fun e=>by omega) (fun b hb=>by omega) (fun _ i hi=>(hall i hi).1) (fun _ i hi=>(hall i hi).2)
    ·exact keep_out h ⟨hl.a0,fun _ _=>hvo,fun _ e=>by omega,fun _ e=>by omega,fun _ e=>by omega,hl.ow,fun e=>by have:P.stt=1:=e; omega,fun e=>by have:P.stt=1:=e; omega⟩
  ·rw [if_neg (by omega)]
   cases ey:f.y with
   | false =>
    rw [if_pos rfl]
    exact keep_out h (le_done hl.a0 hl.ow (.inr rfl))
   | true =>
    rw [if_neg (by simp),if_pos ek]
    obtain ⟨q1,q2,q3,-⟩:=seeP_of (noteP P f) f.pr
    generalize hQ:seeP (noteP P f) f.pr=Q at *
    have hQw:PW zs.length Q:=by rw [← hQ]; exact hpn.see f.pr
    have hto:=hf.te ek ey
    rw [ea] at hto
    have hlen:f.f.toNat<P.told.length:=by rw [hw.len]; omega
    have hT:∀ i,i<zs.length→bit Q.ans i=true→∃ t,(toldS Q.told f.f.toNat ⟨f.ph,f.pr,f.pa⟩)[i]? = some t∧Told zs s g i att.toNat t:=by
     intro i hi hbi
     rw [q2] at hbi
     rw [q3]
     unfold toldS
     rw [List.getElem?_set]
     by_cases e:f.f.toNat=i
     ·rw [if_pos e,if_pos (show f.f.toNat<(noteP P f).told.length from hlen)]
      subst e
      exact ⟨_,rfl,hto⟩
     ·rw [if_neg e]
      rcases hb i hbi with x|x
      ·exact hl.tt es ez i hi x
      ·exact absurd x.symm e
    have hbit:bit Q.ans f.f.toNat=true:=by
     rw [q2]
     show bit (ansS P.ans f.f.toNat) f.f.toNat=true
     obtain ⟨k,hk⟩:=Int.eq_ofNat_of_zero_le hw.lo
     have hp:=(pow_le7 hn).1
     have hhi:=hw.hi
     have h3:(2:Nat) ^ f.f.toNat<9223372036854775808:=Nat.lt_of_lt_of_le (Nat.pow_lt_pow_right (by decide) (Nat.lt_of_lt_of_le hm hn)) (by decide)
     unfold ansS
     rw [hk] at hhi ⊢
     rw [pow_nat f.f.toNat,bits_or_nat k (2 ^ f.f.toNat) (by omega) h3]
     unfold bit
     rw [Int.toNat_natCast,Nat.testBit_or,Nat.testBit_two_pow_self,Bool.or_true]
    have hmono:∀ i,bit P.ans i=true→bit Q.ans i=true:=by
     intro i hi
     rw [q2]
     show bit (ansS P.ans f.f.toNat) i=true
     obtain ⟨k,hk⟩:=Int.eq_ofNat_of_zero_le hw.lo
     have hp:=(pow_le7 hn).1
     have hhi:=hw.hi
     have h3:(2:Nat) ^ f.f.toNat<9223372036854775808:=Nat.lt_of_lt_of_le (Nat.pow_lt_pow_right (by decide) (Nat.lt_of_lt_of_le hm hn)) (by decide)
     unfold ansS
     rw [hk] at hhi hi ⊢
     rw [pow_nat f.f.toNat,bits_or_nat k (2 ^ f.f.toNat) (by omega) h3]
     unfold bit at hi ⊢
     rw [Int.toNat_natCast] at hi
     rw [Int.toNat_natCast,Nat.testBit_or,hi,Bool.true_or]
    have hT0:∀ i t,(toldS Q.told f.f.toNat ⟨f.ph,f.pr,f.pa⟩)[i]? = some t→t.p=0 ∨ (i<zs.length∧bit Q.ans i=true):=by
     intro i t hit
     rw [q3] at hit
     unfold toldS at hit
     rw [List.getElem?_set] at hit
     by_cases e:f.f.toNat=i
     ·subst e; exact .inr ⟨hm,hbit⟩
     ·rw [if_neg e] at hit
      rcases hl.t0 es ez i t hit with x|x
      ·exact .inl x
      ·exact .inr ⟨x.1,hmono i x.2⟩
    have hTm:∀ t,t∈toldS Q.told f.f.toNat ⟨f.ph,f.pr,f.pa⟩→t.p≠0→∃ i,i<zs.length∧Told zs s g i att.toNat t:=by
     intro t ht hp
     obtain ⟨i,hi⟩:=List.mem_iff_getElem?.1 ht
     rcases hT0 i t hi with x|⟨x,y⟩
     ·exact absurd x hp
     ·obtain ⟨u,hu,hu2⟩:=hT i x y
      rw [hi] at hu
      cases hu
      exact ⟨i,x,hu2⟩
    unfold tellP
    split
    ·refine keep_out h ⟨hl.a0,fun _ e=>by omega,fun _ e=>hl.tv es ez,fun _ _=>hT,fun _ _=>hT0,hl.ow,fun e=>?_,fun e=>?_⟩
     ·have e2:Q.stt=1:=e
      rw [q1] at e2
      have:P.stt=1:=e2
      omega
     ·have e2:Q.stt=1:=e
      rw [q1] at e2
      have:P.stt=1:=e2
      omega
    ·rename_i hen
     have hen2:enoughB zs Q.ans=true:=by
      cases hx:enoughB zs Q.ans with
      | true=>rfl
      | false=>exact absurd hx hen
     have hqo:∀ S:Nat→Prop,(∀ i,i<zs.length→bit Q.ans i=true→S i)→Qo zs S:=fun S hS=>⟨Q.ans,errS_mk he hQw.lo hQw.hi,hen2,hS⟩
     generalize hC:chooseL (toldS Q.told f.f.toNat ⟨f.ph,f.pr,f.pa⟩)=c
     obtain ⟨cp,cf⟩:=c
     cases cf with
     | true =>
      rw [if_pos rfl]
      obtain ⟨c1,t,c2,c3⟩:=choose_fin hC
      obtain ⟨i,-,hi⟩:=hTm t c2 (by omega)
      exact dec_out h hl.a0 hl.ow (fun e=>hi.d2 (by simp only at e; omega)) (fun e=>hi.d3 (by simp only at e; omega))
     | false =>
      rw [if_neg (by simp)]
      obtain ⟨c1,c2,c3⟩:=choose_pre hC
      have hbg:Qo zs fun i=>att.toNat≤(s i).pr:=hqo _ fun i hi hbi=>by
       obtain ⟨t,-,ht⟩:=hT i hi hbi
       exact ht.pr
      have hin:∀ i t,(toldS Q.told f.f.toNat ⟨f.ph,f.pr,f.pa⟩)[i]? = some t→t∈toldS Q.told f.f.toNat ⟨f.ph,f.pr,f.pa⟩:=fun i t hit=>List.mem_iff_getElem?.2 ⟨i,hit⟩
      rcases c3 with ⟨c3,c4⟩|⟨t,c3,c4,c5⟩
      ·refine pre_out h hl.a0 hl.ow c1 (fun e=>by omega) (fun _=>hl.tv es ez) (fun _=>hbg) (fun b hb1 _ _=>hqo _ fun i hi hbi=>?_) (fun e=>by omega) (fun e=>by omega)
       obtain ⟨u,u1,u2⟩:=hT i hi hbi
       refine ⟨Nat.lt_of_lt_of_le hb1 u2.pr,fun hac=>?_⟩
       have x1:=c2 u (hin i u u1)
       have x2:=c4 u (hin i u u1)
       have x3:=(u2.ac x1.1 x1.2 b hb1 hac).1
       omega
      ·obtain ⟨j,hj,hjt⟩:=hTm t c3 (by omega)
       have hval:=hjt.va (by omega)
       rw [c4] at hval
       have hta:=hjt.a0
       refine pre_out h hl.a0 hl.ow c1 (fun e=>by omega) (fun _=>hl.tv es ez) (fun _=>hbg) (fun b hb1 hb2 hb3=>?_) (fun e=>h.al t.a.toNat (by omega)) (fun e i hi hno=>(h.nv i hi hno).2 t.a.toNat (by omega))
       rcases Nat.lt_trichotomy b t.a.toNat with hlt|heq|hgt
       ·exact h.px t.a.toNat b hlt (by omega) hb2 (by omega)
       ·rw [heq] at hb3; exact absurd hval.symm hb3
       ·refine hqo _ fun i hi hbi=>?_
        obtain ⟨u,u1,u2⟩:=hT i hi hbi
        refine ⟨Nat.lt_of_lt_of_le hb1 u2.pr,fun hac=>?_⟩
        have x1:=c2 u (hin i u u1)
        obtain ⟨x3,x4⟩:=u2.ac x1.1 x1.2 b hb1 hac
        have x5:=c5 u (hin i u u1) x3
        omega
  ·rw [if_neg (by omega)]
   cases ey:f.y with
   | false =>
    rw [if_pos rfl]
    exact keep_out h (le_done hl.a0 hl.ow (.inr rfl))
   | true =>
    rw [if_neg (by simp),if_neg (by omega)]
    obtain ⟨q1,q2,q3,q4⟩:=seeP_of (noteP P f) f.pr
    generalize hQ:seeP (noteP P f) f.pr=Q at *
    have hQw:PW zs.length Q:=by rw [← hQ]; exact hpn.see f.pr
    have hak:=hf.ak ek ey
    rw [ea] at hak
    have hpv:=hl.pv es
    have hac:∀ i,i<zs.length→bit Q.ans i=true→g.acc i att.toNat:=by
     intro i hi hbi
     rw [q2] at hbi
     rcases hb i hbi with x|rfl
     ·exact hl.pa es i hi x
     ·exact hak
    have hprep:Q.prep=P.prep:=q4
    unfold ackP
    split
    ·refine keep_out h ⟨hl.a0,fun e=>?_,fun e=>?_,fun e=>?_,fun e=>?_,hl.ow,fun _=>by rw [hprep]; exact hpv,fun _=>hac⟩
     all_goals
      rw [q1] at e
      have:P.stt=0:=e
      omega
    ·rename_i hen
     have hen2:enoughB zs Q.ans=true:=by
      cases hx:enoughB zs Q.ans with
      | true=>rfl
      | false=>exact absurd hx hen
     have hqo:Qo zs fun i=>g.acc i att.toNat:=⟨Q.ans,errS_mk he hQw.lo hQw.hi,hen2,hac⟩
     rw [hprep]
     refine dec_out h hl.a0 hl.ow (fun e=>⟨att.toNat,?_,hqo⟩) (fun e=>.inl ⟨att.toNat,?_,hqo⟩)
     ·unfold afterI at e
      rcases hpv.1 with x|x
      ·omega
      ·rw [x] at e; exact absurd e (by decide)
     ·unfold afterI at e
      rcases hpv.1 with x|x
      ·rw [x] at e; exact absurd e (by decide)
      ·omega
 ·rw [if_neg ht]
  exact keep_out h hl
end
end Go.Proofs.YtadhpkopkkjmfaaGreatDoor
