/-
  On the way to SAnewProof: YB EB.
-/
import Derived.Test.YtaehdgemkafinaaGreatDoorBv7
set_option maxHeartbeats 8000000
set_option maxRecDepth 100000
namespace Go.Proofs.YtaehdgemkafinaaGreatDoor
open Go.RowKit
section
variable {zs:List Int} {s s':Nat→St} {g g':Gh}
def ghV (g:Gh) (a v:Nat):Gh:=⟨g.acc,fun b=>if b=a then v else g.val b,g.no⟩
theorem ghV_at (g:Gh) (a v:Nat):(ghV g a v).val a=v:=if_pos rfl
theorem ghV_ne (g:Gh) (a v:Nat) {b:Nat} (h:b≠a):(ghV g a v).val b=g.val b:=if_neg h
theorem co_val (h:Co zs s g) {a v:Nat} (h0:g.val a=0) (hv:v=4 ∨ v=5) (hz:a=0→v=4) (how:0<a→a≤(s (a % zs.length)).pr) (hbg:0<a→Qo zs fun i=>a≤(s i).pr)
  (hpx:∀ b,b<a→g.val b≠0→v≠g.val b→Qo zs fun i=>b<(s i).pr∧¬ g.acc i b) (hal:v=4→∀ i,i<zs.length→(s i).ph≠0) (hno:v=4→∀ i,i<zs.length→¬ g.no i) :
  Co zs s (ghV g a v)∧Gr zs s g s (ghV g a v):=by
 have hva:∀ b,g.val b≠0→(ghV g a v).val b=g.val b:=fun b hb=>ghV_ne g a v (fun e=>hb (by rw [e]; exact h0))
 have hG:Gr zs s g s (ghV g a v):=⟨fun _=>Nat.le_refl _,fun _ _ x=>x,hva,fun _ _ x=>x,fun _ _ _ x=>.inl x,fun _ x=>x,fun _ _ x=>.inl x⟩
 refine ⟨?_,hG⟩
 have hcase:∀ b,(ghV g a v).val b≠0→b=a ∨ (b≠a∧g.val b≠0∧(ghV g a v).val b=g.val b):=by
  intro b hb
  by_cases e:b=a
  ·exact .inl e
  ·rw [ghV_ne g a v e] at hb
   exact .inr ⟨e,hb,ghV_ne g a v e⟩
 refine ⟨fun i b x=>?_,h.ap,fun b=>?_,?_,fun b hb h1=>?_,fun b hb h1=>?_,fun c b hcb hc hb hne=>?_,fun i hi x=>?_,h.s0,fun i hi x=>(h.s2 i hi x).grow hG,fun i hi x=>(h.s3 i hi x).grow hG,fun b hb i hi=>?_,fun i hi x=>⟨(h.nv i hi x).1,fun b hb=>?_⟩⟩
 ·have:=h.av i b x
  rw [hva b this]; exact this
 ·by_cases e:b=a
  ·rw [e,ghV_at]; omega
  ·rw [ghV_ne g a v e]; exact h.vi b
 ·by_cases e:0=a
  ·rw [e,ghV_at]; have:=hz e.symm; omega
  ·rw [ghV_ne g a v e]; exact h.v0
 ·rcases hcase b hb with rfl|⟨-,x,-⟩
  ·exact how h1
  ·exact h.ow b x h1
 ·rcases hcase b hb with rfl|⟨-,x,-⟩
  ·exact hbg h1
  ·exact h.bg b x h1
 ·rcases hcase c hc with rfl|⟨e,x,y⟩
  ·rcases hcase b hb with rfl|⟨e2,x2,y2⟩
   ·omega
   ·rw [ghV_at,y2] at hne
    exact hpx b hcb x2 hne
  ·rcases hcase b hb with rfl|⟨e2,x2,y2⟩
   ·refine (h.bg c x (by omega)).mono fun i _ hi=>⟨by omega,fun hac=>h.av i _ hac h0⟩
   ·rw [y,y2] at hne
    exact h.px c b hcb x x2 hne
 ·obtain ⟨x1,x2⟩:=h.s4 i hi x
  exact ⟨by rw [hva _ (by omega)]; exact x1,x2⟩
 ·rcases hcase b (by omega) with rfl|⟨-,-,y⟩
  ·rw [ghV_at] at hb; exact hal hb i hi
  ·exact h.al b (by rw [← y]; exact hb) i hi
 ·rcases hcase b (by omega) with rfl|⟨-,-,y⟩
  ·rw [ghV_at] at hb; exact hno hb i hi x
  ·exact (h.nv i hi x).2 b (by rw [← y]; exact hb)
theorem bit_ans {n:Nat} {a:Int} {m i:Nat} (hn:n≤7) (h0:0≤a) (h1:a<2 ^ n) (hm:m<n) (h:bit (ansS a m) i=true):bit a i=true ∨ i=m:=by
 have hp:=(pow_le7 hn).1
 obtain ⟨k,rfl⟩:=Int.eq_ofNat_of_zero_le h0
 have h3:(2:Nat) ^ m<9223372036854775808:=Nat.lt_of_lt_of_le (Nat.pow_lt_pow_right (by decide) (Nat.lt_of_lt_of_le hm hn)) (by decide)
 unfold ansS at h
 rw [pow_nat m,bits_or_nat k (2 ^ m) (by omega) h3] at h
 unfold bit at h ⊢
 rw [Int.toNat_natCast,Nat.testBit_or,Bool.or_eq_true] at h
 rw [Int.toNat_natCast]
 rcases h with h|h
 ·exact .inl h
 ·rw [Nat.testBit_two_pow] at h
  exact .inr (of_decide_eq_true h).symm
theorem bit_zero (i:Nat):bit 0 i=false:=by unfold bit; simp
theorem bit_full {n i:Nat} (hi:i<n):bit (2 ^ n - 1) i=true:=by
 unfold bit
 have h1:(1:Nat)≤2 ^ n:=Nat.one_le_two_pow
 rw [pow_nat,show (((2 ^ n:Nat):Int) - 1).toNat=2 ^ n - 1 by omega,Nat.testBit_two_pow_sub_one]
 exact decide_eq_true hi
theorem waitsY {P:PL} {att k:Int} (h:waitsB P att k=true):(k=2∧P.stt=0∧att=0) ∨ (k=4∧P.stt=0∧0<att) ∨ (k=6∧P.stt=1):=by
 unfold waitsB at h
 simp at h
 omega
theorem choose_fin {L:List S3} {p:Int} (h:chooseL L=(p,true)):(p=2 ∨ p=3)∧∃ t,t∈L∧t.p=p:=by
 unfold chooseL at h
 split at h
 ·rename_i x
  obtain ⟨rfl,-⟩:=Prod.mk.inj h
  rw [gr_has,hasP_iff] at x
  exact ⟨.inl rfl,x⟩
 ·split at h
  ·rename_i x
   obtain ⟨rfl,-⟩:=Prod.mk.inj h
   rw [gr_has,hasP_iff] at x
   exact ⟨.inr rfl,x⟩
  ·split at h <;> (obtain ⟨-,h2⟩:=Prod.mk.inj h; cases h2)
theorem gr_none {p:Int} {L:List S3} (h:¬ (gr p L).2=true):∀ t,t∈L→t.p≠p:=by
 intro t ht e
 refine h ?_
 rw [gr_has,hasP_iff]
 exact ⟨t,ht,e⟩
theorem gr_top {p:Int} {L:List S3} (h:(gr p L).2=true):(∃ t,t∈L∧t.p=p∧t.a=(gr p L).1)∧∀ t,t∈L→t.p=p→t.a≤(gr p L).1:=by
 rcases gr_of p L with ⟨-,h2,h3⟩|⟨h1,-⟩
 ·exact ⟨h2,h3⟩
 ·rw [h1] at h; cases h
theorem choose_pre {L:List S3} {v:Int} (h:chooseL L=(v,false)):(v=4 ∨ v=5)∧(∀ t,t∈L→t.p≠2∧t.p≠3) ∧
  ((v=5∧∀ t,t∈L→t.p≠4∧t.p≠5) ∨ ∃ t,t∈L∧t.p=v∧∀ u,u∈L→(u.p=4 ∨ u.p=5)→u.a≤t.a):=by
 unfold chooseL at h
 split at h
 ·obtain ⟨-,h2⟩:=Prod.mk.inj h; cases h2
 ·rename_i x2
  split at h
  ·obtain ⟨-,h2⟩:=Prod.mk.inj h; cases h2
  ·rename_i x3
   have h23:∀ t,t∈L→t.p≠2∧t.p≠3:=fun t ht=>⟨gr_none x2 t ht,gr_none x3 t ht⟩
   split at h
   ·rename_i x4
    obtain ⟨rfl,-⟩:=Prod.mk.inj h
    obtain ⟨⟨t,t1,t2,t3⟩,t4⟩:=gr_top x4.1
    refine ⟨.inl rfl,h23,.inr ⟨t,t1,t2,fun u hu hp=>?_⟩⟩
    rcases hp with hp|hp
    ·rw [t3]; exact t4 u hu hp
    ·by_cases x5:(gr 5 L).2=true
     ·have:=(gr_top x5).2 u hu hp
      rcases x4.2 with y|y
      ·rw [y] at x5; cases x5
      ·omega
     ·exact absurd hp (gr_none x5 u hu)
   ·rename_i x4
    obtain ⟨rfl,-⟩:=Prod.mk.inj h
    refine ⟨.inr rfl,h23,?_⟩
    by_cases x5:(gr 5 L).2=true
    ·obtain ⟨⟨t,t1,t2,t3⟩,t4⟩:=gr_top x5
     refine .inr ⟨t,t1,t2,fun u hu hp=>?_⟩
     rcases hp with hp|hp
     ·by_cases y4:(gr 4 L).2=true
      ·have h1:=(gr_top y4).2 u hu hp
       have h2:¬ (gr 5 L).1≤(gr 4 L).1:=fun z=>x4 ⟨y4,.inr z⟩
       omega
      ·exact absurd hp (gr_none y4 u hu)
     ·rw [t3]; exact t4 u hu hp
    ·by_cases y4:(gr 4 L).2=true
     ·exfalso
      refine x4 ⟨y4,.inl ?_⟩
      cases hz:(gr 5 L).2 with
      | true=>exact absurd hz x5
      | false=>rfl
     ·exact .inl ⟨rfl,fun t ht=>⟨gr_none y4 t ht,gr_none x5 t ht⟩⟩
def LeOut (zs:List Int) (s:Nat→St) (g:Gh) (id:Nat) (deal att:Int) (x:PL×Option (Int×Int)):Prop :=
 ∃ g',Co zs s g'∧Gr zs s g s g'∧(∀ a,g'.val a≠g.val a→a=att.toNat∧g.val a=0)∧Le zs s g' id att x.1∧∀ f,f∈outL id deal att zs.length x.2→Fr zs s g' f
theorem toL_mem {id:Nat} {deal k att ph:Int} {n:Nat} {f:F9} (h:f∈toL id deal k att ph n):f.k=k∧f.a=att∧f.ph=ph∧f.y=false∧f.f=id∧f.d=deal:=by
 induction n with
 | zero=>cases h
 | succ n ih =>
  rw [toL,List.mem_append] at h
  rcases h with h|h
  ·exact ih h
  ·rw [List.mem_singleton] at h
   subst h
   exact ⟨rfl,rfl,rfl,rfl,rfl,rfl⟩
theorem fr_dec {id:Nat} {deal att p:Int} {n:Nat} (h2:p=2→Dec2 zs g) (h3:p=3→Dec3 zs g):∀ f,f∈toL id deal 7 att p n→Fr zs s g f:=by
 intro f hf
 obtain ⟨e1,-,e3,-⟩:=toL_mem hf
 exact ⟨fun k=>by omega,fun k=>by omega,fun k=>by omega,fun k=>by omega,fun k=>by omega,fun _ e=>h2 (by omega),fun _ e=>h3 (by omega)⟩
theorem fr_pre {id:Nat} {deal att p:Int} {n:Nat} (h1:p=4 ∨ p=5) (h2:(g.val att.toNat:Int)=p):∀ f,f∈toL id deal 5 att p n→Fr zs s g f:=by
 intro f hf
 obtain ⟨e1,e2,e3,-⟩:=toL_mem hf
 exact ⟨fun k=>by omega,fun k=>by omega,fun k=>by omega,fun _=>by rw [e2,e3]; exact ⟨h1,h2⟩,fun k=>by omega,fun k=>by omega,fun k=>by omega⟩
theorem le_done {id:Nat} {att:Int} {P:PL} (h0:0≤att) (how:0<att→att.toNat % zs.length=id∧att.toNat≤(s id).pr) (hs:P.stt=2 ∨ P.stt=3):Le zs s g id att P :=
 ⟨h0,fun e=>by omega,fun e=>by omega,fun e=>by omega,fun e=>by omega,how,fun e=>by omega,fun e=>by omega⟩
theorem keep_out {id:Nat} {deal att:Int} {P:PL} (h:Co zs s g) (hl:Le zs s g id att P):LeOut zs s g id deal att (P,none) :=
 ⟨g,h,Gr.refl _ _ _,fun _ e=>absurd rfl e,hl,fun _ hf=>by cases hf⟩
theorem dec_out {id:Nat} {deal att p:Int} {P:PL} (h:Co zs s g) (h0:0≤att) (how:0<att→att.toNat % zs.length=id∧att.toNat≤(s id).pr) (h2:p=2→Dec2 zs g) (h3:p=3→Dec3 zs g):LeOut zs s g id deal att (decP P p) :=
 ⟨g,h,Gr.refl _ _ _,fun _ e=>absurd rfl e,le_done h0 how (.inl rfl),fr_dec h2 h3⟩
theorem le_pre {id:Nat} {att:Int} {P:PL} {v:Int} (h0:0≤att) (how:0<att→att.toNat % zs.length=id∧att.toNat≤(s id).pr) (hv:v=4 ∨ v=5) (hg:(g.val att.toNat:Int)=v):Le zs s g id att (preP P v).1 :=
 ⟨h0,fun e=>(by cases e),fun e=>(by cases e),fun e=>(by cases e),fun e=>(by cases e),how,fun _=>⟨hv,hg⟩,fun _ i _ hb=>by
  have hb2:bit 0 i=true:=hb
  rw [bit_zero] at hb2; cases hb2⟩
theorem pre_out {id:Nat} {deal att v:Int} {P:PL} (h:Co zs s g) (h0:0≤att) (how:0<att→att.toNat % zs.length=id∧att.toNat≤(s id).pr) (hv:v=4 ∨ v=5) (hz:att=0→v=4)
  (hb:0<att→g.val att.toNat=0) (hbg:0<att→Qo zs fun i=>att.toNat≤(s i).pr)
  (hpx:∀ b,b<att.toNat→g.val b≠0→v≠g.val b→Qo zs fun i=>b<(s i).pr∧¬ g.acc i b) (hal:v=4→∀ i,i<zs.length→(s i).ph≠0) (hno:v=4→∀ i,i<zs.length→¬ g.no i):LeOut zs s g id deal att (preP P v):=by
 by_cases e0:g.val att.toNat=0
 ·have hc:=co_val (v:=v.toNat) h e0 (by omega) (fun e=>by have:=hz (by omega); omega) (fun e=>by have:=how (by omega); rw [this.1]; exact this.2) (fun e=>hbg (by omega)) (fun b hb1 hb2 hb3=>hpx b hb1 hb2 (by omega)) (fun e=>hal (by omega)) (fun e=>hno (by omega))
  have hval:((ghV g att.toNat v.toNat).val att.toNat:Int)=v:=by rw [ghV_at]; omega
  refine ⟨_,hc.1,hc.2,fun a ha=>?_,le_pre h0 how hv hval,fr_pre hv hval⟩
  by_cases e:a=att.toNat
  ·exact ⟨e,by rw [e]; exact e0⟩
  ·rw [ghV_ne _ _ _ e] at ha; exact absurd rfl ha
 ·have ha:att=0:=by
   rcases Int.lt_or_eq_of_le h0 with x|x
   ·exact absurd (hb x) e0
   ·exact x.symm
  have hval:(g.val att.toNat:Int)=v:=by
   have h1:=h.vi att.toNat
   have h2:=h.v0
   have h3:=hz ha
   subst ha
   simp only [Int.toNat_zero] at h1 e0 ⊢
   omega
  exact ⟨g,h,Gr.refl _ _ _,fun _ e=>absurd rfl e,le_pre h0 how hv hval,fr_pre hv hval⟩
theorem lead_co (h:Co zs s g) (he:errW zs=0) {id:Nat} {deal att:Int} {P:PL} (hl:Le zs s g id att P) (hw:PW zs.length P) (f:F9) (hf:Fr zs s g f):LeOut zs s g id deal att (phear zs id deal att P f):=by
 have hn:=(errW_zero he).2.1
 unfold phear
 by_cases ht:takesB zs.length id deal att P f=true
 ·rw [if_pos ht]
  obtain ⟨⟨-,-,ea⟩,hwt,⟨f0,f1⟩,-⟩:=takesB_in ht
  have hm:f.f.toNat<zs.length:=by omega
  have hpn:=hw.note (f:=f) hn f0 f1
  have hb:∀ i,bit (noteP P f).ans i=true→bit P.ans i=true ∨ i=f.f.toNat:=fun i hi=>bit_ans hn hw.lo hw.hi hm hi
  unfold takenP
  rcases waitsY hwt with ⟨ek,es,ez⟩|⟨ek,es,ez⟩|⟨ek,es⟩
  ·rw [if_pos ek]
   unfold voteP
   cases ey:f.y with
   | false =>
    rw [if_pos rfl]
    exact dec_out h hl.a0 hl.ow (fun e=>by omega) (fun _=>hf.vn ek ey)
   | true =>
    rw [if_neg (by simp)]
    have hvo:∀ i,i<zs.length→bit (noteP P f).ans i=true→(s i).ph≠0∧¬ g.no i:=by
     intro i hi hbi
     rcases hb i hbi with x|rfl
     ·exact hl.vo es ez i hi x
     ·exact hf.vy ek ey
    split
    ·rename_i hfull
     have hall:∀ i,i<zs.length→(s i).ph≠0∧¬ g.no i:=fun i hi=>hvo i hi (by rw [hfull]; exact bit_full hi)
     exact pre_out h hl.a0 hl.ow (.inl rfl) (fun _=>rfl) (fun e=>by omega) (fun e=>by omega) (fun b hb=>by omega) (fun _ i hi=>(hall i hi).1) (fun _ i hi=>(hall i hi).2)
    ·exact keep_out h ⟨hl.a0,fun _ _=>hvo,fun _ e=>by omega,fun _ e=>by omega,fun _ e=>by omega,hl.ow,fun e=>by have:P.stt=1:=e; omega,fun e=>by have:P.stt=1:=e; omega⟩
  ·rw [if_neg (by omega)]
   cases ey:f.y with
   | false =>
    rw [if_pos rfl]
    exact keep_out h (le_done hl.a0 hl.ow (.inr rfl))
   | true =>
    rw [if_neg (by simp),if_pos ek]
    obtain ⟨q1,q2,q3,-⟩:=seeP_of (noteP P f) f.pr
    generalize hQ:seeP (noteP P f) f.pr=Q at *
    have hQw:PW zs.length Q:=by rw [← hQ]; exact hpn.see f.pr
    have hto:=hf.te ek ey
    rw [ea] at hto
    have hlen:f.f.toNat<P.told.length:=by rw [hw.len]; omega
    have hT:∀ i,i<zs.length→bit Q.ans i=true→∃ t,(toldS Q.told f.f.toNat ⟨f.ph,f.pr,f.pa⟩)[i]? = some t∧Told zs s g i att.toNat t:=by
     intro i hi hbi
     rw [q2] at hbi
     rw [q3]
     unfold toldS
     rw [List.getElem?_set]
     by_cases e:f.f.toNat=i
     ·rw [if_pos e,if_pos (show f.f.toNat<(noteP P f).told.length from hlen)]
      subst e
      exact ⟨_,rfl,hto⟩
     ·rw [if_neg e]
      rcases hb i hbi with x|x
      ·exact hl.tt es ez i hi x
      ·exact absurd x.symm e
    have hbit:bit Q.ans f.f.toNat=true:=by
     rw [q2]
     show bit (ansS P.ans f.f.toNat) f.f.toNat=true
     obtain ⟨k,hk⟩:=Int.eq_ofNat_of_zero_le hw.lo
     have hp:=(pow_le7 hn).1
     have hhi:=hw.hi
     have h3:(2:Nat) ^ f.f.toNat<9223372036854775808:=Nat.lt_of_lt_of_le (Nat.pow_lt_pow_right (by decide) (Nat.lt_of_lt_of_le hm hn)) (by decide)
     unfold ansS
     rw [hk] at hhi ⊢
     rw [pow_nat f.f.toNat,bits_or_nat k (2 ^ f.f.toNat) (by omega) h3]
     unfold bit
     rw [Int.toNat_natCast,Nat.testBit_or,Nat.testBit_two_pow_self,Bool.or_true]
    have hmono:∀ i,bit P.ans i=true→bit Q.ans i=true:=by
     intro i hi
     rw [q2]
     show bit (ansS P.ans f.f.toNat) i=true
     obtain ⟨k,hk⟩:=Int.eq_ofNat_of_zero_le hw.lo
     have hp:=(pow_le7 hn).1
     have hhi:=hw.hi
     have h3:(2:Nat) ^ f.f.toNat<9223372036854775808:=Nat.lt_of_lt_of_le (Nat.pow_lt_pow_right (by decide) (Nat.lt_of_lt_of_le hm hn)) (by decide)
     unfold ansS
     rw [hk] at hhi hi ⊢
     rw [pow_nat f.f.toNat,bits_or_nat k (2 ^ f.f.toNat) (by omega) h3]
     unfold bit at hi ⊢
     rw [Int.toNat_natCast] at hi
     rw [Int.toNat_natCast,Nat.testBit_or,hi,Bool.true_or]
    have hT0:∀ i t,(toldS Q.told f.f.toNat ⟨f.ph,f.pr,f.pa⟩)[i]? = some t→t.p=0 ∨ (i<zs.length∧bit Q.ans i=true):=by
     intro i t hit
     rw [q3] at hit
     unfold toldS at hit
     rw [List.getElem?_set] at hit
     by_cases e:f.f.toNat=i
     ·subst e; exact .inr ⟨hm,hbit⟩
     ·rw [if_neg e] at hit
      rcases hl.t0 es ez i t hit with x|x
      ·exact .inl x
      ·exact .inr ⟨x.1,hmono i x.2⟩
    have hTm:∀ t,t∈toldS Q.told f.f.toNat ⟨f.ph,f.pr,f.pa⟩→t.p≠0→∃ i,i<zs.length∧Told zs s g i att.toNat t:=by
     intro t ht hp
     obtain ⟨i,hi⟩:=List.mem_iff_getElem?.1 ht
     rcases hT0 i t hi with x|⟨x,y⟩
     ·exact absurd x hp
     ·obtain ⟨u,hu,hu2⟩:=hT i x y
      rw [hi] at hu
      cases hu
      exact ⟨i,x,hu2⟩
    unfold tellP
    split
    ·refine keep_out h ⟨hl.a0,fun _ e=>by omega,fun _ e=>hl.tv es ez,fun _ _=>hT,fun _ _=>hT0,hl.ow,fun e=>?_,fun e=>?_⟩
     ·have e2:Q.stt=1:=e
      rw [q1] at e2
      have:P.stt=1:=e2
      omega
     ·have e2:Q.stt=1:=e
      rw [q1] at e2
      have:P.stt=1:=e2
      omega
    ·rename_i hen
     have hen2:enoughB zs Q.ans=true:=by
      cases hx:enoughB zs Q.ans with
      | true=>rfl
      | false=>exact absurd hx hen
     have hqo:∀ S:Nat→Prop,(∀ i,i<zs.length→bit Q.ans i=true→S i)→Qo zs S:=fun S hS=>⟨Q.ans,errS_mk he hQw.lo hQw.hi,hen2,hS⟩
     generalize hC:chooseL (toldS Q.told f.f.toNat ⟨f.ph,f.pr,f.pa⟩)=c
     obtain ⟨cp,cf⟩:=c
     cases cf with
     | true =>
      rw [if_pos rfl]
      obtain ⟨c1,t,c2,c3⟩:=choose_fin hC
      obtain ⟨i,-,hi⟩:=hTm t c2 (by omega)
      exact dec_out h hl.a0 hl.ow (fun e=>hi.d2 (by simp only at e; omega)) (fun e=>hi.d3 (by simp only at e; omega))
     | false =>
      rw [if_neg (by simp)]
      obtain ⟨c1,c2,c3⟩:=choose_pre hC
      have hbg:Qo zs fun i=>att.toNat≤(s i).pr:=hqo _ fun i hi hbi=>by
       obtain ⟨t,-,ht⟩:=hT i hi hbi
       exact ht.pr
      have hin:∀ i t,(toldS Q.told f.f.toNat ⟨f.ph,f.pr,f.pa⟩)[i]? = some t→t∈toldS Q.told f.f.toNat ⟨f.ph,f.pr,f.pa⟩:=fun i t hit=>List.mem_iff_getElem?.2 ⟨i,hit⟩
      rcases c3 with ⟨c3,c4⟩|⟨t,c3,c4,c5⟩
      ·refine pre_out h hl.a0 hl.ow c1 (fun e=>by omega) (fun _=>hl.tv es ez) (fun _=>hbg) (fun b hb1 _ _=>hqo _ fun i hi hbi=>?_) (fun e=>by omega) (fun e=>by omega)
       obtain ⟨u,u1,u2⟩:=hT i hi hbi
       refine ⟨Nat.lt_of_lt_of_le hb1 u2.pr,fun hac=>?_⟩
       have x1:=c2 u (hin i u u1)
       have x2:=c4 u (hin i u u1)
       have x3:=(u2.ac x1.1 x1.2 b hb1 hac).1
       omega
      ·obtain ⟨j,hj,hjt⟩:=hTm t c3 (by omega)
       have hval:=hjt.va (by omega)
       rw [c4] at hval
       have hta:=hjt.a0
       refine pre_out h hl.a0 hl.ow c1 (fun e=>by omega) (fun _=>hl.tv es ez) (fun _=>hbg) (fun b hb1 hb2 hb3=>?_) (fun e=>h.al t.a.toNat (by omega)) (fun e i hi hno=>(h.nv i hi hno).2 t.a.toNat (by omega))
       rcases Nat.lt_trichotomy b t.a.toNat with hlt|heq|hgt
       ·exact h.px t.a.toNat b hlt (by omega) hb2 (by omega)
       ·rw [heq] at hb3; exact absurd hval.symm hb3
       ·refine hqo _ fun i hi hbi=>?_
        obtain ⟨u,u1,u2⟩:=hT i hi hbi
        refine ⟨Nat.lt_of_lt_of_le hb1 u2.pr,fun hac=>?_⟩
        have x1:=c2 u (hin i u u1)
        obtain ⟨x3,x4⟩:=u2.ac x1.1 x1.2 b hb1 hac
        have x5:=c5 u (hin i u u1) x3
        omega
  ·rw [if_neg (by omega)]
   cases ey:f.y with
   | false =>
    rw [if_pos rfl]
    exact keep_out h (le_done hl.a0 hl.ow (.inr rfl))
   | true =>
    rw [if_neg (by simp),if_neg (by omega)]
    obtain ⟨q1,q2,q3,q4⟩:=seeP_of (noteP P f) f.pr
    generalize hQ:seeP (noteP P f) f.pr=Q at *
    have hQw:PW zs.length Q:=by rw [← hQ]; exact hpn.see f.pr
    have hak:=hf.ak ek ey
    rw [ea] at hak
    have hpv:=hl.pv es
    have hac:∀ i,i<zs.length→bit Q.ans i=true→g.acc i att.toNat:=by
     intro i hi hbi
     rw [q2] at hbi
     rcases hb i hbi with x|rfl
     ·exact hl.pa es i hi x
     ·exact hak
    have hprep:Q.prep=P.prep:=q4
    unfold ackP
    split
    ·refine keep_out h ⟨hl.a0,fun e=>?_,fun e=>?_,fun e=>?_,fun e=>?_,hl.ow,fun _=>by rw [hprep]; exact hpv,fun _=>hac⟩
     all_goals
      rw [q1] at e
      have:P.stt=0:=e
      omega
    ·rename_i hen
     have hen2:enoughB zs Q.ans=true:=by
      cases hx:enoughB zs Q.ans with
      | true=>rfl
      | false=>exact absurd hx hen
     have hqo:Qo zs fun i=>g.acc i att.toNat:=⟨Q.ans,errS_mk he hQw.lo hQw.hi,hen2,hac⟩
     rw [hprep]
     refine dec_out h hl.a0 hl.ow (fun e=>⟨att.toNat,?_,hqo⟩) (fun e=>.inl ⟨att.toNat,?_,hqo⟩)
     ·unfold afterI at e
      rcases hpv.1 with x|x
      ·omega
      ·rw [x] at e; exact absurd e (by decide)
     ·unfold afterI at e
      rcases hpv.1 with x|x
      ·rw [x] at e; exact absurd e (by decide)
      ·omega
 ·rw [if_neg ht]
  exact keep_out h hl
end
theorem jbelow_is (x n:Int) (b:Bool) (w:World) (hb:decide (0≤x∧x<n)=b):Calls Tryz.prog 170 #[.int .i64 x,.int .i64 n] w fun e w'=>e=.returned (.bool b)∧w'=w:=by
 subst hb
 by_cases h0:0≤x
 ·by_cases h1:x<n
  ·rw [decide_eq_true (show 0≤x∧x<n from ⟨h0,h1⟩)]
   go_enter Tryz.func170,Tryz.ntmps170
   go_wp2_with fail
   go_ret
   exact ⟨rfl,rfl⟩
  ·rw [decide_eq_false (show ¬ (0≤x∧x<n) from fun h=>h1 h.2)]
   have e1:decide (x<n)=false:=decide_eq_false h1
   go_enter Tryz.func170,Tryz.ntmps170
   go_wp2_with fail
   go_ret
   exact ⟨rfl,rfl⟩
 ·rw [decide_eq_false (show ¬ (0≤x∧x<n) from fun h=>h0 h.1)]
  have e1:decide (0≤x)=false:=decide_eq_false h0
  go_enter Tryz.func170,Tryz.ntmps170
  go_wp2_with fail
  go_ret
  exact ⟨rfl,rfl⟩
theorem jisEnd_is (p:Int) (b:Bool) (w:World) (hb:decide (p=2 ∨ p=3)=b):Calls Tryz.prog 171 #[.int .i64 p] w fun e w'=>e=.returned (.bool b)∧w'=w:=by
 subst hb
 by_cases h2:p=2
 ·subst h2
  go_enter Tryz.func171,Tryz.ntmps171
  go_wp2_with fail
  go_ret
  exact ⟨rfl,rfl⟩
 ·by_cases h3:p=3
  ·subst h3
   go_enter Tryz.func171,Tryz.ntmps171
   go_wp2_with fail
   go_ret
   exact ⟨rfl,rfl⟩
  ·rw [decide_eq_false (show ¬ (p=2 ∨ p=3) by omega)]
   have b2:(p == 2)=false:=beq_eq_false_iff_ne.2 h2
   have b3:(p == 3)=false:=beq_eq_false_iff_ne.2 h3
   go_enter Tryz.func171,Tryz.ntmps171
   go_wp2_with fail
   go_ret
   exact ⟨rfl,rfl⟩
theorem threeE {w:World} {b:Nat} {a c e:Value} {t:TypeId} {f:Nat×Nat} (h:w.heap[b]? = some (.cells #[a,c,e] t f)):w.cell? ⟨b,0,none⟩=some a∧w.cell? ⟨b,1,none⟩=some c∧w.cell? ⟨b,2,none⟩=some e :=
 ⟨by rw [cell_of_row _ _ _ _ _ _ h]; rfl,by rw [cell_of_row _ _ _ _ _ _ h]; rfl,by rw [cell_of_row _ _ _ _ _ _ h]; rfl⟩
def verL (E S:Nat→Int):List Value:=[.int .i64 (E 0),.int .i64 (S 0),.int .i64 (E 1),.int .i64 (S 1),.int .i64 (E 2),.int .i64 (S 2),.int .i64 (E 3),.int .i64 (S 3),.int .i64 (E 4),.int .i64 (S 4),.int .i64 (E 5),.int .i64 (S 5)]
def verV (E S:Nat→Int):Value:=.agg #[.int .i64 (E 0),.int .i64 (S 0),.int .i64 (E 1),.int .i64 (S 1),.int .i64 (E 2),.int .i64 (S 2),.int .i64 (E 3),.int .i64 (S 3),.int .i64 (E 4),.int .i64 (S 4),.int .i64 (E 5),.int .i64 (S 5)]
theorem verL_get (E S:Nat→Int) {d:Nat} (hd:d<6):(verL E S)[d * 2]? = some (.int .i64 (E d))∧(verL E S)[d * 2+1]? = some (.int .i64 (S d)):=by
 have h:d=0 ∨ d=1 ∨ d=2 ∨ d=3 ∨ d=4 ∨ d=5:=by omega
 rcases h with rfl|rfl|rfl|rfl|rfl|rfl <;> exact ⟨rfl,rfl⟩
theorem ver_cells {w:World} {b:Nat} {E S:Nat→Int} {t:TypeId} (h:w.heap[b]? = some (.cells (verL E S).toArray t (0,0))) {d:Nat} (hd:d<6):w.cell? ⟨b,d * 2,none⟩=some (.int .i64 (E d))∧w.cell? ⟨b,d * 2+1,none⟩=some (.int .i64 (S d)):=by
 obtain ⟨h1,h2⟩:=verL_get E S hd
 exact ⟨by rw [cell_of_row _ _ _ _ _ _ h,List.getElem?_toArray]; exact h1,by rw [cell_of_row _ _ _ _ _ _ h,List.getElem?_toArray]; exact h2⟩
theorem jfault_bad (A:Nat→Addr) (s d p n:Int) (E S:Nat→Int) (w:World) (hE:Held9 w A) (hb:bdB n ⟨s,d,p⟩=false) :
  Calls Tryz.prog 126 #[.agg #[.int .i64 s,.int .i64 d,.int .i64 p],.int .i64 n,verV E S] w fun e w'=>e=.returned (ev A 2)∧Below w.heap.size w w':=by
 obtain ⟨x1,H1⟩:∃ x,Hid (decide (0≤s∧s<n)=x):=⟨_,rfl⟩
 obtain ⟨x2,H2⟩:∃ x,Hid (decide (0≤d∧d<6)=x):=⟨_,rfl⟩
 obtain ⟨x3,H3⟩:∃ x,Hid (decide (p=2 ∨ p=3)=x):=⟨_,rfl⟩
 have HX:Hid (x1=true→x2=true→x3=false):=fun e1 e2=>by
  have h1:=of_decide_eq_true (H1.out.trans e1)
  have h2:=of_decide_eq_true (H2.out.trans e2)
  rw [← H3.out]
  refine decide_eq_false fun h3=>?_
  exact of_decide_eq_false hb ⟨h1,h2,h3⟩
 obtain ⟨W,HW⟩:∃ W,Hid ((w.alloc (.cells #[.int .i64 s,.int .i64 d,.int .i64 p] 180)).alloc (.cells #[.int .i64 (E 0),.int .i64 (S 0),.int .i64 (E 1),.int .i64 (S 1),.int .i64 (E 2),.int .i64 (S 2),.int .i64 (E 3),.int .i64 (S 3),.int .i64 (E 4),.int .i64 (S 4),.int .i64 (E 5),.int .i64 (S 5)] 179)=W):=⟨_,rfl⟩
 have HB:Hid (Below w.heap.size w W):=by rw [← HW.out]; exact ((Below.refl _ _).alloc (Nat.le_refl _) _).alloc (by simp) _
 have HR:Hid (W.heap[w.heap.size]? = some (.cells #[.int .i64 s,.int .i64 d,.int .i64 p] 180 (0,0))):=by
  rw [← HW.out]
  exact (heap_alloc_old _ _ (by simp)).trans (heap_alloc_new w _)
 obtain ⟨b0,b1,b2⟩:=threeE HR.out
 have hW:=HW.out
 have c1:=(hE.later HB.out).cells.2.1
 unfold verV
 clear hE hb
 cases x1 with
 | false =>
  go_enter Tryz.func126,Tryz.ntmps126
  go_wp2_with fail
  refine (jbelow_is s n false _ H1.out).mono ?_
  rintro e w1 ⟨rfl,hx⟩
  subst w1
  go_wp2_with fail
  go_ret
  exact ⟨rfl,HB.out⟩
 | true =>
  cases x2 with
  | false =>
   go_enter Tryz.func126,Tryz.ntmps126
   go_wp2_with fail
   refine (jbelow_is s n true _ H1.out).mono ?_
   rintro e w1 ⟨rfl,hx⟩
   subst w1
   go_wp2_with fail
   refine (jbelow_is d 6 false _ H2.out).mono ?_
   rintro e w1 ⟨rfl,hx⟩
   subst w1
   go_wp2_with fail
   go_ret
   exact ⟨rfl,HB.out⟩
  | true =>
   obtain rfl:=HX.out rfl rfl
   go_enter Tryz.func126,Tryz.ntmps126
   go_wp2_with fail
   refine (jbelow_is s n true _ H1.out).mono ?_
   rintro e w1 ⟨rfl,hx⟩
   subst w1
   go_wp2_with fail
   refine (jbelow_is d 6 true _ H2.out).mono ?_
   rintro e w1 ⟨rfl,hx⟩
   subst w1
   go_wp2_with fail
   refine (jisEnd_is p false _ H3.out).mono ?_
   rintro e w1 ⟨rfl,hx⟩
   subst w1
   go_wp2_with fail
   go_ret
   exact ⟨rfl,HB.out⟩
theorem bit_and1 {s:Int} (k:Nat) (h0:0≤s) (h1:s<9223372036854775808):(bits BinOp.and IntKind.i64 (s / 2 ^ k) 1 == 1)=bit s k:=by
 obtain ⟨m,rfl⟩:=Int.eq_ofNat_of_zero_le h0
 have e:((m:Int) / 2 ^ k)=((m / 2 ^ k:Nat):Int):=by simp
 have hlt:m / 2 ^ k<9223372036854775808:=Nat.lt_of_le_of_lt (Nat.div_le_self _ _) (by omega)
 rw [e,show (1:Int)=((1:Nat):Int) from rfl,bits_and_nat _ 1 hlt (by decide),Nat.and_one_is_mod]
 unfold bit
 rw [Int.toNat_natCast,Nat.testBit_eq_decide_div_mod_eq,Bool.eq_iff_iff]
 simp; omega
theorem jfault_ok (A:Nat→Addr) (s d:Nat) (p n:Int) (E S:Nat→Int) (x y:Bool) (w:World) (hE:Held9 w A) (hs:(s:Int)<n) (hn:n≤7) (hd:d<6) (hp:p=2 ∨ p=3) (hx:(E d != 0 && E d != p)=x) (h0:0≤S d) (h1:S d<128) (hy:bit (S d) s=y) :
  Calls Tryz.prog 126 #[.agg #[.int .i64 (s:Int),.int .i64 (d:Int),.int .i64 p],.int .i64 n,verV E S] w fun e w'=>e=.returned (ev A (if x=true then 9 else if y=true then 8 else 0))∧Below w.heap.size w w':=by
 have H1:Hid (decide (0≤(s:Int)∧(s:Int)<n)=true):=hid (decide_eq_true ⟨by omega,hs⟩)
 have H2:Hid (decide (0≤(d:Int)∧(d:Int)<6)=true):=hid (decide_eq_true ⟨by omega,by omega⟩)
 have H3:Hid (decide (p=2 ∨ p=3)=true):=hid (decide_eq_true hp)
 obtain ⟨W,HW⟩:∃ W,Hid ((w.alloc (.cells #[.int .i64 (s:Int),.int .i64 (d:Int),.int .i64 p] 180)).alloc (.cells #[.int .i64 (E 0),.int .i64 (S 0),.int .i64 (E 1),.int .i64 (S 1),.int .i64 (E 2),.int .i64 (S 2),.int .i64 (E 3),.int .i64 (S 3),.int .i64 (E 4),.int .i64 (S 4),.int .i64 (E 5),.int .i64 (S 5)] 179)=W):=⟨_,rfl⟩
 have HB:Hid (Below w.heap.size w W):=by rw [← HW.out]; exact ((Below.refl _ _).alloc (Nat.le_refl _) _).alloc (by simp) _
 have HR:Hid (W.heap[w.heap.size]? = some (.cells #[.int .i64 (s:Int),.int .i64 (d:Int),.int .i64 p] 180 (0,0))):=by
  rw [← HW.out]
  exact (heap_alloc_old _ _ (by simp)).trans (heap_alloc_new w _)
 have HV:Hid (W.heap[w.heap.size+1]? = some (.cells (verL E S).toArray 179 (0,0))):=by
  rw [← HW.out]
  have:=heap_alloc_new (w.alloc (.cells #[.int .i64 (s:Int),.int .i64 (d:Int),.int .i64 p] 180)) (.cells (verL E S).toArray 179)
  rw [World.size_alloc] at this
  exact this
 obtain ⟨b0,b1,b2⟩:=threeE HR.out
 obtain ⟨v0,v1⟩:=ver_cells HV.out hd
 have hW:=HW.out
 obtain ⟨-,c1,-,-,-,-,-,c7,c8⟩:=(hE.later HB.out).cells
 have hbit:Hid ((bits BinOp.and IntKind.i64 (S d / 2 ^ s) 1 == 1)=y):=by rw [← hy]; exact bit_and1 s h0 (by omega)
 obtain ⟨ed,HED⟩:∃ z,Hid (E d=z):=⟨_,rfl⟩
 obtain ⟨sd,HSD⟩:∃ z,Hid (S d=z):=⟨_,rfl⟩
 rw [HED.out] at v0 hx
 rw [HSD.out] at v1 hbit h0 h1
 unfold verV
 clear hE hp HR HV
 cases x with
 | true =>
  rw [Bool.and_eq_true,bne_iff_ne,bne_iff_ne] at hx
  have e1:(ed != 0)=true:=bne_iff_ne.2 hx.1
  have e2:(ed != p)=true:=bne_iff_ne.2 hx.2
  rw [if_pos rfl]
  go_enter Tryz.func126,Tryz.ntmps126
  go_wp2_with fail
  refine (jbelow_is s n true _ H1.out).mono ?_
  rintro e w1 ⟨rfl,hx⟩
  subst w1
  go_wp2_with fail
  refine (jbelow_is d 6 true _ H2.out).mono ?_
  rintro e w1 ⟨rfl,hx⟩
  subst w1
  go_wp2_with fail
  refine (jisEnd_is p true _ H3.out).mono ?_
  rintro e w1 ⟨rfl,hx⟩
  subst w1
  go_wp2_with fail
  go_quiet (fail)
  go_wp2
  go_ret
  exact ⟨rfl,below_drewN HB.out _⟩
 | false =>
  rw [if_neg (by decide)]
  have key:∀ f1 f2:Bool,(ed != 0)=f1→(f1=true→(ed != p)=f2∧f2=false)→Calls Tryz.prog 126 #[.agg #[.int .i64 (s:Int),.int .i64 (d:Int),.int .i64 p],.int .i64 n,.agg #[.int .i64 (E 0),.int .i64 (S 0),.int .i64 (E 1),.int .i64 (S 1),.int .i64 (E 2),.int .i64 (S 2),.int .i64 (E 3),.int .i64 (S 3),.int .i64 (E 4),.int .i64 (S 4),.int .i64 (E 5),.int .i64 (S 5)]] w fun e w'=>e=.returned (ev A (if y=true then 8 else 0))∧Below w.heap.size w w':=by
   intro f1 f2 e1 e2
   have e3:f1=true→(ed != p)=false:=fun h=>by obtain ⟨a1,a2⟩:=e2 h; rw [a1,a2]
   clear e2
   cases f1 with
   | true =>
    have e4:=e3 rfl
    clear e3 hx
    go_enter Tryz.func126,Tryz.ntmps126
    go_wp2_with fail
    refine (jbelow_is s n true _ H1.out).mono ?_
    rintro e w1 ⟨rfl,hx⟩
    subst w1
    go_wp2_with fail
    refine (jbelow_is d 6 true _ H2.out).mono ?_
    rintro e w1 ⟨rfl,hx⟩
    subst w1
    go_wp2_with fail
    refine (jisEnd_is p true _ H3.out).mono ?_
    rintro e w1 ⟨rfl,hx⟩
    subst w1
    go_wp2_with fail
    go_quiet (fail)
    go_wp2
    go_quiet (fail)
    rw [hbit.out]
    cases y with
    | true =>
     go_wp2
     go_ret
     exact ⟨rfl,below_drewN HB.out _⟩
    | false =>
     go_wp2
     go_ret
     exact ⟨rfl,below_drewN HB.out _⟩
   | false =>
    clear e3 hx
    go_enter Tryz.func126,Tryz.ntmps126
    go_wp2_with fail
    refine (jbelow_is s n true _ H1.out).mono ?_
    rintro e w1 ⟨rfl,hx⟩
    subst w1
    go_wp2_with fail
    refine (jbelow_is d 6 true _ H2.out).mono ?_
    rintro e w1 ⟨rfl,hx⟩
    subst w1
    go_wp2_with fail
    refine (jisEnd_is p true _ H3.out).mono ?_
    rintro e w1 ⟨rfl,hx⟩
    subst w1
    go_wp2_with fail
    go_quiet (fail)
    go_wp2
    go_quiet (fail)
    rw [hbit.out]
    cases y with
    | true =>
     go_wp2
     go_ret
     exact ⟨rfl,below_drewN HB.out _⟩
    | false =>
     go_wp2
     go_ret
     exact ⟨rfl,below_drewN HB.out _⟩
  refine key _ (ed != p) rfl fun h=>⟨rfl,?_⟩
  rw [h,Bool.true_and] at hx
  exact hx
theorem jfault_any (A:Nat→Addr) (e:E3) (n:Int) (P:List E3) (c:Nat) (w:World) (hE:Held9 w A) (hn:n≤7) (hk:EvK n P) (hc:evC n P e=c) :
  Calls Tryz.prog 126 #[.agg #[.int .i64 e.s,.int .i64 e.d,.int .i64 e.p],.int .i64 n,verV (endL P) (sitL P)] w fun r w'=>r=.returned (ev A c)∧Below w.heap.size w w':=by
 subst hc
 unfold evC
 cases hb:bdB n e with
 | false =>
  rw [if_pos rfl]
  exact jfault_bad A e.s e.d e.p n _ _ w hE hb
 | true =>
  rw [if_neg (by decide)]
  obtain ⟨⟨s0,s1⟩,⟨d0,d1⟩,hp⟩:=of_decide_eq_true hb
  obtain ⟨s,hs⟩:=Int.eq_ofNat_of_zero_le s0
  obtain ⟨d,hd⟩:=Int.eq_ofNat_of_zero_le d0
  have h:=jfault_ok A s d e.p n (endL P) (sitL P) _ _ w hE (by omega) hn (by omega) hp rfl (hk.s0 d).1 (hk.s0 d).2 rfl
  rw [← hk.split hd,← hk.held hd hs (by omega)] at h
  rw [hs,hd]
  exact h
end Go.Proofs.YtaehdgemkafinaaGreatDoor
