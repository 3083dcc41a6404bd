/-
  On the way to SPlaysProof: O7 O8 YB EC EE.
-/
import Derived.Test.YtaehdgemkafinaaGreatDoorBx10
import Derived.Test.YtaehdgemkafinaaGreatDoorBx12
import Derived.Shelf.Abstract
set_option maxHeartbeats 8000000
set_option maxRecDepth 100000
namespace Go.Proofs.YtaehdgemkafinaaGreatDoor
open Go.RowKit
open Go.Proofs.Tryz
abbrev cY(R:Value->World->Prop):Ending->World->Prop:=fun e w'=>∃v,e=.returned v∧R v w'
def adk(xb:Nat)(a b:Int)(i c f:Nat)(ar:Array Value):Prop:=(i=1∧c=38∧f=39∧ar=#[az xb,.int .i64 a,.int .i64 b])∨(i=2∧c=40∧f=41∧ar=#[az xb,.int .i64 a,.int .i64 b])∨(i=7∧c=50∧f=51∧ar=#[az xb,.int .i64 a,.int .i64 b,.bool true])∨(i=8∧c=52∧f=51∧ar=#[az xb,.int .i64 a,.int .i64 b,.bool false])∨(i=9∧c=53∧f=54∧ar=#[az xb,.int .i64 a,.int .i64 b])
def aew(xb:Nat)(a:Int)(i c f:Nat)(ar:Array Value):Prop:=(i=3∧c=42∧f=43∧ar=#[az xb,.int .i64 a])∨(i=4∧c=44∧f=45∧ar=#[az xb,.int .i64 a])∨(i=5∧c=46∧f=47∧ar=#[az xb,.int .i64 a])∨(i=6∧c=48∧f=49∧ar=#[az xb,.int .i64 a])∨(i=10∧c=55∧f=56∧ar=#[az xb,.int .i64 a])∨(i=11∧c=57∧f=58∧ar=#[az xb,.int .i64 a])
section
variable {w:World} {pb bb xb g n cap i c f:Nat} {ar:Array Value} {a b:Int} {R:Value→World→Prop}
theorem ajt(j:adk xb a b i c f ar)(p:bR w bb (az pb))(q:bR w pb (az xb))(h0:w.cell? ⟨g,0,none⟩=some (.int .i64 a))(h1:w.cell? ⟨g,1,none⟩=some (.int .i64 b))(e:Calls prog f ar w.drew (cY R))(h:∀v W,R v W->W.cell? ⟨bb,0,none⟩=some (az pb)∧W.cell? ⟨pb,0,none⟩=some (az xb)∧W.cell? ⟨g,0,none⟩=some (.int .i64 a)∧W.cell? ⟨g,1,none⟩=some (.int .i64 b)):Calls prog c #[.slice (some ⟨g,0,none⟩) 2 cap,az bb] w (cY R):=by
 have k:=hid e;have l:=hid h;clear e h;rcases j with⟨-,rfl,rfl,rfl⟩|⟨-,rfl,rfl,rfl⟩|⟨-,rfl,rfl,rfl⟩|⟨-,rfl,rfl,rfl⟩|⟨-,rfl,rfl,rfl⟩
 go_enter func38,ntmps38
 rotate_left
 go_enter func40,ntmps40
 rotate_left
 go_enter func50,ntmps50
 rotate_left
 go_enter func52,ntmps52
 rotate_left
 go_enter func53,ntmps53
 rotate_left
 all_goals go_wp2_with fail
 all_goals go_region_held3 (fun W=>W.cell? ⟨bb,0,none⟩=some (az pb)∧W.cell? ⟨pb,0,none⟩=some (az xb)∧W.cell? ⟨g,0,none⟩=some (.int .i64 a)∧W.cell? ⟨g,1,none⟩=some (.int .i64 b)) (first|exact m|go_keep) (first|((first|go_at_call 39|go_at_call 54|go_at_call 51|go_at_call 41);(with_reducible refine k.out.mono ?_);rintro r s ⟨v,rfl,d⟩;have o:=hid d;have m:=l.out _ _ d;clear d))
 all_goals go_wp2_with fail
 all_goals go_ret
 all_goals exact⟨_,rfl,o.out⟩
theorem ajD(j:aew xb a i c f ar)(p:bR w bb (az pb))(q:bR w pb (az xb))(h0:w.cell? ⟨g,0,none⟩=some (.int .i64 a))(e:Calls prog f ar w.drew (cY R))(h:∀v W,R v W->W.cell? ⟨bb,0,none⟩=some (az pb)∧W.cell? ⟨pb,0,none⟩=some (az xb)∧W.cell? ⟨g,0,none⟩=some (.int .i64 a)):Calls prog c #[.slice (some ⟨g,0,none⟩) 1 cap,az bb] w (cY R):=by
 have k:=hid e;have l:=hid h;clear e h;rcases j with⟨-,rfl,rfl,rfl⟩|⟨-,rfl,rfl,rfl⟩|⟨-,rfl,rfl,rfl⟩|⟨-,rfl,rfl,rfl⟩|⟨-,rfl,rfl,rfl⟩|⟨-,rfl,rfl,rfl⟩
 go_enter func42,ntmps42
 rotate_left
 go_enter func44,ntmps44
 rotate_left
 go_enter func46,ntmps46
 rotate_left
 go_enter func48,ntmps48
 rotate_left
 go_enter func55,ntmps55
 rotate_left
 go_enter func57,ntmps57
 rotate_left
 all_goals go_wp2_with fail
 all_goals go_region_held3 (fun W=>W.cell? ⟨bb,0,none⟩=some (az pb)∧W.cell? ⟨pb,0,none⟩=some (az xb)∧W.cell? ⟨g,0,none⟩=some (.int .i64 a)) (first|exact m|go_keep) (first|((first|go_at_call 45|go_at_call 56|go_at_call 47|go_at_call 43|go_at_call 49|go_at_call 58);(with_reducible refine k.out.mono ?_);rintro r s ⟨v,rfl,d⟩;have o:=hid d;have m:=l.out _ _ d;clear d))
 all_goals go_wp2_with fail
 all_goals go_ret
 all_goals exact⟨_,rfl,o.out⟩
end
section
variable {w:World} {pb bb x y z f xb:Nat} {nv:Value} {R:Value→World→Prop}
theorem abn(g:∀args w,(callFunc f args).run prog w=.ok (.enter f args) w)(h:bR w z (fj f bb))(a:Calls prog f #[nv,az bb] w (cY R)):Calls prog 99 #[nv,az z] w (cY fun v w'=>∃e,v=.tuple #[.string ⟨#[111,107]⟩,e]∧R e w'):=by
 have c:=hid a;clear a
 go_enter func99,ntmps99
 go_wp2_with fail
 refine c.mono ?_;rintro e i ⟨v,rfl,b⟩;have d:=hid b;clear b
 go_wp2_with fail
 go_ret2
 exact⟨_,rfl,_,rfl,d⟩
theorem wE{A:Nat->Addr}(a:w.cell? ⟨3,0,none⟩=some (.iface 318 (.pointer (some (A 3)))))(b:bR w x (az pb))(c:bR w pb (.pointer none)):Calls prog 128 #[nv,az x,az y] w fun e w'=>e=.returned (.tuple #[.string ⟨#[]⟩,.iface 318 (.pointer (some (A 3)))])∧Below w.heap.size w w':=by
 go_enter func128,ntmps128
 go_wp2_with fail
 go_quiet (fail)
 go_wp2_with fail
 go_ret2
 exact⟨rfl,aJ aF _⟩
theorem wY(g:∀args w,(callFunc f args).run prog w=.ok (.enter f args) w)(h:bR w x (az pb))(i:bR w pb (az xb))(j:bR w y (fj f bb))(a:Calls prog f #[nv,az bb] w (cY fun v w'=>∃s e,v=.tuple #[.string s,e]∧R v w')):Calls prog 128 #[nv,az x,az y] w (cY fun v w'=>∃s e,v=.tuple #[.string s,e]∧R v w'):=by
 have c:=hid a;clear a
 go_enter func128,ntmps128
 go_wp2_with fail
 refine c.mono ?_;rintro e k ⟨v,rfl,s,e,rfl,b⟩;have d:=hid b;clear b
 go_wp2_with fail
 go_ret2
 exact⟨_,rfl,_,_,rfl,d⟩
end
section
variable {zs:List Int} {s s':Nat→St} {g g':Gh}
def ghV(g:Gh)(a v:Nat):Gh:=⟨g.acc,fun b=>if b=a then v else g.val b,g.no⟩
theorem lP(g:Gh)(a v:Nat):(ghV g a v).val a=v:=af rfl
theorem lO(g:Gh)(a v:Nat){b:Nat}(h:b≠a):(ghV g a v).val b=g.val b:=aa h
theorem ahB(h:Co zs s g){a v:Nat}(h0:g.val a=0)(F:v=4∨v=5)(u:a=0->v=4)(w:0<a->a<=(s (a%zs.length)).pr)(x:0<a->Qo zs fun i=>a<=(s i).pr)(y:∀b,b<a->g.val b≠0->v≠g.val b->Qo zs fun i=>b<(s i).pr∧¬g.acc i b)(z:v=4->∀i,i<zs.length->(s i).ph≠0)(A:v=4->∀i,i<zs.length->¬g.no i):Co zs s (ghV g a v)∧Gr zs s g s (ghV g a v):=by
 have o:∀b,g.val b≠0->(ghV g a v).val b=g.val b:=fun b d=>lO g a v (fun e=>d (by rw[e];exact h0))
 have p:Gr zs s g s (ghV g a v):=⟨fun _=>aj,fun _ _ c=>c,o,fun _ _ c=>c,fun _ _ _ c=>.inl c,fun _ c=>c,fun _ _ c=>.inl c⟩;refine⟨?_,p⟩;have j:∀b,(ghV g a v).val b≠0->b=a∨(b≠a∧g.val b≠0∧(ghV g a v).val b=g.val b):=by
  intro b d
  by_cases e:b=a
  ·exact .inl e
  ·rw[lO g a v e]at d
   exact .inr ⟨e,d,lO g a v e⟩
 refine⟨fun i b c=>?_,h.ap,fun b=>?_,?_,fun b d k=>?_,fun b d k=>?_,fun q b t B d n=>?_,fun i f c=>?_,h.s0,fun i f c=>(h.s2 i f c).grow p,fun i f c=>(h.s3 i f c).grow p,fun b d i f=>?_,fun i f c=>⟨(h.nv i f c).1,fun b d=>?_⟩⟩
 ·have:=h.av i b c
  rw[o b this];exact this
 ·by_cases e:b=a
  ·rw[e,lP];omega
  ·rw[lO g a v e];exact h.vi b
 ·by_cases e:0=a
  ·rw[e,lP];have:=u e.symm;omega
  ·rw[lO g a v e];exact h.v0
 ·rcases j b d with rfl|⟨-,c,-⟩
  ·exact w k
  ·exact h.ow b c k
 ·rcases j b d with rfl|⟨-,c,-⟩
  ·exact x k
  ·exact h.bg b c k
 ·rcases j q B with rfl|⟨e,c,l⟩
  ·rcases j b d with rfl|⟨C,m,r⟩
   ·omega
   ·rw[lP,r]at n
    exact y b t m n
  ·rcases j b d with rfl|⟨C,m,r⟩
   ·refine(h.bg q c (by omega)).mono fun i _ f=>⟨by omega,fun D=>h.av i _ D h0⟩
   ·rw[l,r]at n
    exact h.px q b t c m n
 ·obtain⟨E,m⟩:=h.s4 i f c
  exact⟨by rw[o _ (by omega)];exact E,m⟩
 ·rcases j b (by omega)with rfl|⟨-,-,l⟩
  ·rw[lP]at d;exact z d i f
  ·exact h.al b (by rw[<-l];exact d) i f
 ·rcases j b (by omega)with rfl|⟨-,-,l⟩
  ·rw[lP]at d;exact A d i f c
  ·exact(h.nv i f c).2 b (by rw[<-l];exact d)
theorem afN{n:Nat}{a:Int}{m i:Nat}(b:n<=7)(h0:0<=a)(h1:a<2^n)(c:m<n)(h:bit (iY a m) i=true):bit a i=true∨i=m:=by
 have f:=(dZ b).1;obtain⟨d,rfl⟩:=bD h0;have e:(2:Nat)^m<9223372036854775808:=bm (Nat.pow_lt_pow_right (by decide) (bm c b)) (by decide);unfold iY at h;rw[fG m,ga d (2^m) (by omega) e]at h;unfold bit at h ⊢;rw[aU,Nat.testBit_or,Bool.or_eq_true]at h;rw[aU];rcases h with h|h
 ·exact .inl h
 ·rw[Nat.testBit_two_pow]at h
  exact .inr (cK h).symm
theorem qa(i:Nat):bit 0 i=false:=by unfold bit;simp
theorem aeK{n i:Nat}(a:i<n):bit (2^n-1) i=true:=by
 unfold bit;have b:(1:Nat)<=2^n:=Nat.one_le_two_pow;rw[fG,show(((2^n:Nat):Int)-1).toNat=2^n-1 by omega,Nat.testBit_two_pow_sub_one];exact bo a
theorem acr{P:PL}{att k:Int}(h:fS P att k=true):(k=2∧P.stt=0∧att=0)∨(k=4∧P.stt=0∧0<att)∨(k=6∧P.stt=1):=by
 unfold fS at h;simp at h;omega
theorem yT{L:List S3}{p:Int}(h:cD L=(p,true)):(p=2∨p=3)∧∃t,t∈L∧t.p=p:=by
 unfold cD at h
 split at h
 ·rename_i a
  obtain⟨rfl,-⟩:=Prod.mk.inj h;rw[na,je]at a;exact⟨.inl rfl,a⟩
 ·split at h
  ·rename_i a
   obtain⟨rfl,-⟩:=Prod.mk.inj h;rw[na,je]at a;exact⟨.inr rfl,a⟩
  ·split at h<;>(obtain⟨-,b⟩:=Prod.mk.inj h;cases b)
theorem kq{p:Int}{L:List S3}(h:¬(gr p L).2=true):∀t,t∈L->t.p≠p:=by
 intro t a b;refine h ?_;rw[na,je];exact⟨t,a,b⟩
theorem qZ{p:Int}{L:List S3}(h:(gr p L).2=true):(∃t,t∈L∧t.p=p∧t.a=(gr p L).1)∧∀t,t∈L->t.p=p->t.a<=(gr p L).1:=by
 rcases mD p L with⟨-,a,b⟩|⟨c,-⟩
 ·exact⟨a,b⟩
 ·rw[c]at h;cases h
theorem yH{L:List S3}{v:Int}(h:cD L=(v,false)):(v=4∨v=5)∧(∀t,t∈L->t.p≠2∧t.p≠3)∧((v=5∧∀t,t∈L->t.p≠4∧t.p≠5)∨∃t,t∈L∧t.p=v∧∀b,b∈L->(b.p=4∨b.p=5)->b.a<=t.a):=by
 unfold cD at h
 split at h
 ·obtain⟨-,j⟩:=Prod.mk.inj h;cases j
 ·rename_i q
  split at h
  ·obtain⟨-,j⟩:=Prod.mk.inj h;cases j
  ·rename_i r
   have o:∀t,t∈L->t.p≠2∧t.p≠3:=fun t f=>⟨kq q t f,kq r t f⟩
   split at h
   ·rename_i i
    obtain⟨rfl,-⟩:=Prod.mk.inj h;obtain⟨⟨t,k,l,m⟩,n⟩:=qZ i.1;refine⟨.inl rfl,o,.inr ⟨t,k,l,fun b d a=>?_⟩⟩;rcases a with a|a
    ·rw[m];exact n b d a
    ·by_cases c:(gr 5 L).2=true
     ·have:=(qZ c).2 b d a
      rcases i.2 with p|p
      ·rw[p]at c;cases c
      ·omega
     ·exact absurd a (kq c b d)
   ·rename_i i
    obtain⟨rfl,-⟩:=Prod.mk.inj h;refine⟨.inr rfl,o,?_⟩
    by_cases c:(gr 5 L).2=true
    ·obtain⟨⟨t,k,l,m⟩,n⟩:=qZ c
     refine .inr ⟨t,k,l,fun b d a=>?_⟩;rcases a with a|a
     ·by_cases e:(gr 4 L).2=true
      ·have x:=(qZ e).2 b d a
       have j:¬(gr 5 L).1<=(gr 4 L).1:=fun u=>i ⟨e,.inr u⟩
       omega
      ·exact absurd a (kq e b d)
     ·rw[m];exact n b d a
    ·by_cases e:(gr 4 L).2=true
     ·exfalso
      refine i ⟨e,.inl ?_⟩
      cases w:(gr 5 L).2 with
      | true=>exact absurd w c
      | false=>rfl
     ·exact .inl ⟨rfl,fun t f=>⟨kq e t f,kq c t f⟩⟩
def tI(zs:List Int)(s:Nat->St)(g:Gh)(id:Nat)(deal att:Int)(x:PL×Option (Int×Int)):Prop:=
 ∃g',Co zs s g'∧Gr zs s g s g'∧(∀a,g'.val a≠g.val a->a=att.toNat∧g.val a=0)∧Le zs s g' id att x.1∧∀f,f∈dm id deal att zs.length x.2->Fr zs s g' f
theorem jA{id:Nat}{deal k att ph:Int}{n:Nat}{f:F9}(h:f∈toL id deal k att ph n):f.k=k∧f.a=att∧f.ph=ph∧f.y=false∧f.f=id∧f.d=deal:=by
 induction n with
 | zero=>cases h
 | succ n a =>
  rw[toL,List.mem_append]at h;rcases h with h|h
  ·exact a h
  ·rw[List.mem_singleton]at h
   subst h;exact⟨rfl,rfl,rfl,rfl,rfl,rfl⟩
theorem abK{id:Nat}{deal att p:Int}{n:Nat}(b:p=2->Dec2 zs g)(c:p=3->Dec3 zs g):∀f,f∈toL id deal 7 att p n->Fr zs s g f:=by
 intro f d;obtain⟨h,-,i,-⟩:=jA d;exact⟨fun a=>by omega,fun a=>by omega,fun a=>by omega,fun a=>by omega,fun a=>by omega,fun _ e=>b (by omega),fun _ e=>c (by omega)⟩
theorem abt{id:Nat}{deal att p:Int}{n:Nat}(h1:p=4∨p=5)(b:(g.val att.toNat:Int)=p):∀f,f∈toL id deal 5 att p n->Fr zs s g f:=by
 intro f c;obtain⟨h,d,e,-⟩:=jA c;exact⟨fun a=>by omega,fun a=>by omega,fun a=>by omega,fun _=>by rw[d,e];exact⟨h1,b⟩,fun a=>by omega,fun a=>by omega,fun a=>by omega⟩
theorem sb{id:Nat}{att:Int}{P:PL}(h0:0<=att)(b:0<att->att.toNat%zs.length=id∧att.toNat<=(s id).pr)(c:P.stt=2∨P.stt=3):Le zs s g id att P:=
 ⟨h0,fun a=>by omega,fun a=>by omega,fun a=>by omega,fun a=>by omega,b,fun a=>by omega,fun a=>by omega⟩
theorem jt{id:Nat}{deal att:Int}{P:PL}(h:Co zs s g)(a:Le zs s g id att P):tI zs s g id deal att (P,none):=
 ⟨g,h,Gr.refl _ _ _,fun _ b=>absurd rfl b,a,fun _ c=>by cases c⟩
theorem rx{id:Nat}{deal att p:Int}{P:PL}(h:Co zs s g)(h0:0<=att)(a:0<att->att.toNat%zs.length=id∧att.toNat<=(s id).pr)(b:p=2->Dec2 zs g)(c:p=3->Dec3 zs g):tI zs s g id deal att (ku P p):=
 ⟨g,h,Gr.refl _ _ _,fun _ d=>absurd rfl d,sb h0 a (.inl rfl),abK b c⟩
theorem acI{id:Nat}{att:Int}{P:PL}{v:Int}(h0:0<=att)(c:0<att->att.toNat%zs.length=id∧att.toNat<=(s id).pr)(d:v=4∨v=5)(e:(g.val att.toNat:Int)=v):Le zs s g id att (lG P v).1:=
 ⟨h0,fun a=>(by cases a),fun a=>(by cases a),fun a=>(by cases a),fun a=>(by cases a),c,fun _=>⟨d,e⟩,fun _ f _ h=>by
  have b:bit 0 f=true:=h;rw[qa]at b;cases b⟩
theorem ru{id:Nat}{deal att v:Int}{P:PL}(h:Co zs s g)(h0:0<=att)(j:0<att->att.toNat%zs.length=id∧att.toNat<=(s id).pr)(e:v=4∨v=5)(l:att=0->v=4)(n:0<att->g.val att.toNat=0)(o:0<att->Qo zs fun i=>att.toNat<=(s i).pr)(p:∀b,b<att.toNat->g.val b≠0->v≠g.val b->Qo zs fun i=>b<(s i).pr∧¬g.acc i b)(q:v=4->∀i,i<zs.length->(s i).ph≠0)(r:v=4->∀i,i<zs.length->¬g.no i):tI zs s g id deal att (lG P v):=by
 by_cases f:g.val att.toNat=0
 ·have m:=ahB (v:=v.toNat) h f (by omega) (fun a=>by have:=l (by omega);omega) (fun a=>by have:=j (by omega);rw[this.1];exact this.2) (fun a=>o (by omega)) (fun b t u y=>p b t u (by omega)) (fun a=>q (by omega)) (fun a=>r (by omega))
  have c:((ghV g att.toNat v.toNat).val att.toNat:Int)=v:=by rw[lP];omega
  refine⟨_,m.1,m.2,fun w d=>?_,acI h0 j e c,abt e c⟩
  by_cases a:w=att.toNat
  ·exact⟨a,by rw[a];exact f⟩
  ·rw[lO _ _ _ a]at d;exact absurd rfl d
 ·have d:att=0:=by
   rcases Int.lt_or_eq_of_le h0 with k|k
   ·exact absurd (n k) f
   ·exact k.symm
  have c:(g.val att.toNat:Int)=v:=by
   have x:=h.vi att.toNat;have z:=h.v0;have A:=l d;subst d;simp only[Int.toNat_zero]at x f ⊢;omega
  exact⟨g,h,Gr.refl _ _ _,fun _ a=>absurd rfl a,acI h0 j e c,abt e c⟩
theorem afH(h:Co zs s g)(M:bT zs=0){id:Nat}{deal att:Int}{P:PL}(d:Le zs s g id att P)(n:PW zs.length P)(f:F9)(G:Fr zs s g f):tI zs s g id deal att (aL zs id deal att P f):=by
 have r:=(bp M).2.1;unfold aL
 by_cases p:ek zs.length id deal att P f=true
 ·rw[af p]
  obtain⟨⟨-,-,ea⟩,b3,⟨f0,f1⟩,-⟩:=iC p;have H:f.f.toNat<zs.length:=by omega
  have a1:=n.note (f:=f) r f0 f1;have I:∀a,bit (cP P f).ans a=true->bit P.ans a=true∨a=f.f.toNat:=fun a c=>afN r n.lo n.hi H c
  unfold cO;rcases acr b3 with⟨o,l,q⟩|⟨o,l,q⟩|⟨o,l⟩
  ·rw[af o]
   unfold gh
   cases t:f.y with
   | false =>
    rw[af rfl];exact rx h d.a0 d.ow (fun b=>by omega) (fun _=>G.vn o t)
   | true =>
    rw[aa (by simp)];have a2:∀a,a<zs.length->bit (cP P f).ans a=true->(s a).ph≠0∧¬g.no a:=by
     intro a c k;rcases I a k with j|rfl
     ·exact d.vo l q a c j
     ·exact G.vy o t
    split
    ·rename_i b4
     have a3:∀a,a<zs.length->(s a).ph≠0∧¬g.no a:=fun a c=>a2 a c (by rw[b4];exact aeK c)
     exact ru h d.a0 d.ow (.inl rfl) (fun _=>rfl) (fun b=>by omega) (fun b=>by omega) (fun u I=>by omega) (fun _ a c=>(a3 a c).1) (fun _ a c=>(a3 a c).2)
    ·exact jt h ⟨d.a0,fun _ _=>a2,fun _ b=>by omega,fun _ b=>by omega,fun _ b=>by omega,d.ow,fun b=>by have:P.stt=1:=b;omega,fun b=>by have:P.stt=1:=b;omega⟩
  ·rw[aa (by omega)]
   cases t:f.y with
   | false =>
    rw[af rfl];exact jt h (sb d.a0 d.ow (.inr rfl))
   | true =>
    rw[aa (by simp),af o];obtain⟨J,x,N,-⟩:=jn (cP P f) f.pr;generalize O:dI (cP P f) f.pr=i at *
    have y:PW zs.length i:=by rw[<-O];exact a1.see f.pr
    have a4:=G.te o t;rw[ea]at a4;have b5:f.f.toNat<P.told.length:=by rw[n.len];omega
    have z:∀a,a<zs.length->bit i.ans a=true->∃e,(dL i.told f.f.toNat ⟨f.ph,f.pr,f.pa⟩)[a]?=some e∧Told zs s g a att.toNat e:=by
     intro a c k;rw[x]at k;rw[N];unfold dL;rw[List.getElem?_set]
     by_cases b:f.f.toNat=a
     ·rw[af b,af (show f.f.toNat<(cP P f).told.length from b5)]
      subst b;exact⟨_,rfl,a4⟩
     ·rw[aa b]
      rcases I a k with j|j
      ·exact d.tt l q a c j
      ·exact absurd j.symm b
    have b6:bit i.ans f.f.toNat=true:=by
     rw[x];show bit (iY P.ans f.f.toNat) f.f.toNat=true;obtain⟨Q,R⟩:=bD n.lo;have S:=(dZ r).1;have T:=n.hi;have U:(2:Nat)^f.f.toNat<9223372036854775808:=bm (Nat.pow_lt_pow_right (by decide) (bm H r)) (by decide);unfold iY;rw[R]at T ⊢;rw[fG f.f.toNat,ga Q (2^f.f.toNat) (by omega) U];unfold bit;rw[aU,Nat.testBit_or,Nat.testBit_two_pow_self,Bool.or_true]
    have b7:∀a,bit P.ans a=true->bit i.ans a=true:=by
     intro a c;rw[x];show bit (iY P.ans f.f.toNat) a=true;obtain⟨Q,R⟩:=bD n.lo;have S:=(dZ r).1;have T:=n.hi;have U:(2:Nat)^f.f.toNat<9223372036854775808:=bm (Nat.pow_lt_pow_right (by decide) (bm H r)) (by decide);unfold iY;rw[R]at T c ⊢;rw[fG f.f.toNat,ga Q (2^f.f.toNat) (by omega) U];unfold bit at c ⊢;rw[aU]at c;rw[aU,Nat.testBit_or,c,Bool.true_or]
    have a5:∀a e,(dL i.told f.f.toNat ⟨f.ph,f.pr,f.pa⟩)[a]?=some e->e.p=0∨(a<zs.length∧bit i.ans a=true):=by
     intro a e hit;rw[N]at hit;unfold dL at hit;rw[List.getElem?_set]at hit
     by_cases b:f.f.toNat=a
     ·subst b;exact .inr ⟨H,b6⟩
     ·rw[aa b]at hit
      rcases d.t0 l q a e hit with j|j
      ·exact .inl j
      ·exact .inr ⟨j.1,b7 a j.2⟩
    have a6:∀e,e∈dL i.told f.f.toNat ⟨f.ph,f.pr,f.pa⟩->e.p≠0->∃a,a<zs.length∧Told zs s g a att.toNat e:=by
     intro e p S;obtain⟨a,c⟩:=List.mem_iff_getElem?.1 p;rcases a5 a e c with j|⟨j,b8⟩
     ·exact absurd j S
     ·obtain⟨m,hu,b9⟩:=z a j b8
      rw[c]at hu
      cases hu
      exact⟨a,j,b9⟩
    unfold gj
    split
    ·refine jt h ⟨d.a0,fun _ b=>by omega,fun _ b=>d.tv l q,fun _ _=>z,fun _ _=>a5,d.ow,fun b=>?_,fun b=>?_⟩
     ·have A:i.stt=1:=b
      rw[J]at A;have:P.stt=1:=A;omega
     ·have A:i.stt=1:=b
      rw[J]at A;have:P.stt=1:=A;omega
    ·rename_i V
     have W:bn zs i.ans=true:=by
      cases X:bn zs i.ans with
      | true=>rfl
      | false=>exact absurd X V
     have v:∀Y:Nat->Prop,(∀a,a<zs.length->bit i.ans a=true->Y a)->Qo zs Y:=fun Y hS=>⟨i.ans,rH M y.lo y.hi,W,hS⟩
     generalize hC:cD (dL i.told f.f.toNat ⟨f.ph,f.pr,f.pa⟩)=c0;obtain⟨cp,cf⟩:=c0
     cases cf with
     | true =>
      rw[af rfl];obtain⟨Z,e,K,B⟩:=yT hC;obtain⟨a,-,c⟩:=a6 e K (by omega);exact rx h d.a0 d.ow (fun b=>c.d2 (by simp only at b;omega)) (fun b=>c.d3 (by simp only at b;omega))
     | false =>
      rw[aa (by simp)];obtain⟨Z,K,B⟩:=yH hC;have a7:Qo zs fun a=>att.toNat<=(s a).pr:=v _ fun a c k=>by
       obtain⟨e,-,p⟩:=z a c k;exact p.pr
      have L:∀a e,(dL i.told f.f.toNat ⟨f.ph,f.pr,f.pa⟩)[a]?=some e->e∈dL i.told f.f.toNat ⟨f.ph,f.pr,f.pa⟩:=fun a e hit=>List.mem_iff_getElem?.2 ⟨a,hit⟩
      rcases B with⟨B,c4⟩|⟨e,B,c4,c5⟩
      ·refine ru h d.a0 d.ow Z (fun b=>by omega) (fun _=>d.tv l q) (fun _=>a7) (fun u C _ _=>v _ fun a c k=>?_) (fun b=>by omega) (fun b=>by omega)
       obtain⟨m,D,E⟩:=z a c k;refine⟨bm C E.pr,fun w=>?_⟩;have F:=K m (L a m D);have x2:=c4 m (L a m D);have x3:=(E.ac F.1 F.2 u C w).1;omega
      ·obtain⟨c7,hj,a8⟩:=a6 e B (by omega)
       have a9:=a8.va (by omega);rw[c4]at a9;have c8:=a8.a0;refine ru h d.a0 d.ow Z (fun b=>by omega) (fun _=>d.tv l q) (fun _=>a7) (fun u C c1 b0=>?_) (fun b=>h.al e.a.toNat (by omega)) (fun b a c c2=>(h.nv a c c2).2 e.a.toNat (by omega));rcases Nat.lt_trichotomy u e.a.toNat with c3|c6|c9
       ·exact h.px e.a.toNat u c3 (by omega) c1 (by omega)
       ·rw[c6]at b0;exact absurd a9.symm b0
       ·refine v _ fun a c k=>?_
        obtain⟨m,D,E⟩:=z a c k;refine⟨bm C E.pr,fun w=>?_⟩;have F:=K m (L a m D);obtain⟨x3,x4⟩:=E.ac F.1 F.2 u C w;have x5:=c5 m (L a m D) x3;omega
  ·rw[aa (by omega)]
   cases t:f.y with
   | false =>
    rw[af rfl];exact jt h (sb d.a0 d.ow (.inr rfl))
   | true =>
    rw[aa (by simp),aa (by omega)];obtain⟨J,x,N,q4⟩:=jn (cP P f) f.pr;generalize O:dI (cP P f) f.pr=i at *
    have y:PW zs.length i:=by rw[<-O];exact a1.see f.pr
    have b1:=G.ak o t;rw[ea]at b1;have a0:=d.pv l;have w:∀a,a<zs.length->bit i.ans a=true->g.acc a att.toNat:=by
     intro a c k;rw[x]at k;rcases I a k with j|rfl
     ·exact d.pa l a c j
     ·exact b1
    have b2:i.prep=P.prep:=q4;unfold im
    split
    ·refine jt h ⟨d.a0,fun b=>?_,fun b=>?_,fun b=>?_,fun b=>?_,d.ow,fun _=>by rw[b2];exact a0,fun _=>w⟩
     all_goals
      rw[J]at b;have:P.stt=0:=b;omega
    ·rename_i V
     have W:bn zs i.ans=true:=by
      cases X:bn zs i.ans with
      | true=>rfl
      | false=>exact absurd X V
     have v:Qo zs fun a=>g.acc a att.toNat:=⟨i.ans,rH M y.lo y.hi,W,w⟩
     rw[b2];refine rx h d.a0 d.ow (fun b=>⟨att.toNat,?_,v⟩) (fun b=>.inl ⟨att.toNat,?_,v⟩)
     ·unfold eN at b
      rcases a0.1 with j|j
      ·omega
      ·rw[j]at b;exact absurd b (by decide)
     ·unfold eN at b
      rcases a0.1 with j|j
      ·rw[j]at b;exact absurd b (by decide)
      ·omega
 ·rw[aa p]
  exact jt h d
end
theorem agX{w:World}{b:Nat}{E S:Nat->Int}{t:TypeId}(h:w.heap[b]?=some (.cells (lJ E S).toArray t (0,0))){d:Nat}(e:d<6)(p q:Int):((w.setCell ⟨b,d*2,none⟩ (.int .i64 p)).setCell ⟨b,d*2+1,none⟩ (.int .i64 q)).heap[b]?=some (.cells (lJ (fun x=>if x=d then p else E x) (fun x=>if x=d then q else S x)).toArray t (0,0)):=by
 have a:=aE w b (d*2) _ _ (iV p) h;rw[aE _ b (d*2+1) _ _ _ a,List.setIfInBounds_toArray,List.setIfInBounds_toArray];have c:d=0∨d=1∨d=2∨d=3∨d=4∨d=5:=by omega
 rcases c with rfl|rfl|rfl|rfl|rfl|rfl<;>rfl
theorem tj(P:List E3)(e:E3){d s:Nat}(c:e.d=(d:Int))(b:e.s=(s:Int)):(fun x=>if x=d then e.p else jo P x)=jo (P++[e])∧(fun x=>if x=d then bits .or .i64 (gX P d) (2^s)else gX P x)=gX (P++[e]):=by
 constructor
 ·funext x
  rw[nU]
  by_cases a:x=d
  ·rw[af a,af (by omega)]
  ·rw[aa a,aa (by omega)]
 ·funext x
  rw[nG]
  by_cases a:x=d
  ·rw[af a,af (by omega),a,b,aU]
  ·rw[aa a,aa (by omega)]
theorem aaF{w:World}{b:Nat}{E S:Nat->Int}{t:TypeId}(h:w.heap[b]?=some (.cells (lJ E S).toArray t (0,0))):w.cell? ⟨b,0,none⟩=some (.int .i64 (E 0))∧w.cell? ⟨b,1,none⟩=some (.int .i64 (S 0))∧w.cell? ⟨b,2,none⟩=some (.int .i64 (E 1))∧w.cell? ⟨b,3,none⟩=some (.int .i64 (S 1))∧w.cell? ⟨b,4,none⟩=some (.int .i64 (E 2))∧w.cell? ⟨b,5,none⟩=some (.int .i64 (S 2))∧w.cell? ⟨b,6,none⟩=some (.int .i64 (E 3))∧w.cell? ⟨b,7,none⟩=some (.int .i64 (S 3))∧w.cell? ⟨b,8,none⟩=some (.int .i64 (E 4))∧w.cell? ⟨b,9,none⟩=some (.int .i64 (S 4))∧w.cell? ⟨b,10,none⟩=some (.int .i64 (E 5))∧w.cell? ⟨b,11,none⟩=some (.int .i64 (S 5)):=by
 refine⟨?_,?_,?_,?_,?_,?_,?_,?_,?_,?_,?_,?_⟩<;>rw[ai h]<;>rfl
def aiv(w:World)(A:Nat->Addr)(c k:Nat)(v:Value)(base:Nat):Prop:=(c=0∧v=.nilIface)∨(∃x fb,c=x+1∧base<=fb∧v=.iface 100 (.pointer (some ⟨fb,0,none⟩))∧w.cell? ⟨fb,0,none⟩=some (.int .i64 (k:Int))∧w.cell? ⟨fb,1,none⟩=some (.iface 318 (.pointer (some (A x)))))
theorem acw(A:Nat->Addr)(K:Option Addr)(cap:Nat)(L:List E3)(n:Int)(c o:Nat)(w:World)(M:Held9 w A)(h1:1<=n)(h7:n<=7)(N:EL w K L)(hl:L.length<=100000)(O:EvF n L c o):Calls prog 60 #[.slice K L.length cap,.int .i64 n] w fun e w'=>∃v,e=.returned v∧aiv w' A c o v w.heap.size∧Below w.heap.size w w':=by
 have P:=hid M;have HL:=hid N;have u:=hid O;have B:=hid h7;clear M N O
 go_enter func60,ntmps60
 go_wp2_with fail
 go_loopw [19] (fun v wr=>∃a:Nat,a<=o∧v=iV (a:Int)∧wr.heap[w.heap.size]?=some (.cells (lJ (jo (L.take a)) (gX (L.take a))).toArray 179 (0,0))∧bW w wr) (fun v _=>L.length-(intOf v).toNat)
 case atStart =>
  refine⟨0,Nat.zero_le _,rfl,?_,aD⟩;exact aB w _
 case round =>
  obtain⟨a,hk,rfl,Q,p⟩:=hrel;have q:=hid p
  by_cases x:a<L.length
  ·obtain⟨b2,b3,rfl,C,D,E⟩:=HL.out a x
   obtain⟨⟨l,m,b⟩,y⟩:∃e,Hid (L[a]'x=e):=⟨_,rfl⟩;rw[y.out]at C D E;replace C:=ag p C;replace D:=ag p D;replace E:=ag p E;obtain⟨f,F⟩:=nmd (wr.alloc (.cells #[iV l,iV m,iV b] 180));have b4:=F.out;have r:Hid (bW wr f):=by rw[<-F.out];exact aD
   have R:Hid (f.heap[w.heap.size]?=some (.cells (lJ (jo (L.take a)) (gX (L.take a))).toArray 179 (0,0))):=fW r Q;obtain⟨z0,z1,z2,z3,z4,z5,z6,z7,z8,z9,a3,a4⟩:=aaF R;have S:Hid (f.heap[wr.heap.size]?=some (.cells #[iV l,iV m,iV b] 180 (0,0))):=by rw[<-F.out];exact aB wr _
   obtain⟨T,U,V⟩:=jR S;have b5:=ah Q;have W:Hid (EvK n (L.take a)):=(show EvW n L a from fun a5 hj b6=>u.1 a5 hj (by omega)).kept B (by omega);clear p
   by_cases a6:a<o
   ·have X:Hid (evC n (L.take a) ⟨l,m,b⟩=0):=by have:=u.1 a x a6;rw[y.out]at this;exact this
    have g:=hid (qG A ⟨l,m,b⟩ n (L.take a) 0 f ((P.later q).later r) B W X);unfold pD at g;rw[show ev A 0=.nilIface from rfl]at g;obtain⟨⟨Y,s1⟩,⟨Z,d1⟩,-⟩:=cK (uU X).1;simp only at Y s1 Z d1;obtain⟨h,rfl⟩:=bD Y;obtain⟨d,rfl⟩:=bD Z;have b7:h<7:=by omega
    have G:d<6:=by omega
    have a7:Hid (L.take (a+1)=L.take a++[⟨h,d,b⟩]):=by show _=_;rw[iv L a x,y.out]
    go_wp2_with fail
    refine g.mono ?_;rintro e i ⟨rfl,j⟩;have s:=hid (fW j R);have a0:=hid (fW j S);have t:=hid (ao (ao q r) j);clear j T U V z0 z1 z2 z3 z4 z5 z6 z7 z8 z9 a3 a4;obtain⟨T,U,V⟩:=jR a0;obtain⟨v0,v1⟩:=tb s G;have f0:=aK _ _ (d*2) _ _ s;have f1:=aK _ _ (d*2+1) _ _ s;have H:=hid (agX s G b (bits .or .i64 (gX (L.take a) d) (2^h)));rw[(tj (L.take a) ⟨h,d,b⟩ rfl rfl).1,(tj (L.take a) ⟨h,d,b⟩ rfl rfl).2,<-a7.out]at H;have hp:=(dZ (n:=h) (by omega)).1;have b8:=(dZ (n:=h) (by omega)).2;obtain⟨z,a8⟩:=nmd (i.setCell ⟨w.heap.size,d*2,none⟩ (iV b));have I:=a8.out;rw[I]at H;have J:=hid (aE i w.heap.size (d*2) _ _ (iV b) s);have a1:=hid ((dS i ⟨w.heap.size,d*2,none⟩ wr.heap.size (iV b) (by show wr.heap.size≠w.heap.size;omega)).trans a0);rw[I]at J a1;have q1:z.cell? ⟨w.heap.size,d*2+1,none⟩=some (iV (gX (L.take a) d)):=by rw[ai J.out,List.setIfInBounds_toArray,List.getElem?_toArray,List.getElem?_set_ne (by omega)];exact(uJ _ _ G).2
    obtain⟨q2,q3,q4⟩:=jR a1;have f4:=aK _ _ (d*2+1) _ _ J;have a9:Hid (bW w z):=by rw[<-I];exact t.setCell aj _
    go_wp2_with fail
    go_region
    all_goals go_wp2_with fail
    go_roundw
    case rel =>
     refine⟨a+1,by omega,by go_num,H,?_⟩;exact(a9.setCell aj _).drew
    case measure=>simp[intOf];omega
   ·obtain rfl:a=o:=by omega
    obtain⟨k,a2⟩:∃k,Hid (c=k+1∧evC n (L.take a) ⟨l,m,b⟩=k+1):=by
     rcases u.2 with⟨-,b0⟩|⟨b0,hc,he⟩
     ·omega
     ·rw[y.out]at he
      exact⟨c-1,by omega,by rw[he];omega⟩
    have g:=hid (qG A ⟨l,m,b⟩ n (L.take a) (k+1) f ((P.later q).later r) B W a2.2);unfold pD at g;rw[show ev A (k+1)=.iface 318 (.pointer (some (A k)))from rfl]at g
    go_wp2_with fail
    refine g.mono ?_;rintro e i ⟨rfl,j⟩;have t:=hid (ao (ao q r) j);clear j
    go_wp2_with fail
    go_ret
    refine⟨_,rfl,.inr ⟨k,i.heap.size,a2.1,t.size,rfl,?_,?_⟩,t.alloc t.size _⟩
    ·rw[ai (aB i _)];rfl
    ·rw[ai (aB i _)];rfl
  ·have b1:Hid (c=0∧a=L.length):=by
    rcases u.2 with⟨h1,h2⟩|⟨h1,h2,h3⟩
    ·exact⟨h1,by omega⟩
    ·omega
   have b9:¬((a:Int)<(L.length:Int)):=by omega
   go_wp2_with fail
   go_ret
   exact⟨_,rfl,.inl ⟨b1.1,rfl⟩,q⟩
theorem gH:(prog.info? 74).map (·.size)=some 2:=by kernel_rfl
def mL(c a:Int):Value:=.agg #[.int .i64 c,.int .i64 a]
theorem ab9(w:World):Calls prog 96 #[] w fun e w'=>e=.returned (mL 0 (-1))∧Below w.heap.size w w':=by
 go_enter func96,ntmps96
 go_wp2_with fail
 refine bh (results_cell_row rfl _ _ w.heap.size 74 #[iV 0,iV (-1)] (0,0) _ rfl (aB w _) underlying74 rfl gH) rfl ?_;exact⟨rfl,aD⟩
theorem abw(c:Int)(w:World):Calls prog 95 #[.int .i64 c] w fun e w'=>e=.returned (mL c (-1))∧Below w.heap.size w w':=by
 go_enter func95,ntmps95
 go_wp2_with fail
 refine bh (results_cell_row rfl _ _ w.heap.size 74 #[iV c,iV (-1)] (0,0) _ rfl (aB w _) underlying74 rfl gH) rfl ?_;exact⟨rfl,aD⟩
theorem ko(p:Int)(b:Bool)(w:World)(d:decide (p=2∨p=3)=b):Calls prog 85 #[.int .i64 p] w fun e w'=>e=.returned (.bool b)∧w'=w:=by
 subst d
 by_cases a:p=2
 ·subst a
  go_enter func85,ntmps85
  go_wp2_with fail
  go_ret
  exact⟨rfl,rfl⟩
 ·by_cases c:p=3
  ·subst c
   go_enter func85,ntmps85
   go_wp2_with fail
   go_ret
   exact⟨rfl,rfl⟩
  ·rw[aS (show ¬(p=2∨p=3) by omega)]
   have f:(p==2)=false:=beq_eq_false_iff_ne.2 a;have g:(p==3)=false:=beq_eq_false_iff_ne.2 c
   go_enter func85,ntmps85
   go_wp2_with fail
   go_ret
   exact⟨rfl,rfl⟩
theorem mu{w:World}{b:Nat}{x y:Value}{t:TypeId}(h:w.heap[b]?=some (.cells #[x,y] t (0,0)))(a v:Value):((w.setCell ⟨b,0,none⟩ a).setCell ⟨b,1,none⟩ v).heap[b]?=some (.cells #[a,v] t (0,0)):=by
 have c:=aE w b 0 _ _ a h;rw[aE _ b 1 _ _ v c];rfl
theorem kV{w:World}{b:Nat}{a c:Value}{t:TypeId}{f:Nat×Nat}(h:w.heap[b]?=some (.cells #[a,c] t f)):w.cell? ⟨b,0,none⟩=some a∧w.cell? ⟨b,1,none⟩=some c:=
 ⟨by rw[ai h];rfl,by rw[ai h];rfl⟩
theorem ajF(v:Value)(n:Int)(w:World)(r:¬(1<=n∧n<=7)):Calls prog 32 #[v,.int .i64 n] w fun e w'=>e=.returned (mL 2 (-1))∧Below w.heap.size w w':=by
 have f:=hid (aB w (.cells #[iV 0,iV 0] 74));obtain⟨c,g⟩:=nmd (w.alloc (.cells #[iV 0,iV 0] 74));rw[g.out]at f;have s:=g.out;have l:Hid (bW w c):=by rw[<-g.out];exact aD
 have h:=hid (abw 2 c);have j:∀d,bW c d->bW w ((d.setCell ⟨w.heap.size,0,none⟩ (iV 2)).setCell ⟨w.heap.size,1,none⟩ (iV (-1))):=fun d a=>((ao l a).setCell aj _).setCell aj _
 have k:=hid j;clear j;unfold mL at h ⊢
 by_cases t:n<1
 ·go_enter func32,ntmps32
  go_wp2_with fail
  refine h.mono ?_;rintro e d ⟨rfl,a⟩;have b:=hid (fW a f);have i:=hid a;obtain⟨m,o⟩:=kV b;have p:=aK _ _ 0 _ _ b;have q:=aK _ _ 1 _ _ b;clear a
  go_wp2_with fail
  refine bh (results_cell_row rfl _ _ w.heap.size 74 _ (0,0) _ rfl (mu b _ _) underlying74 rfl gH) rfl ?_;exact⟨rfl,k _ i⟩
 ·have u:7<n:=by omega
  go_enter func32,ntmps32
  go_wp2_with fail
  refine h.mono ?_;rintro e d ⟨rfl,a⟩;have b:=hid (fW a f);have i:=hid a;obtain⟨m,o⟩:=kV b;have p:=aK _ _ 0 _ _ b;have q:=aK _ _ 1 _ _ b;clear a
  go_wp2_with fail
  refine bh (results_cell_row rfl _ _ w.heap.size 74 _ (0,0) _ rfl (mu b _ _) underlying74 rfl gH) rfl ?_;exact⟨rfl,k _ i⟩
theorem jm{L:List E3}{k:Nat}{f:E3->Bool}(h:∀j (a:j<L.length),j<k->f (L[j]'a)=false)(c:k<=L.length):(L.take k).any f=false:=by
 rw[List.any_eq_false];intro d b;obtain⟨j,a,rfl⟩:=List.getElem_of_mem b;rw[bI]at a;rw[List.getElem_take,h j (by omega) (by omega)];decide
theorem mV{L:List E3}{k j:Nat}{f:E3->Bool}(a:j<L.length)(b:j<k)(h:f (L[j]'a)=true):(L.take k).any f=true:=by
 rw[List.any_eq_true];refine⟨L[j]'a,?_,h⟩;exact List.mem_iff_getElem.2 ⟨j,by rw[bI];omega,by rw[List.getElem_take]⟩
theorem aji{n:Int}{L:List E3}{k j:Nat}{s d p:Int}(b:bdB n ⟨s,d,p⟩=true)(a:j<L.length)(c:j<k)(h:decide ((L[j]'a).d=d∧(L[j]'a).p≠p)=true):evC n (L.take k) ⟨s,d,p⟩=9:=by
 have e:spB (L.take k) ⟨s,d,p⟩=true:=mV a c h;unfold evC;rw[aa (by rw[b];decide),af e]
theorem ai5{n:Int}{L:List E3}{k j:Nat}{s d p:Int}(c:bdB n ⟨s,d,p⟩=true)(e:k<=L.length)(f:∀q (b:q<L.length),q<k->decide ((L[q]'b).d=d∧(L[q]'b).p≠p)=false)(a:j<L.length)(g:j<k)(h:decide ((L[j]'a).d=d∧(L[j]'a).s=s)=true):evC n (L.take k) ⟨s,d,p⟩=8:=by
 have i:spB (L.take k) ⟨s,d,p⟩=false:=jm f e;have l:heB (L.take k) ⟨s,d,p⟩=true:=mV a g h;unfold evC;rw[aa (by rw[c];decide),aa (by rw[i];decide),af l]
theorem ai0{n:Int}{L:List E3}{k:Nat}{s d p:Int}(c:bdB n ⟨s,d,p⟩=true)(b:k<=L.length)(e:∀q (a:q<L.length),q<k->decide ((L[q]'a).d=d∧(L[q]'a).p≠p)=false)(f:∀q (a:q<L.length),q<k->decide ((L[q]'a).d=d∧(L[q]'a).s=s)=false):evC n (L.take k) ⟨s,d,p⟩=0:=by
 have g:spB (L.take k) ⟨s,d,p⟩=false:=jm e b;have h:heB (L.take k) ⟨s,d,p⟩=false:=jm f b;unfold evC;rw[aa (by rw[c];decide),aa (by rw[g];decide),aa (by rw[h];decide)]
theorem agp(ad:Option Addr)(cap:Nat)(L:List E3)(n:Int)(c v:Nat)(z A:Int)(w:World)(h1:1<=n)(h7:n<=7)(hL:EL w ad L)(hl:L.length<=100000)(hF:EvF n L c v)(a8:z=c)(a9:A=if c=0 then -1 else(v:Int)):Calls prog 32 #[.slice ad L.length cap,.int .i64 n] w fun e w'=>e=.returned (mL z A)∧Below w.heap.size w w':=by
 have b0:=hid (aB w (.cells #[iV 0,iV 0] 74));obtain⟨B,HW⟩:=nmd (w.alloc (.cells #[iV 0,iV 0] 74));rw[HW.out]at b0;have hW:=HW.out;have b1:Hid (bW w B):=by rw[<-HW.out];exact aD
 have HL:=hid (hL.later b1);have R:=hid hF;have S:=hid (And.intro a8 a9);have H7:=hid h7;have T:Hid (∀wr,bW B wr->wr.cell? ⟨w.heap.size,0,none⟩=some (iV 0)∧wr.cell? ⟨w.heap.size,1,none⟩=some (iV 0)∧wr.frozen? ⟨w.heap.size,0,none⟩=false∧wr.frozen? ⟨w.heap.size,1,none⟩=false ∧
   ∀l a0:Int,((wr.setCell ⟨w.heap.size,0,none⟩ (iV l)).setCell ⟨w.heap.size,1,none⟩ (iV a0)).heap[w.heap.size]?=some (.cells #[iV l,iV a0] 74 (0,0))∧bW w ((wr.setCell ⟨w.heap.size,0,none⟩ (iV l)).setCell ⟨w.heap.size,1,none⟩ (iV a0))):=fun wr x=>by
  have V:=fW x b0;exact⟨(kV V).1,(kV V).2,aK _ _ 0 _ _ V,aK _ _ 1 _ _ V,fun l a0=>⟨mu V _ _,((ao b1 x).setCell aj _).setCell aj _⟩⟩
 unfold mL;clear hL hF a8 a9
 go_enter func32,ntmps32
 go_wp2_with fail
 go_loopw [5] (fun p wr=>∃b:Nat,b<=v∧p=iV (b:Int)∧bW B wr) (fun p _=>L.length-(intOf p).toNat)
 case atStart=>exact⟨0,Nat.zero_le _,rfl,aF⟩
 case round =>
  obtain⟨b,hk,rfl,x⟩:=hrel;have HB:=hid x
  by_cases a1:b<L.length
  ·obtain⟨b2,b3,rfl,y0,y1,y2⟩:=HL.out b a1
   obtain⟨⟨m,g,i⟩,U⟩:∃e,Hid (L[b]'a1=e):=⟨_,rfl⟩;rw[U.out]at y0 y1 y2;replace y0:=ag x y0;replace y1:=ag x y1;replace y2:=ag x y2;obtain⟨C,a3⟩:=nmd (wr.alloc (.cells #[iV m,iV g,iV i] 77));have d0:=a3.out;have a2:Hid (bW B C):=by rw[<-a3.out];exact HB.alloc HB.size _
   have a4:Hid (C.heap[wr.heap.size]?=some (.cells #[iV m,iV g,iV i] 77 (0,0))):=by rw[<-a3.out];exact aB wr _
   obtain⟨z0,z1,z2⟩:=jR a4;obtain⟨W,D⟩:=nmd (decide (i=2∨i=3));obtain⟨g0,g1,g2,g3,j⟩:=T.out C a2;have X:Hid (bdB n ⟨m,g,i⟩=false->z=2∧A=(b:Int)):=fun b9=>by
    have F:evC n (L.take b) ⟨m,g,i⟩=2:=by unfold evC;rw[af b9]
    rcases bU b v with l|l
    ·have:=R.1 b a1 l;rw[U.out,F]at this;cases this
    ·obtain rfl:b=v:=by omega
     rcases R.2 with⟨-,h⟩|⟨h,h2,E⟩
     ·omega
     ·rw[U.out,F]at E
      subst E;exact⟨S.1,S.2⟩
   clear x
   by_cases k1:m<0
   ·have k:=hid (X (aS (by simp only;omega)))
    go_wp2_with fail
    refine(ko i W _ D).mono ?_;rintro e o ⟨rfl,Y⟩;subst o
    go_wp2_with fail
    refine bh (results_cell_row rfl _ _ w.heap.size 74 _ (0,0) _ rfl (j _ _).1 underlying74 rfl gH) rfl ?_;exact⟨by rw[k.out.1,k.out.2],(j _ _).2⟩
   ·have c0:0<=m:=by omega
    by_cases k2:n<=m
    ·have k:=hid (X (aS (by simp only;omega)))
     go_wp2_with fail
     refine(ko i W _ D).mono ?_;rintro e o ⟨rfl,Y⟩;subst o
     go_wp2_with fail
     refine bh (results_cell_row rfl _ _ w.heap.size 74 _ (0,0) _ rfl (j _ _).1 underlying74 rfl gH) rfl ?_;exact⟨by rw[k.out.1,k.out.2],(j _ _).2⟩
    ·have c1:m<n:=by omega
     by_cases k3:g<0
     ·have k:=hid (X (aS (by simp only;omega)))
      go_wp2_with fail
      refine(ko i W _ D).mono ?_;rintro e o ⟨rfl,Y⟩;subst o
      go_wp2_with fail
      refine bh (results_cell_row rfl _ _ w.heap.size 74 _ (0,0) _ rfl (j _ _).1 underlying74 rfl gH) rfl ?_;exact⟨by rw[k.out.1,k.out.2],(j _ _).2⟩
     ·have c2:0<=g:=by omega
      by_cases k4:6<=g
      ·have k:=hid (X (aS (by simp only;omega)))
       go_wp2_with fail
       refine(ko i W _ D).mono ?_;rintro e o ⟨rfl,Y⟩;subst o
       go_wp2_with fail
       refine bh (results_cell_row rfl _ _ w.heap.size 74 _ (0,0) _ rfl (j _ _).1 underlying74 rfl gH) rfl ?_;exact⟨by rw[k.out.1,k.out.2],(j _ _).2⟩
      ·have c3:g<6:=by omega
       cases W with
       | false =>
        have k:=hid (X (aS (by have:=of_decide_eq_false D;simp only;omega)))
        go_wp2_with fail
        refine(ko i false _ D).mono ?_;rintro e o ⟨rfl,Y⟩;subst o
        go_wp2_with fail
        refine bh (results_cell_row rfl _ _ w.heap.size 74 _ (0,0) _ rfl (j _ _).1 underlying74 rfl gH) rfl ?_;exact⟨by rw[k.out.1,k.out.2],(j _ _).2⟩
       | true =>
        have a5:Hid (bdB n ⟨m,g,i⟩=true):=bo ⟨⟨c0,c1⟩,⟨c2,c3⟩,cK D⟩;have b4:Hid (∀cc,evC n (L.take b) ⟨m,g,i⟩=cc->cc≠0->z=(cc:Int)∧A=(b:Int)):=fun cc F h0=>by
         rcases bU b v with l|l
         ·have:=R.1 b a1 l;rw[U.out,F]at this;exact absurd this h0
         ·obtain rfl:b=v:=by omega
          rcases R.2 with⟨-,h⟩|⟨h,h2,E⟩
          ·omega
          ·rw[U.out,F]at E
           subst E;refine⟨S.1,?_⟩;rw[S.out.2,aa h0]
        have c4:Hid (∀d (q:d<L.length),d<b->decide ((L[d]'q).d=g∧(L[d]'q).p≠i)=true->z=9∧A=(b:Int)):=fun d q G h=>b4 9 (aji a5 q G h) (by decide)
        have a6:Hid ((∀a (f:a<L.length),a<b->decide ((L[a]'f).d=g∧(L[a]'f).p≠i)=false)->∀d (q:d<L.length),d<b->decide ((L[d]'q).d=g∧(L[d]'q).s=m)=true->z=8∧A=(b:Int)):=fun hn d q G h=>b4 8 (ai5 a5 (by omega) hn q G h) (by decide)
        have c5:Hid ((∀a (f:a<L.length),a<b->decide ((L[a]'f).d=g∧(L[a]'f).p≠i)=false)->(∀a (f:a<L.length),a<b->decide ((L[a]'f).d=g∧(L[a]'f).s=m)=false)->b<v):=fun hn hm=>by
         have F:evC n (L.take b) ⟨m,g,i⟩=0:=ai0 a5 (by omega) hn hm;rcases bU b v with l|l
         ·exact l
         ·obtain rfl:b=v:=by omega
          rcases R.2 with⟨-,h⟩|⟨h,h2,E⟩
          ·omega
          ·rw[U.out,F]at E;exact absurd E.symm h2
        go_wp2_with fail
        refine(ko i true _ D).mono ?_;rintro e o ⟨rfl,Y⟩;subst o
        go_wp2_with fail
        clear g0 g1 g2 g3 j
        go_loopw [8] (fun p a7=>∃d:Nat,d<=b∧p=iV (d:Int)∧Hid (∀a (f:a<L.length),a<d->decide ((L[a]'f).d=g∧(L[a]'f).p≠i)=false)∧bW C a7) (fun p _=>b-(intOf p).toNat)
        case atStart=>exact⟨0,Nat.zero_le _,rfl,fun a _ h=>absurd h (Nat.not_lt_zero _),aF⟩
        case round =>
         obtain⟨d,q,rfl,Z,r⟩:=hrel;have H:=hid r
         by_cases G:d<b
         ·have I:d<L.length:=by omega
          obtain⟨b',o',eb,J,K,M⟩:=HL.out d I;obtain⟨rfl,rfl⟩:b2=b'∧b3=o':=by cases eb;exact⟨rfl,rfl⟩
          obtain⟨⟨s',N,p'⟩,O⟩:∃e,Hid (L[d]'I=e):=⟨_,rfl⟩;rw[O.out]at J K M;have s:=hid (ao a2 r);replace J:=ag s J;replace K:=ag s K;replace M:=ag s M;obtain⟨z0,z1,z2⟩:=jR (fW r a4);obtain⟨q0,q1,q2,q3,q4⟩:=T.out _ (aJ s 0);clear r eb q0 q1 q2 q3 q4;have t:∀P:Bool,decide (N=g∧p'≠i)=P->P=false->Hid (∀a (f:a<L.length),a<d+1->decide ((L[a]'f).d=g∧(L[a]'f).p≠i)=false):=fun P ht hf a f h=>by
           rcases Nat.lt_succ_iff_lt_or_eq.1 h with l|rfl
           ·exact Z a f l
           ·rw[O.out];exact ht.trans hf
          by_cases u:N=g
          ·by_cases y:p'≠i
           ·have k:Hid (z=9∧A=(b:Int)):=c4.out d I G (by rw[O.out];exact bo ⟨u,y⟩)
            clear t;subst u;have e4:(p' != i)=true:=bne_iff_ne.2 y
            go_wp2_with fail
            go_quiet (fail)
            obtain⟨g0,g1,g2,g3,j⟩:=T.out _ (aJ s nq)
            go_wp2_with fail
            refine bh (results_cell_row rfl _ _ w.heap.size 74 _ (0,0) _ rfl (j _ _).1 underlying74 rfl gH) rfl ?_;exact⟨by rw[k.out.1,k.out.2],(j _ _).2⟩
           ·have Q:=t _ rfl (aS fun h=>y h.2)
            clear t;subst u;obtain rfl:p'=i:=Classical.not_not.1 y;clear y
            go_wp2_with fail
            go_quiet (fail)
            go_wp2_with fail
            go_roundw
            case rel=>exact⟨d+1,by omega,by go_num,Q,aJ H _⟩
            case measure=>simp[intOf];omega
          ·have Q:=t _ rfl (aS fun h=>u h.1)
           clear t;have e3:(N==g)=false:=beq_eq_false_iff_ne.2 u
           go_wp2_with fail
           go_quiet (fail)
           go_wp2_with fail
           go_roundw
           case rel=>exact⟨d+1,by omega,by go_num,Q,aJ H _⟩
           case measure=>simp[intOf];omega
         ·have c6:¬((d:Int)<(b:Int)):=by omega
          have b5:Hid (∀a (f:a<L.length),a<b->decide ((L[a]'f).d=g∧(L[a]'f).p≠i)=false):=fun a f h=>Z a f (by omega)
          replace a6:=hid (a6 b5);have c7:=H;clear r
          go_wp2_with fail
          go_loopw [9] (fun p a7=>∃d:Nat,d<=b∧p=iV (d:Int)∧Hid (∀a (f:a<L.length),a<d->decide ((L[a]'f).d=g∧(L[a]'f).s=m)=false)∧bW C a7) (fun p _=>b-(intOf p).toNat)
          case atStart=>exact⟨0,Nat.zero_le _,rfl,fun a _ h=>absurd h (Nat.not_lt_zero _),c7⟩
          case round =>
           obtain⟨d,q,rfl,Z,r⟩:=hrel;have H:=hid r
           by_cases G:d<b
           ·have I:d<L.length:=by omega
            obtain⟨b',o',eb,J,K,M⟩:=HL.out d I;obtain⟨rfl,rfl⟩:b2=b'∧b3=o':=by cases eb;exact⟨rfl,rfl⟩
            obtain⟨⟨s',N,p'⟩,O⟩:∃e,Hid (L[d]'I=e):=⟨_,rfl⟩;rw[O.out]at J K M;have s:=hid (ao a2 r);replace J:=ag s J;replace K:=ag s K;replace M:=ag s M;obtain⟨z0,z1,z2⟩:=jR (fW r a4);obtain⟨q0,q1,q2,q3,q4⟩:=T.out _ (aJ s 0);clear r eb q0 q1 q2 q3 q4;have t:∀P:Bool,decide (N=g∧s'=m)=P->P=false->Hid (∀a (f:a<L.length),a<d+1->decide ((L[a]'f).d=g∧(L[a]'f).s=m)=false):=fun P ht hf a f h=>by
             rcases Nat.lt_succ_iff_lt_or_eq.1 h with l|rfl
             ·exact Z a f l
             ·rw[O.out];exact ht.trans hf
            by_cases u:N=g
            ·by_cases y:s'=m
             ·have k:Hid (z=8∧A=(b:Int)):=a6.out d I G (by rw[O.out];exact bo ⟨u,y⟩)
              clear t;subst u;subst y
              go_wp2_with fail
              go_quiet (fail)
              obtain⟨g0,g1,g2,g3,j⟩:=T.out _ (aJ s nq)
              go_wp2_with fail
              refine bh (results_cell_row rfl _ _ w.heap.size 74 _ (0,0) _ rfl (j _ _).1 underlying74 rfl gH) rfl ?_;exact⟨by rw[k.out.1,k.out.2],(j _ _).2⟩
             ·have Q:=t _ rfl (aS fun h=>y h.2)
              clear t;subst u;have e4:(s'==m)=false:=beq_eq_false_iff_ne.2 y
              go_wp2_with fail
              go_quiet (fail)
              go_wp2_with fail
              go_roundw
              case rel=>exact⟨d+1,by omega,by go_num,Q,aJ H _⟩
              case measure=>simp[intOf];omega
            ·have Q:=t _ rfl (aS fun h=>u h.1)
             clear t;have e3:(N==g)=false:=beq_eq_false_iff_ne.2 u
             go_wp2_with fail
             go_quiet (fail)
             go_wp2_with fail
             go_roundw
             case rel=>exact⟨d+1,by omega,by go_num,Q,aJ H _⟩
             case measure=>simp[intOf];omega
           ·have c6:¬((d:Int)<(b:Int)):=by omega
            have c8:Hid (∀a (f:a<L.length),a<b->decide ((L[a]'f).d=g∧(L[a]'f).s=m)=false):=fun a f h=>Z a f (by omega)
            have d1:=c5.out b5 c8;have c9:=hid (ao a2 H);clear r
            go_wp2_with fail
            go_roundw
            case rel=>exact⟨b+1,by omega,by go_num,c9⟩
            case measure=>simp[intOf];omega
  ·have b6:Hid (z=0∧A=-1):=by
    rcases R.2 with⟨h1,h2⟩|⟨h1,-⟩
    ·subst h1;exact⟨S.1,S.2⟩
    ·omega
   have d2:¬((b:Int)<(L.length:Int)):=by omega
   have b7:=hid (ab9 wr);unfold mL at b7
   go_wp2_with fail
   refine b7.mono ?_;rintro e o ⟨rfl,b8⟩;obtain⟨g0,g1,g2,g3,j⟩:=T.out o (ao x b8);clear x b8
   go_wp2_with fail
   refine bh (results_cell_row rfl _ _ w.heap.size 74 _ (0,0) _ rfl (j _ _).1 underlying74 rfl gH) rfl ?_;exact⟨by rw[b6.out.1,b6.out.2],(j _ _).2⟩
end Go.Proofs.YtaehdgemkafinaaGreatDoor
