/-
  On the way to KeepsProof: SC SF SG.
-/
import Derived.Test.YtkopfpaldmapdaaDoorBk18
import Derived.Test.YtkopfpaldmapdaaDoorBk16
import Derived.Deep.CutBlock
set_option maxHeartbeats 8000000
set_option maxRecDepth 100000
namespace Go.Proofs.YtkopfpaldmapdaaDoor
open Go.RowKit
theorem votes_hear (A:Nat→Addr) (w0 w:World) (s j mb p q n:Nat) (h:SP w0 w s j mb p q 1 (fun _=>false) n (dealL (zeroB 512).data.toList) false (zeroB 512) (-1)) (hE:HeldE w0 A) :
  Calls Tryd.prog 14 #[.pointer (some ⟨s,0,none⟩),frV 0 1 0 1 0 false 0 0 0] w fun e w'=>∃ gb cap,e=.returned (.tuple #[.slice (some ⟨gb,0,none⟩) 1 cap,.nilIface])∧w'.cell? ⟨gb,3,none⟩=some (.int .i64 2)∧w'.cell? ⟨gb,5,none⟩=some (.bool true)∧Below w0.heap.size w0 w':=by
 have hz:=deal_zero 512 0 (by omega)
 have hB:216≤(zeroB 512).size:=by rw [zeroB_size]; omega
 have hn:(dealL (zeroB 512).data.toList 0).1+1<4294967295:=by rw [hz]; decide
 have hf:=put_free (B:=zeroB 512) (d:=0) (s:=⟨1,0,0⟩) hB (by decide) hn
 have hg:hearL (dealL (zeroB 512).data.toList 0).2 ((fun _=>false) 0) 1 0 0=⟨⟨1,0,0⟩,2,true⟩:=by rw [hz]; rfl
 obtain ⟨o,ho⟩:∃ o,pOut (dealL (zeroB 512).data.toList) false (zeroB 512) (-1) (0:Nat) (1:Nat) (0:Nat) (0:Nat)=o:=⟨_,rfl⟩
 have hc:o.c=0:=by
  rw [← ho]
  unfold pOut
  rw [if_neg (by decide),if_pos ⟨by omega,by decide⟩]
  exact hf.1
 refine (shear_in A w0 w s j mb p q n 1 0 0 1 0 0 0 0 false (fun _=>false) _ false _ (-1) _ o h hE (fun d _=>deal_lt _ d) ⟨by omega,by omega,by omega,by omega,by omega,by omega,by omega,by omega⟩ hg ho).mono ?_
 rintro e w' ⟨v,rfl,hv,hs,hk⟩
 rw [hc] at hv ⊢
 unfold AnsV at hv
 rw [if_pos ⟨rfl,by decide⟩] at hv
 obtain ⟨gb,cap,rfl,hr⟩:=hv
 refine ⟨gb,cap,rfl,?_,?_,hs.jp.bel⟩
 ·rw [cell_of_row _ _ _ _ _ _ hr]; rfl
 ·rw [cell_of_row _ _ _ _ _ _ hr]; rfl
theorem votes_any (A:Nat→Addr) (w:World) (hE:HeldE w A) :
  Calls Tryd.prog 8 #[] w fun e w'=>e=.returned (.bool true)∧Below w.heap.size w w':=by
 have HE:=hid hE
 clear hE
 go_enter Tryd.func8,Tryd.ntmps8
 go_wp2_with fail
 refine (pnew_ok 512 _ (by omega)).mono ?_
 rintro e w1 ⟨rfl,hP1,hb1,hs1⟩
 have HP1:=hid hP1
 have HB1:=hid hb1
 have HE1:=hid (HE.out.later hb1)
 clear hP1 hb1
 go_wp2_with fail
 refine (snew_ok A 1 _ _ _ (-1) _ HP1.out HE1.out (by rw [zeroB_size]; omega) (by rw [zeroB_size]; omega) (by omega) (by omega) (by omega)).mono ?_
 rintro e w2 ⟨s,j,mb,rfl,hJ,hS,hb2,hj0,hjm,hms⟩
 have HS:=hid (sp_new HB1.out HP1.out (by omega) (Nat.le_refl _) hJ hS hb2 hj0 hjm hms (by omega) (by omega) (by rw [zeroB_size]; omega) (by rw [zeroB_size]; omega))
 clear hJ hS hb2 hj0 hjm hms
 go_wp2_with fail
 refine (votes_hear A w _ s j mb _ _ 0 HS.out HE.out).mono ?_
 rintro e w3 ⟨gb,cap,rfl,hc3,hc5,hb3⟩
 have HB3:=hid hb3
 clear hb3
 go_wp2_with fail
 go_ret
 exact ⟨rfl,HB3.out⟩
theorem Tryd.infoI6:(Tryd.prog.info? 3).map (fun i=>(i.zero,i.size,i.bytes))=some (some (.int .i64 0),1,8):=by kernel_rfl
theorem made_i6:madeCells (Value.int .i64 0).cells 6=#[.int .i64 0,.int .i64 0,.int .i64 0,.int .i64 0,.int .i64 0,.int .i64 0]:=by first|rfl|kernel_rfl
theorem mkI6 (w:World):(Instr.makeSlice 47 (.int .i64 6) (.int .i64 6)).run Tryd.prog w=.ok (.slice (some ⟨w.heap.size,0,none⟩) 6 6) (w.alloc (.cells #[.int .i64 0,.int .i64 0,.int .i64 0,.int .i64 0,.int .i64 0,.int .i64 0] 3)):=by
 obtain ⟨i0,hi,hz0,hz1,hz2⟩:=info_parts Tryd.infoI6
 have hr:=run_make (P:=Tryd.prog) w 47 3 i0 _ Tryd.underlying47 hi hz0 .i64 .i64 6 6 (by omega) (Int.le_refl _) (by rw [hz2]; decide) (by decide)
 rw [hz1,show Int.toNat 6 * 1=6 from rfl,made_i6] at hr
 exact hr
def IR (w:World) (b:Nat) (P:Nat→Nat):Prop:=w.heap[b]? = some (.cells #[.int .i64 (P 0:Int),.int .i64 (P 1:Int),.int .i64 (P 2:Int),.int .i64 (P 3:Int),.int .i64 (P 4:Int),.int .i64 (P 5:Int)] 3 (0,0))
def updI (P:Nat→Nat) (d x:Nat):Nat→Nat:=fun e=>if e=d then x else P e
section
variable {w w':World} {b d:Nat} {P:Nat→Nat}
theorem IR.lt (h:IR w b P):b<w.heap.size:=row_ltJ h
theorem IR.later (h:IR w b P) (hb:Below w.heap.size w w'):IR w' b P:=(hb.block b (row_ltJ h)).trans h
theorem IR.at_ (h:IR w b P) (hd:d<6):w.cell? ⟨b,d,none⟩=some (.int .i64 (P d:Int)):=by
 rw [cell_of_row _ _ _ _ _ _ h]
 rcases six hd with rfl|rfl|rfl|rfl|rfl|rfl <;> rfl
theorem IR.fz (h:IR w b P) (i:Nat):w.frozen? ⟨b,i,none⟩=false:=frozen_of_row w b i _ _ h
theorem IR.set (h:IR w b P) (hd:d<6) (x:Nat):IR (w.setCell ⟨b,d,none⟩ (.int .i64 (x:Int))) b (updI P d x):=by
 unfold IR
 rw [heap_setCell_same w b d _ _ (.int .i64 (x:Int)) h]
 rcases six hd with rfl|rfl|rfl|rfl|rfl|rfl <;> rfl
theorem IR.new (w:World):IR (w.alloc (.cells #[.int .i64 0,.int .i64 0,.int .i64 0,.int .i64 0,.int .i64 0,.int .i64 0] 3)) w.heap.size (fun _=>0):=heap_alloc_new w _
end
structure KI (w0 w:World) (s j mb p q pb vb n:Nat) (R:Nat→Bool) (over:Bool) (B:ByteArray) (l:Int) (m:Nat) (P:Nat→Nat) (V:Nat→Bool):Prop where
 sp:SP w0 w s j mb p q (0:Nat) R n (dealL B.data.toList) over B l
 well:Well B over l m
 hn:n≤m
 ir:IR w pb P
 vr:VR w vb V
 le:∀ d,d<6→P d≤(dealL B.data.toList d).2.pr
 p0:w0.heap.size≤pb
 v0:w0.heap.size≤vb
 pv:pb≠vb
 ps:pb≠s
 pm:pb≠mb
 pj:¬ In3 j p q pb
 vs:vb≠s
 vm:vb≠mb
 vj:¬ In3 j p q vb
section
variable {w0 w w':World} {s j mb p q pb vb n m:Nat} {R:Nat→Bool} {over:Bool} {B:ByteArray} {l:Int} {P:Nat→Nat} {V:Nat→Bool}
theorem KI.later (h:KI w0 w s j mb p q pb vb n R over B l m P V) (hb:Below w.heap.size w w'):KI w0 w' s j mb p q pb vb n R over B l m P V :=
 ⟨h.sp.later hb,h.well,h.hn,h.ir.later hb,h.vr.later hb,h.le,h.p0,h.v0,h.pv,h.ps,h.pm,h.pj,h.vs,h.vm,h.vj⟩
theorem KI.drew (h:KI w0 w s j mb p q pb vb n R over B l m P V):KI w0 w.drew s j mb p q pb vb n R over B l m P V:=h.later (Below.refl _ _).drew
theorem KI.mono {k:Nat} (h:KI w0 w s j mb p q pb vb n R over B l m P V) (hk:m≤k):KI w0 w s j mb p q pb vb n R over B l k P V :=
 ⟨h.sp,h.well.mono hk,Nat.le_trans h.hn hk,h.ir,h.vr,h.le,h.p0,h.v0,h.pv,h.ps,h.pm,h.pj,h.vs,h.vm,h.vj⟩
theorem KI.bel (h:KI w0 w s j mb p q pb vb n R over B l m P V):Below w0.heap.size w0 w:=h.sp.jp.bel
theorem KI.turn {over':Bool} {B':ByteArray} {l':Int} {m':Nat} (h:KI w0 w s j mb p q pb vb n R over B l m P V) (hs:SP w0 w' s j mb p q (0:Nat) R n (dealL B'.data.toList) over' B' l') (hk:Kept (In3 j p q) w w') (hw:Well B' over' l' m') (hm:m≤m') (hle:∀ d,d<6→(dealL B.data.toList d).2.pr≤(dealL B'.data.toList d).2.pr):KI w0 w' s j mb p q pb vb n R over' B' l' m' P V :=
 ⟨hs,hw,Nat.le_trans h.hn hm,hk.row h.ir h.pj,hk.row h.vr h.vj,fun d hd=>Nat.le_trans (h.le d hd) (hle d hd),h.p0,h.v0,h.pv,h.ps,h.pm,h.pj,h.vs,h.vm,h.vj⟩
theorem KI.refuse {d:Nat} (h:KI w0 w s j mb p q pb vb n R over B l m P V) (hr:SR w' s j mb (0:Nat) (updR R d) (n+1)) (hk:Kept (In1 mb) w w'):KI w0 w' s j mb p q pb vb (n+1) (updR R d) over B l (m+1) P V :=
 ⟨h.sp.refuse hr hk,h.well.mono (Nat.le_succ _),Nat.succ_le_succ h.hn,hk.row h.ir (fun e=>h.pm e),hk.row h.vr (fun e=>h.vm e),h.le,h.p0,h.v0,h.pv,h.ps,h.pm,h.pj,h.vs,h.vm,h.vj⟩
theorem KI.boot {s' j' mb':Nat} {w1:World} (h:KI w0 w1 s j mb p q pb vb n R over B l m P V) (hs:SP w0 w' s' j' mb' p q (0:Nat) (fun _=>false) 0 (dealL B.data.toList) false B (-1)) (hb:Below w1.heap.size w1 w') (h1:w1.heap.size≤j') (h2:w1.heap.size≤s') (h3:w1.heap.size≤mb') :
  KI w0 w' s' j' mb' p q pb vb 0 (fun _=>false) false B (-1) m P V:=by
 have e1:=h.ir.lt
 have e2:=h.vr.lt
 have g2:=h.pj
 have g3:=h.vj
 refine ⟨hs,h.well.boot,Nat.zero_le _,h.ir.later hb,h.vr.later hb,h.le,h.p0,h.v0,h.pv,by omega,by omega,fun g=>?_,by omega,by omega,fun g=>?_⟩
 ·unfold In3 at g g2
  omega
 ·unfold In3 at g g3
  omega
theorem KI.setP (h:KI w0 w s j mb p q pb vb n R over B l m P V) {d:Nat} (hd:d<6) (x:Nat) (hx:x≤(dealL B.data.toList d).2.pr):KI w0 (w.setCell ⟨pb,d,none⟩ (.int .i64 (x:Int))) s j mb p q pb vb n R over B l m (updI P d x) V:=by
 have hk:Kept (In1 pb) w (w.setCell ⟨pb,d,none⟩ (.int .i64 (x:Int))):=(Kept.refl _ _).set1 d _
 refine ⟨h.sp.far hk (fun y e=>by unfold In1 at e; rw [e]; exact h.p0) (fun y hy e=>by unfold In1 at e; exact h.pj (e ▸ hy)) (fun e=>h.ps e.symm) (fun e=>h.pm e.symm),h.well,h.hn,h.ir.set hd x,hk.row h.vr (fun e=>h.pv e.symm),fun e he=>?_,h.p0,h.v0,h.pv,h.ps,h.pm,h.pj,h.vs,h.vm,h.vj⟩
 unfold updI
 by_cases g:e=d
 ·rw [if_pos g,g]; exact hx
 ·rw [if_neg g]; exact h.le e he
theorem KI.setV (h:KI w0 w s j mb p q pb vb n R over B l m P V) {d:Nat} (hd:d<6) (x:Bool):KI w0 (w.setCell ⟨vb,d,none⟩ (.bool x)) s j mb p q pb vb n R over B l m P (updB V d x):=by
 have hk:Kept (In1 vb) w (w.setCell ⟨vb,d,none⟩ (.bool x)):=(Kept.refl _ _).set1 d _
 exact ⟨h.sp.far hk (fun y e=>by unfold In1 at e; rw [e]; exact h.v0) (fun y hy e=>by unfold In1 at e; exact h.vj (e ▸ hy)) (fun e=>h.vs e.symm) (fun e=>h.vm e.symm),h.well,h.hn,hk.row h.ir (fun e=>h.pv e),h.vr.set hd x,h.le,h.p0,h.v0,h.pv,h.ps,h.pm,h.pj,h.vs,h.vm,h.vj⟩
end
theorem ki_start {w0 w2:World} {p q s j mb:Nat} {B:ByteArray} (h:SP w0 w2 s j mb p q (0:Nat) (fun _=>false) 0 (dealL B.data.toList) false B (-1)) (hB:B=zeroB 512) :
  KI w0 ((w2.alloc (.cells #[.int .i64 0,.int .i64 0,.int .i64 0,.int .i64 0,.int .i64 0,.int .i64 0] 3)).alloc (.cells #[.bool false,.bool false,.bool false,.bool false,.bool false,.bool false] 4)) s j mb p q w2.heap.size (w2.heap.size+1) 0 (fun _=>false) false B (-1) 0 (fun _=>0) (fun _=>false):=by
 obtain ⟨e1,e2,e3,e4,e5⟩:=h.lts
 obtain ⟨W,HW⟩:∃ W,w2.alloc (.cells #[.int .i64 0,.int .i64 0,.int .i64 0,.int .i64 0,.int .i64 0,.int .i64 0] 3)=W:=⟨_,rfl⟩
 have hs:W.heap.size=w2.heap.size+1:=by rw [← HW]; simp
 have hi:IR W w2.heap.size (fun _=>0):=by rw [← HW]; exact IR.new w2
 have hb:Below w2.heap.size w2 W:=by rw [← HW]; exact (Below.refl _ _).alloc (Nat.le_refl _) _
 have hb2:=(Below.refl W.heap.size W).alloc (Nat.le_refl _) (.cells #[.bool false,.bool false,.bool false,.bool false,.bool false,.bool false] 4)
 have hv:=VR.new W
 have e6:=h.jp.bel.size
 rw [HW]
 rw [hs] at hv
 exact ⟨(h.later hb).later hb2,by rw [hB]; exact well_zero 512 (by omega),Nat.le_refl _,hi.later hb2,hv,fun d _=>Nat.zero_le _,e6,by omega,by omega,by omega,by omega,fun g=>by unfold In3 at g; omega,by omega,by omega,fun g=>by unfold In3 at g; omega⟩
theorem hear_kinds (s:St) (r:Bool) (k a ph:Nat):(hearL s r k a ph).k=0 ∨ (hearL s r k a ph).k=2 ∨ (hearL s r k a ph).k=4 ∨ (hearL s r k a ph).k=6:=by
 unfold hearL
 repeat' split
 all_goals simp
theorem hear_keeps {B:ByteArray} {over:Bool} {l:Int} {m d k a ph:Nat} {r:Bool} {g:HOut} {o:POut} (hB:216≤B.size) (h:Well B over l m) (hm:m<1000) (hd:d<6) (ha:a≤1048576) (hp:ph≤5) (hg:hearL (dealL B.data.toList d).2 r k a ph=g) (ho:pOut (dealL B.data.toList) over B l d g.st.ph g.st.pr g.st.at_=o) :
  o.e=dealL o.b.data.toList∧Well o.b o.over o.l (m+1)∧(∀ e,e<6→(dealL B.data.toList e).2.pr≤(dealL o.b.data.toList e).2.pr)∧(o.c=0→(dealL o.b.data.toList d).2=g.st) ∧
  (g.k=4→g.yes=true→(dealL B.data.toList d).2.pr<a∧g.st.pr=a)∧(g.k=6→g.yes=true→(dealL B.data.toList d).2.pr≤a∧g.st.pr=a)∧(g.k=2→g.yes=false→g.st.ph=3):=by
 subst hg
 obtain ⟨hgood,h1,h2,h3⟩:=hear_good (dealL B.data.toList d).2 r k a ph (h.good d hd) ha hp
 obtain ⟨e1,e2,e3,e4⟩:=put_well hB h hm hd hgood ho
 refine ⟨e1,e2,fun e he=>?_,fun hc=>?_,hear_tell _ r k a ph,hear_ack _ r k a ph,hear_vote _ r k a ph⟩
 ·by_cases c:e=d
  ·subst c
   rcases e4 with ⟨-,q⟩|⟨-,q⟩
   ·rw [q]; exact h1
   ·rw [q]; exact Nat.le_refl _
  ·rw [e3 e c]; exact Nat.le_refl _
 ·rcases e4 with ⟨-,q⟩|⟨c,-⟩
  ·exact q
  ·rw [c] at hc; cases hc
theorem keeps_early (A:Nat→Addr) (ad:Option Addr) (len cap:Nat) (w:World) (hE:HeldE w A) (hl:len≤9223372036854775807) (h:80<len) :
  Calls Tryd.prog 4 #[.slice ad len cap] w fun e w'=>e=.returned (.bool true)∧Below w.heap.size w w':=by
 have HE:=hid hE
 clear hE
 go_enter Tryd.func4,Tryd.ntmps4
 go_wp2_with (go_at_call 8; refine (votes_any A _ HE.out).mono ?_; rintro e w1 ⟨rfl,hb1⟩)
 go_ret
 exact ⟨rfl,hb1⟩
theorem keeps_small (A:Nat→Addr) (ad:Option Addr) (cap:Nat) (xs:List Act12) (w:World) (hE:HeldE w A) (hx:SActsIn w ad xs) (hl:xs.length≤80) :
  Calls Tryd.prog 4 #[.slice ad xs.length cap] w fun e w'=>e=.returned (.bool true)∧Below w.heap.size w w':=by
 have HE:=hid hE
 have HX:=hid hx
 clear hE hx
 have hmk:=mkI6
 have hmb:=mkBo
 go_enter Tryd.func4,Tryd.ntmps4
 go_wp2_with (go_at_call 8; refine (votes_any A _ HE.out).mono ?_; rintro e w1 ⟨rfl,hb1⟩; have HB1:=hid hb1; have HE1:=hid (HE.out.later hb1); clear hb1)
 refine (pnew_ok 512 _ (by omega)).mono ?_
 rintro e w2 ⟨rfl,hP2,hb2,hs2⟩
 have HP2:=hid hP2
 have HB2:=hid (HB1.out.trans (hb2.mono HB1.out.size))
 have HE2:=hid (HE.out.later HB2.out)
 have hpq:=HB1.out.size
 clear hP2 hb2 hs2
 obtain ⟨p,Hp⟩:∃ p,Hid (w1.heap.size+1=p):=⟨_,rfl⟩
 obtain ⟨q,Hq⟩:∃ q,Hid (w1.heap.size=q):=⟨_,rfl⟩
 have p0:w.heap.size≤p:=by rw [← Hp.out]; omega
 have q0:w.heap.size≤q:=by rw [← Hq.out]; omega
 rw [Hp.out,Hq.out] at HP2
 have hpp:=Hp.out
 go_wp2_with fail
 refine (snew_ok A 0 p q _ (-1) _ HP2.out HE2.out (by rw [zeroB_size]; omega) (by rw [zeroB_size]; omega) (by omega) (by omega) (by omega)).mono ?_
 rintro e w3 ⟨s,j,mb,rfl,hJ,hS,hb3,hj0,hjm,hms⟩
 have HS:=hid (sp_new HB2.out HP2.out p0 q0 hJ hS hb3 hj0 hjm hms (by omega) (by omega) (by rw [zeroB_size]; omega) (by rw [zeroB_size]; omega))
 clear hJ hS hb3 hj0 hjm hms hpp
 obtain ⟨pb,Hpb⟩:∃ n,Hid (w3.heap.size=n):=⟨_,rfl⟩
 have hpb:=Hpb.out
 have HI0:=hid (ki_start HS.out rfl)
 rw [Hpb.out] at HI0
 go_wp2_with fail
 go_loopw [6,9] (fun vs i wr=>∃ (k s j mb n:Nat) (R:Nat→Bool) (over:Bool) (B:ByteArray) (l:Int) (P:Nat→Nat) (V:Nat→Bool),k≤xs.length∧vs=.pointer (some ⟨s,0,none⟩)∧i=.int .i64 (k:Int)∧KI w wr s j mb p q pb (pb+1) n R over B l k P V) (fun _ i _=>xs.length - (intOf i).toNat)
 case atStart=>exact ⟨0,s,j,mb,0,_,_,_,_,_,_,Nat.zero_le _,rfl,rfl,HI0.out⟩
 case round =>
  clear HI0 HS
  obtain ⟨k,s,j,mb,n,R,over,B,l,P,V,hk,rfl,rfl,hI⟩:=hrel
  have HI:=hid hI
  clear hI
  by_cases hlt:k<xs.length
  ·obtain ⟨b,o,rfl,hy,hc9⟩:=HX.out k hlt
   obtain ⟨y0,y1,y2,y3,y4,y5,y6,y7,y8,y9,y10,y11⟩:=twelve (w:=wr) (fun j hj=>(HI.out.bel.cell (cell_lt (hy j hj |>.trans (List.getElem?_eq_getElem (by simpa [act12L] using hj))))).trans (hy j hj))
   generalize xs[k]'hlt=x at *
   obtain ⟨xk,xf,xt,xd,xkk,xa,xy,xph,xpr,xpa,xdl,xn⟩:=x
   simp only at y0 y1 y2 y3 y4 y5 y6 y7 y8 y9 y10 y11 hc9
   clear hy
   obtain ⟨ab,Hab⟩:∃ n,Hid (wr.heap.size=n):=⟨_,rfl⟩
   obtain ⟨W,HW⟩:∃ W,Hid (wr.alloc (.cells #[.string xk,.int .i64 xf,.int .i64 xt,.int .i64 xd,.int .i64 xkk,.int .i64 xa,.bool xy,.int .i64 xph,.int .i64 xpr,.int .i64 xpa,.int .i64 xdl,.int .i64 xn] 38)=W):=⟨_,rfl⟩
   have hW:=HW.out
   have hab:=Hab.out
   have HIW:=hid (HI.out.later (w':=W) (by rw [← HW.out]; exact (Below.refl _ _).alloc (Nat.le_refl _) _))
   have RW:Hid (W.heap[ab]? = some (.cells #[.string xk,.int .i64 xf,.int .i64 xt,.int .i64 xd,.int .i64 xkk,.int .i64 xa,.bool xy,.int .i64 xph,.int .i64 xpr,.int .i64 xpa,.int .i64 xdl,.int .i64 xn] 38 (0,0))):=by rw [← HW.out,← Hab.out]; exact heap_alloc_new wr _
   have hk1000:k<1000:=by omega
   obtain ⟨a0,a1,a2,a3,a4,a5,a6,a7,a8,a9,a10,a11⟩:=twelveR RW.out
   go_upto_block 2 with fail
   clear y0 y1 y2 y3 y4 y5 y6 y7 y8 y9 y10 y11 hab hW HW HI
   rcases k1:(xk.toList == [114,101,102,117,115,101]) with _|_
   rotate_left
   · -- refuse
    by_cases hdl:0≤xdl∧xdl<6
    ·obtain ⟨d,rfl⟩:∃ d:Nat,xdl=d:=⟨xdl.toNat,by omega⟩
     have hd:d<6:=by omega
     have hn6:n≤1000000:=by have:=HIW.out.hn; omega
     clear hdl
     go_wp2_with (go_at_call 11; (with_reducible refine (srefuse_ok d HIW.out.sp.jp.jr HIW.out.sp.sr hd hn6).mono ?_); rintro e v1 ⟨rfl,hr1,hk1,-⟩; have HI1:=hid (HIW.out.refuse hr1 hk1); clear hr1 hk1)
     go_roundw
     case rel=>exact ⟨k+1,s,j,mb,n+1,_,over,B,l,P,V,by omega,rfl,by go_num,HI1.out⟩
     case measure=>simp [intOf]; omega
    ·have HEW:=hid (HE.out.later HIW.out.bel)
     go_wp2_with (go_at_call 11; (with_reducible refine (srefuse_bad (A:=A) xdl HIW.out.sp.sr HEW.out hdl).mono ?_); rintro e v1 ⟨rfl,hb1⟩; have HI1:=hid ((HIW.out.later hb1).mono (Nat.le_succ k)); clear hb1)
     go_roundw
     case rel=>exact ⟨k+1,s,j,mb,n,R,over,B,l,P,V,by omega,rfl,by go_num,HI1.out⟩
     case measure=>simp [intOf]; omega
   rcases k2:(xk.toList == [99,117,116]) with _|_
   rotate_left
   · -- cut
    go_wp2_with (go_at_call 12; (with_reducible refine (scut_jp xn HIW.out.sp.jp HE.out hc9).mono ?_); rintro e v1 ⟨rfl,hj1,hk1⟩; have HI1:=hid (HIW.out.turn (HIW.out.sp.turn hj1 hk1) hk1 ((HIW.out.well.cut xn).mono (Nat.le_succ k)) (Nat.le_succ k) (fun _ _=>Nat.le_refl _)); clear hj1 hk1)
    go_roundw
    case rel=>exact ⟨k+1,s,j,mb,n,R,over,B,_,P,V,by omega,rfl,by go_num,HI1.out⟩
    case measure=>simp [intOf]; omega
   rcases k3:(xk.toList == [98,111,111,116]) with _|_
   rotate_left
   · -- boot
    go_wp2_with (first|(go_at_call 13; (with_reducible refine (jon_jp HIW.out.sp.jp).mono ?_); rintro e v1 ⟨rfl,hj1,hk1⟩; have HJ1:=hid hj1; have HI1:=hid (HIW.out.turn (HIW.out.sp.turn hj1 hk1) hk1 (HIW.out.well.on.mono (Nat.le_succ k)) (Nat.le_succ k) (fun _ _=>Nat.le_refl _)); clear hj1 hk1))
    refine (sboot_sp (id:=((0:Nat):Int)) HJ1.out HE.out (by decide) (by decide)).mono ?_
    rintro e v2 ⟨s',j',mb',rfl,hs2,hb2,h1,h2,h3⟩
    have HI2:=hid (HI1.out.boot hs2 hb2 h1 h2 h3)
    clear hs2 hb2 h1 h2 h3
    go_wp2_with fail
    go_roundw
    case rel=>exact ⟨k+1,s',j',mb',0,_,false,B,-1,P,V,by omega,rfl,by go_num,HI2.out⟩
    case measure=>simp [intOf]; omega
   · -- hear
    by_cases hf:frOk xf 0 xd xkk xa xph xpr xpa
    ·obtain ⟨f,rfl⟩:∃ f:Nat,xf=f:=⟨xf.toNat,by have:=hf.1; omega⟩
     obtain ⟨d,rfl⟩:∃ f:Nat,xd=f:=⟨xd.toNat,by have:=hf.2.2.1; omega⟩
     obtain ⟨kk,rfl⟩:∃ f:Nat,xkk=f:=⟨xkk.toNat,by have:=hf.2.2.2.1; omega⟩
     obtain ⟨a,rfl⟩:∃ f:Nat,xa=f:=⟨xa.toNat,by have:=hf.2.2.2.2.1; omega⟩
     obtain ⟨ph,rfl⟩:∃ f:Nat,xph=f:=⟨xph.toNat,by have:=hf.2.2.2.2.2.1; omega⟩
     obtain ⟨pr,rfl⟩:∃ f:Nat,xpr=f:=⟨xpr.toNat,by have:=hf.2.2.2.2.2.2.1; omega⟩
     obtain ⟨pa,rfl⟩:∃ f:Nat,xpa=f:=⟨xpa.toNat,by have:=hf.2.2.2.2.2.2.2; omega⟩
     have hd:d<6:=by have:=hf.2.2.1; omega
     have hdi:(d:Int)<6:=by omega
     obtain ⟨⟨⟨th,tp,ta⟩,gk,gy⟩,HG⟩:∃ g,Hid (hearL (dealL B.data.toList d).2 (R d) kk a ph=g):=⟨_,rfl⟩
     obtain ⟨⟨oc,oe,oo,ob,ol⟩,HO⟩:∃ o,Hid (pOut (dealL B.data.toList) over B l d th tp ta=o):=⟨_,rfl⟩
     have HRS:=hid (hear_keeps HIW.out.sp.jp.s6 HIW.out.well hk1000 hd (by have:=hf.2.2.2.2.1; omega) (by have:=hf.2.2.2.2.2.1; omega) HG.out HO.out)
     have HKd:Hid (gk=0 ∨ gk=2 ∨ gk=4 ∨ gk=6):=by have:=hear_kinds (dealL B.data.toList d).2 (R d) kk a ph; rw [HG.out] at this; exact this
     have HF:=hid hf
     have HLE:=hid (HIW.out.le d hd)
     clear hf
     go_wp2_with fail
     refine (shear_in A w _ s j mb p q n 0 f d kk a ph pr pa xy R (dealL B.data.toList) over B l ⟨⟨th,tp,ta⟩,gk,gy⟩ ⟨oc,oe,oo,ob,ol⟩ (HIW.out.sp.later ((Below.refl _ _).alloc (Nat.le_refl _) _)) HE.out (fun d _=>deal_lt _ d) HF.out HG.out HO.out).mono ?_
     rintro e v2 ⟨v,rfl,hv,hs2,hk2⟩
     simp only at hv hs2
     have he:oe=dealL ob.data.toList:=HRS.out.1
     rw [he] at hs2
     have HI2:=hid ((HIW.out.later ((Below.refl _ _).alloc (Nat.le_refl _) _)).turn hs2 hk2 HRS.out.2.1 (Nat.le_succ k) HRS.out.2.2.1)
     have HFR:Hid (v2.heap[W.heap.size]? = some (.cells #[.int .i64 f,.int .i64 0,.int .i64 d,.int .i64 kk,.int .i64 a,.bool xy,.int .i64 ph,.int .i64 pr,.int .i64 pa] 36 (0,0))):=hk2.row (heap_alloc_new W _) (fun g=>by obtain ⟨_,_,e1,e2,e3⟩:=HIW.out.sp.lts; unfold In3 at g; omega)
     clear hs2 hk2 he
     unfold AnsV at hv
     simp only at hv
     cases oc with
     | succ c =>
      rw [if_neg (fun h=>by cases h.1)] at hv
      subst hv
      unfold ev
      go_wp2_with fail
      go_roundw
      case rel=>exact ⟨k+1,s,j,mb,n,R,oo,ob,ol,P,V,by omega,rfl,by go_num,HI2.out⟩
      case measure=>simp [intOf]; omega
     | zero =>
      unfold ev
      have HT2:Hid ((dealL ob.data.toList d).2=⟨th,tp,ta⟩):=HRS.out.2.2.2.1 rfl
      have HK4:Hid (gk=4→gy=true→(dealL B.data.toList d).2.pr<a∧tp=a):=HRS.out.2.2.2.2.1
      have HK6:Hid (gk=6→gy=true→(dealL B.data.toList d).2.pr≤a∧tp=a):=HRS.out.2.2.2.2.2.1
      have HK2:Hid (gk=2→gy=false→th=3):=HRS.out.2.2.2.2.2.2
      clear HRS HG HO HF
      rcases HKd.out with rfl|rfl|rfl|rfl
      ·rw [if_neg (fun h=>h.2 rfl)] at hv
       subst hv
       go_wp2_with fail
       go_roundw
       case rel=>exact ⟨k+1,s,j,mb,n,R,oo,ob,ol,P,V,by omega,rfl,by go_num,HI2.out⟩
       case measure=>simp [intOf]; omega
      ·rw [if_pos ⟨rfl,by decide⟩] at hv
       obtain ⟨gb,cp,rfl,hr⟩:=hv
       have HR2:Hid (v2.heap[gb]? = some (.cells #[.int .i64 0,.int .i64 f,.int .i64 d,.int .i64 2,.int .i64 a,.bool gy,.int .i64 th,.int .i64 tp,.int .i64 ta] 36 (0,0))):=hr
       clear hr
       obtain ⟨t0,t1,t2,t3,t4,t5,t6,t7,t8⟩:=nine HR2.out
       have hgb:=row_ltJ HR2.out
       have hfb:=row_ltJ HFR.out
       have u2:=(nine HFR.out).2.2.1
       obtain ⟨X,HXX⟩:∃ X,Hid (v2.alloc (.cells #[.int .i64 0,.int .i64 f,.int .i64 d,.int .i64 2,.int .i64 a,.bool gy,.int .i64 th,.int .i64 tp,.int .i64 ta] 36)=X):=⟨_,rfl⟩
       have RT:Hid (X.heap[v2.heap.size]? = some (.cells #[.int .i64 0,.int .i64 f,.int .i64 d,.int .i64 2,.int .i64 a,.bool gy,.int .i64 th,.int .i64 tp,.int .i64 ta] 36 (0,0))):=by rw [← HXX.out]; exact heap_alloc_new v2 _
       have HBX:Hid (Below v2.heap.size v2 X):=by rw [← HXX.out]; exact (Below.refl _ _).alloc (Nat.le_refl _) _
       have HI3:=hid (HI2.out.later HBX.out)
       have RF:=hid ((HBX.out.block _ hfb).trans HFR.out)
       obtain ⟨p0',p1',p2',p3',p4',p5',p6',p7',p8'⟩:=nine RT.out
       have u4:=(nine RF.out).2.2.2.2.1
       have i0:=HI3.out.ir.at_ hd
       have i1:=HI3.out.ir.fz d
       have v0':=HI3.out.vr.at_ hd
       have v1':=HI3.out.vr.fz d
       have npt:v2.heap.size≠pb:=by have:=HI2.out.ir.lt; omega
       have hXX:=HXX.out
       obtain ⟨vd,HVd⟩:∃ x,Hid (V d=x):=⟨_,rfl⟩
       rw [HVd.out] at v0'
       cases gy with
       | true =>
        cases vd with
        | true =>
         go_wp2_with fail
         go_roundw
         case rel=>exact ⟨k+1,s,j,mb,n,R,oo,ob,ol,P,_,by omega,rfl,by go_num,HI3.out.setV hd true⟩
         case measure=>simp [intOf]; omega
        | false =>
         go_wp2_with fail
         go_roundw
         case rel=>exact ⟨k+1,s,j,mb,n,R,oo,ob,ol,P,_,by omega,rfl,by go_num,HI3.out.setV hd true⟩
         case measure=>simp [intOf]; omega
       | false =>
        have e3:((th:Int) != 3)=false:=by rw [HK2.out rfl rfl]; rfl
        cases vd with
        | true =>
         go_wp2_with fail
         go_roundw
         case rel=>exact ⟨k+1,s,j,mb,n,R,oo,ob,ol,P,_,by omega,rfl,by go_num,HI3.out.setV hd true⟩
         case measure=>simp [intOf]; omega
        | false =>
         go_wp2_with fail
         go_roundw
         case rel=>exact ⟨k+1,s,j,mb,n,R,oo,ob,ol,P,_,by omega,rfl,by go_num,HI3.out.setV hd false⟩
         case measure=>simp [intOf]; omega
      ·rw [if_pos ⟨rfl,by decide⟩] at hv
       obtain ⟨gb,cp,rfl,hr⟩:=hv
       have HR2:Hid (v2.heap[gb]? = some (.cells #[.int .i64 0,.int .i64 f,.int .i64 d,.int .i64 4,.int .i64 a,.bool gy,.int .i64 th,.int .i64 tp,.int .i64 ta] 36 (0,0))):=hr
       clear hr
       obtain ⟨t0,t1,t2,t3,t4,t5,t6,t7,t8⟩:=nine HR2.out
       have hgb:=row_ltJ HR2.out
       have hfb:=row_ltJ HFR.out
       have u2:=(nine HFR.out).2.2.1
       obtain ⟨X,HXX⟩:∃ X,Hid (v2.alloc (.cells #[.int .i64 0,.int .i64 f,.int .i64 d,.int .i64 4,.int .i64 a,.bool gy,.int .i64 th,.int .i64 tp,.int .i64 ta] 36)=X):=⟨_,rfl⟩
       have RT:Hid (X.heap[v2.heap.size]? = some (.cells #[.int .i64 0,.int .i64 f,.int .i64 d,.int .i64 4,.int .i64 a,.bool gy,.int .i64 th,.int .i64 tp,.int .i64 ta] 36 (0,0))):=by rw [← HXX.out]; exact heap_alloc_new v2 _
       have HBX:Hid (Below v2.heap.size v2 X):=by rw [← HXX.out]; exact (Below.refl _ _).alloc (Nat.le_refl _) _
       have HI3:=hid (HI2.out.later HBX.out)
       have RF:=hid ((HBX.out.block _ hfb).trans HFR.out)
       obtain ⟨p0',p1',p2',p3',p4',p5',p6',p7',p8'⟩:=nine RT.out
       have u4:=(nine RF.out).2.2.2.2.1
       have i0:=HI3.out.ir.at_ hd
       have i1:=HI3.out.ir.fz d
       have v0':=HI3.out.vr.at_ hd
       have v1':=HI3.out.vr.fz d
       have npt:v2.heap.size≠pb:=by have:=HI2.out.ir.lt; omega
       have hXX:=HXX.out
       cases gy with
       | false =>
        go_wp2_with fail
        go_roundw
        case rel=>exact ⟨k+1,s,j,mb,n,R,oo,ob,ol,P,V,by omega,rfl,by go_num,HI3.out⟩
        case measure=>simp [intOf]; omega
       | true =>
        obtain ⟨q1,q2⟩:=HK4.out rfl rfl
        have hle:=HLE.out
        have g1:¬ (a:Int)≤(P d:Int):=by omega
        have g2:¬ a≤P d:=by omega
        have HQ:Hid (a≤(dealL ob.data.toList d).2.pr):=by rw [HT2.out]; exact Nat.le_of_eq q2.symm
        clear q1 q2 hle
        go_wp2_with fail
        go_region
        all_goals go_wp2_with fail
        all_goals go_roundw
        case rel=>exact ⟨k+1,s,j,mb,n,R,oo,ob,ol,_,V,by omega,rfl,by go_num,(HI3.out.setP hd a HQ.out).drew⟩
        case measure=>simp [intOf]; omega
      ·rw [if_pos ⟨rfl,by decide⟩] at hv
       obtain ⟨gb,cp,rfl,hr⟩:=hv
       have HR2:Hid (v2.heap[gb]? = some (.cells #[.int .i64 0,.int .i64 f,.int .i64 d,.int .i64 6,.int .i64 a,.bool gy,.int .i64 th,.int .i64 tp,.int .i64 ta] 36 (0,0))):=hr
       clear hr
       obtain ⟨t0,t1,t2,t3,t4,t5,t6,t7,t8⟩:=nine HR2.out
       have hgb:=row_ltJ HR2.out
       have hfb:=row_ltJ HFR.out
       have u2:=(nine HFR.out).2.2.1
       obtain ⟨X,HXX⟩:∃ X,Hid (v2.alloc (.cells #[.int .i64 0,.int .i64 f,.int .i64 d,.int .i64 6,.int .i64 a,.bool gy,.int .i64 th,.int .i64 tp,.int .i64 ta] 36)=X):=⟨_,rfl⟩
       have RT:Hid (X.heap[v2.heap.size]? = some (.cells #[.int .i64 0,.int .i64 f,.int .i64 d,.int .i64 6,.int .i64 a,.bool gy,.int .i64 th,.int .i64 tp,.int .i64 ta] 36 (0,0))):=by rw [← HXX.out]; exact heap_alloc_new v2 _
       have HBX:Hid (Below v2.heap.size v2 X):=by rw [← HXX.out]; exact (Below.refl _ _).alloc (Nat.le_refl _) _
       have HI3:=hid (HI2.out.later HBX.out)
       have RF:=hid ((HBX.out.block _ hfb).trans HFR.out)
       obtain ⟨p0',p1',p2',p3',p4',p5',p6',p7',p8'⟩:=nine RT.out
       have u4:=(nine RF.out).2.2.2.2.1
       have i0:=HI3.out.ir.at_ hd
       have i1:=HI3.out.ir.fz d
       have v0':=HI3.out.vr.at_ hd
       have v1':=HI3.out.vr.fz d
       have npt:v2.heap.size≠pb:=by have:=HI2.out.ir.lt; omega
       have hXX:=HXX.out
       cases gy with
       | false =>
        go_wp2_with fail
        go_roundw
        case rel=>exact ⟨k+1,s,j,mb,n,R,oo,ob,ol,P,V,by omega,rfl,by go_num,HI3.out⟩
        case measure=>simp [intOf]; omega
       | true =>
        obtain ⟨q1,q2⟩:=HK6.out rfl rfl
        have hle:=HLE.out
        have g1:¬ (a:Int)<(P d:Int):=by omega
        have g2:¬ a<P d:=by omega
        have HQ:Hid (a≤(dealL ob.data.toList d).2.pr):=by rw [HT2.out]; exact Nat.le_of_eq q2.symm
        clear q1 q2 hle
        go_wp2_with fail
        go_region
        all_goals go_wp2_with fail
        all_goals go_roundw
        case rel=>exact ⟨k+1,s,j,mb,n,R,oo,ob,ol,_,V,by omega,rfl,by go_num,(HI3.out.setP hd a HQ.out).drew⟩
        case measure=>simp [intOf]; omega
    ·go_wp2_with (go_at_call 14; (with_reducible refine (shear_bad A _ xf 0 xd xkk xa xy xph xpr xpa _ (HE.out.later (HIW.out.later ((Below.refl _ _).alloc (Nat.le_refl _) _)).bel) hf).mono ?_); rintro e v2 ⟨rfl,hb2⟩; unfold ev; have HI2:=hid (((HIW.out.later ((Below.refl _ _).alloc (Nat.le_refl _) _)).later hb2).mono (Nat.le_succ k)); clear hb2)
     go_roundw
     case rel=>exact ⟨k+1,s,j,mb,n,R,over,B,l,P,V,by omega,rfl,by go_num,HI2.out⟩
     case measure=>simp [intOf]; omega
  ·obtain rfl:k=xs.length:=by omega
   have HBl:=hid HI.out.bel
   go_wp2_with fail
   go_ret
   exact ⟨rfl,HBl.out⟩
end Go.Proofs.YtkopfpaldmapdaaDoor
