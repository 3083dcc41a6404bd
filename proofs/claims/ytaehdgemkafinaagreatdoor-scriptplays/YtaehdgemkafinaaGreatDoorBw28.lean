/-
  On the way to SPlaysProof: VW VX O6B O6C O6D.
-/
import Derived.Test.YtaehdgemkafinaaGreatDoorBw25
set_option maxHeartbeats 8000000
set_option maxRecDepth 100000
namespace Go.Proofs.YtaehdgemkafinaaGreatDoor
open Go.RowKit
section
variable {w0 w w':World} {C C':Nat→Nat} {K:NB} {X:XB} {i m m':Nat} {zs:List Int} {N:PN} {V V':PX} {A:Nat→Addr}
theorem wrap64_inV (n:Int) (h:-9223372036854775808≤n∧n≤9223372036854775807):wrap64 n=n:=by unfold wrap64; omega
theorem seen_is (d p:Nat) (h:ND w0 w C K i zs N m) (hd:d<6) (hp:(stN N d).pr=p) :
  Calls Tryz.prog 163 #[.pointer (some ⟨K.nd,0,none⟩),.int .i64 (d:Int),.int .i64 (p:Int)] w fun e w'=>e=.returned (.int .i64 (aboveN N d))∧w'=w:=by
 have c1:=h.lead hd
 cases hl:N.ld d with
 | none =>
  rw [ldV_none hl] at c1
  have e:aboveN N d=(p:Int):=by unfold aboveN; rw [hl,hp]
  rw [e]
  clear h e hl
  go_enter Tryz.func163,Tryz.ntmps163
  go_wp2_with fail
  go_ret
  exact ⟨rfl,rfl⟩
 | some x =>
  rw [ldV_some hl] at c1
  have e:aboveN N d=max (p:Int) x.2.seen:=by unfold aboveN; rw [hl,hp]
  rw [e]
  have HL:=hid (h.lds d hd x hl)
  clear h e hl
  go_enter Tryz.func163,Tryz.ntmps163
  go_wp2_with fail
  refine (ldSeen_any HL.out).mono ?_
  rintro e w1 ⟨rfl,hx⟩
  subst w1
  go_wp2_with fail
  go_ret
  exact ⟨rfl,rfl⟩
theorem attempt_is (s:Nat) (a:Int) (h:WD w0 w C X zs V m) (hs:s<zs.length) (h0:0≤a) (h1:a≤1048576) :
  Calls Tryz.prog 162 #[.pointer (some ⟨X.xb,0,none⟩),.int .i64 (s:Int),.int .i64 a] w fun e w'=>e=.returned (.int .i64 (attemptX zs.length s a))∧w'=w:=by
 obtain ⟨-,c1,-,-,-⟩:=h.cells
 have n7:=h.n7
 obtain ⟨n,hn⟩:∃ n,zs.length=n:=⟨_,rfl⟩
 rw [hn] at c1 n7 hs ⊢
 clear h hn
 go_enter Tryz.func162,Tryz.ntmps162
 go_wp2_with fail
 go_ret
 refine ⟨?_,rfl⟩
 have hp:(0:Int)<n:=by omega
 have r0:=Int.emod_nonneg (a+1) (show (n:Int)≠0 by omega)
 have r1:=Int.emod_lt_of_pos (a+1) hp
 have e1:wrap64 ((s:Int)+n - (a+1) % n)=(s:Int)+n - (a+1) % n:=wrap64_inV _ (by omega)
 have e2:((s:Int)+n - (a+1) % n).tmod n=((s:Int)+n - (a+1) % n) % n:=Int.tmod_eq_emod_of_nonneg (by omega)
 have q0:=Int.emod_nonneg ((s:Int)+n - (a+1) % n) (show (n:Int)≠0 by omega)
 have q1:=Int.emod_lt_of_pos ((s:Int)+n - (a+1) % n) hp
 have e3:wrap64 (a+1+(wrap64 ((s:Int)+n - (a+1) % n)).tmod n)=attemptX n s a:=by
  rw [e1,e2,wrap64_inV _ (by omega)]
  rfl
 show Ending.returned (Value.int IntKind.i64 (wrap64 (a+1+(wrap64 ((s:Int)+n - (a+1) % n)).tmod n)))=_
 rw [e3]
theorem attemptX_bd (n s:Nat) (a:Int) (hn:0<n):a+1≤attemptX n s a∧attemptX n s a≤a+n:=by
 unfold attemptX
 have hp:(0:Int)<n:=by omega
 have q0:=Int.emod_nonneg ((s:Int)+n - (a+1) % n) (show (n:Int)≠0 by omega)
 have q1:=Int.emod_lt_of_pos ((s:Int)+n - (a+1) % n) hp
 omega
end
theorem ldTry_far (A:Nat→Addr) (v:Value) (zs:List Int) (id:Nat) (deal att:Int) (w:World) (hv:IsSl w v zs) (hE:Held3 w A) (he:errW zs=0) (hid':id<zs.length) (h0:0≤deal) (h1:deal<6) (a1:1048576<att) :
  Calls Tryz.prog 164 #[.int .i64 (id:Int),.int .i64 deal,v,.int .i64 att] w fun e w'=>e=.returned (.tuple #[.pointer none,.iface 318 (.pointer (some (A 1)))])∧Below w.heap.size w w':=by
 have HC:=hid (ldbegin_ok A v zs id deal att w hv hE he hid' h0 h1)
 have g1:w.cell? ⟨0,0,none⟩=some (.iface 318 (.pointer (some (A 1)))):=hE 1 (by omega) (by omega)
 obtain ⟨a,cap0,rfl,-,-,-⟩:=hv
 have g2:¬ att<1:=by omega
 clear hE he
 go_enter Tryz.func164,Tryz.ntmps164
 go_wp2_with fail
 refine HC.out.mono ?_
 rintro e w1 ⟨lb,b,cap,rfl,hl,hb,hg⟩
 have HB:=hid hb
 have g1':=cell_later hb g1
 clear hl hb hg
 go_wp2_with fail
 go_quiet (fail)
 go_wp2
 go_ret2
 exact ⟨rfl,below_drewN HB.out _⟩
section
variable {w0 w w':World} {C C':Nat→Nat} {K:NB} {X:XB} {i m m':Nat} {zs:List Int} {N:PN} {V V':PX} {A:Nat→Addr}
theorem ND.recolor (h:ND w0 w C K i zs N m) (hi:i≤9) (hC:∀ x,C x<2000→C' x=C x):ND w0 w C' K i zs N m:=by
 have e1:=h.cs; have e2:=h.cj; have e3:=h.cm; have e4:=h.cp; have e5:=h.cq; have e6:=h.cn
 refine ⟨h.row,h.sp,h.lds,(hC _ (by omega)).trans e6,(hC _ (by omega)).trans e1,(hC _ (by omega)).trans e2,(hC _ (by omega)).trans e3,(hC _ (by omega)).trans e4,(hC _ (by omega)).trans e5,fun d hd x hx=>?_,h.n0⟩
 have g:=h.cl d hd x hx
 exact ⟨(hC _ (by omega)).trans g.1,(hC _ (by omega)).trans g.2⟩
theorem WD.recolor (h:WD w0 w C X zs V m) (hC:∀ x,C x<2000→C' x=C x) (hl:∀ x,C' x<2000→x<w.heap.size) (hw:∀ x,C' x<2000→w0.heap.size≤x):WD w0 w C' X zs V m:=by
 have n7:=h.n7.2
 have e1:=h.cx; have e2:=h.cw; have e3:=h.cn; have e4:=h.cm
 exact ⟨h.bel,h.row,h.ws,h.ns,fun i hi=>(h.nds i hi).recolor (by omega) hC,h.brk,h.fly,h.evs,(hC _ (by omega)).trans e1,(hC _ (by omega)).trans e2,(hC _ (by omega)).trans e3,(hC _ (by omega)).trans e4,fun g hg=>(hC g (by have:=h.cf g hg; omega)).trans (h.cf g hg),fun g hg=>(hC g (by have:=h.ce g hg; omega)).trans (h.ce g hg),hl,hw,h.inv⟩
theorem WD.adopt {d lb b cap:Nat} {a:Int} {P:PL} (h:WD w0 w C X zs V m) (hi:i<zs.length) (hd:d<6) (hu:(V.nd i).l≠-2) (hL:LD w lb b cap i d a zs P) (c1:2000≤C lb) (c2:2000≤C b) (h0:w0.heap.size≤b) (ha:0≤a∧a≤1048576) (h1:P.stt<4) (h2:0≤P.seen∧P.seen≤1048576) :
  ∃ C',WD w0 (w.setCell ⟨(X.K i).nd,1+d,none⟩ (.pointer (some ⟨lb,0,none⟩))) C' { X with K:=fun e=>if e=i then putLd (X.K i) d lb b cap else X.K e } zs (setNd V i (setLd (V.nd i) d (a,P))) m∧Kept (OwnX C) w (w.setCell ⟨(X.K i).nd,1+d,none⟩ (.pointer (some ⟨lb,0,none⟩)))∧(∀ x,x≠lb→x≠b→C' x=C x):=by
 have n7:=h.n7.2
 have hbl:=hL.bl
 have hlt:=row_ltJ hL.row
 obtain ⟨C1,hC1⟩:∃ C1,C1=paint (paint C lb (100 * i+10+d)) b (100 * i+20+d):=⟨_,rfl⟩
 have hne:∀ x,x≠lb→x≠b→C1 x=C x:=fun x n1 n2=>by rw [hC1,paint_ne n2,paint_ne n1]
 have e1:C1 lb=100 * i+10+d:=by rw [hC1,paint_ne (by omega),paint_at]
 have e2:C1 b=100 * i+20+d:=by rw [hC1,paint_at]
 have hC:∀ x,C x<2000→C1 x=C x:=fun x hx=>hne x (fun e=>by rw [e] at hx; omega) (fun e=>by rw [e] at hx; omega)
 have hcase:∀ x,C1 x<2000→C x<2000 ∨ x=lb ∨ x=b:=fun x hx=>by
  by_cases n1:x=lb
  ·exact .inr (.inl n1)
  ·by_cases n2:x=b
   ·exact .inr (.inr n2)
   ·rw [hne x n1 n2] at hx; exact .inl hx
 have hg:=h.recolor (C':=C1) hC (fun x hx=>by
   rcases hcase x hx with q|q|q
   ·exact h.lt x q
   ·rw [q]; exact hlt
   ·rw [q]; omega) (fun x hx=>by
   rcases hcase x hx with q|q|q
   ·exact h.low x q
   ·rw [q]; omega
   ·rw [q]; exact h0)
 have hcn:=(h.nds i hi).cn
 have hcn1:=(hg.nds i hi).cn
 have hni:=(h.inv.nd i hi).putLead (d:=d) hu ha h1 h2 hL.pw
 refine ⟨C1,?_,(Kept.refl _ w).setCell (show C (X.K i).nd<2000 by omega) _,hne⟩
 exact hg.node (S:=In1 (X.K i).nd) ((Kept.refl _ w).set1 _ _) hi (fun x hx=>by rw [show x=_ from hx]; omega) (fun _ _=>rfl) (fun x hx hc=>by have:=hg.lt x hc; omega) ((hg.nds i hi).putLead hd hL e1 e2 (h.nds i hi).n0) rfl (Nat.le_refl _) (h.inv.node hni (Nat.le_refl _))
theorem aboveN_bd {n d:Nat} (h:NI n N m) (hd:d<6):0≤aboveN N d∧aboveN N d≤1048576:=by
 have hg:=(h.gd d hd).2.1
 have e:(stN N d).pr=(dlN N d).2.pr:=rfl
 unfold aboveN
 cases hl:N.ld d with
 | none=>simp only; omega
 | some x =>
  have:=(h.ld d x hl).2.2.2.1
  simp only
  omega
theorem electF_fi {n s d:Nat} {a:Int} (hs:s<n) (hn:n≤7) (hd:d<6) (ha:0≤a∧a≤1048576):FI n (electF s d a):=by
 refine ⟨by show (0:Int)≤s; omega,by show (s:Int)<n; omega,by show (0:Int)≤s; omega,by show (s:Int)<n; omega,⟨?_,?_,?_,?_,ha,⟨?_,?_,?_⟩⟩⟩
 ·show (0:Int)≤s∧(s:Int)≤6; omega
 ·show (0:Int)≤s∧(s:Int)≤6; omega
 ·show (0:Int)≤d∧(d:Int)≤5; omega
 ·show (1:Int)≤3∧(3:Int)≤7; omega
 ·show (0:Int)≤0∧(0:Int)≤5; omega
 ·show (0:Int)≤0∧(0:Int)≤1048576; omega
 ·show (0:Int)≤0∧(0:Int)≤1048576; omega
theorem electL_fi {n s d:Nat} {a:Int} (hs:s<n) (hn:n≤7) (hd:d<6) (ha:0≤a∧a≤1048576):(∀ f,f∈electsL s d a n→FI n f)∧(electsL s d a n).length≤1000:=by
 unfold electsL
 refine ⟨fun f hf=>toL_fi hs hn hd (by decide) ha (by decide) n (Nat.le_refl _) f (List.mem_of_mem_eraseIdx hf),?_⟩
 have:=List.length_eraseIdx_le (toL s d 3 a 0 n) s
 rw [toL_length] at this
 omega
theorem hearX_nd (V:PX) (i:Nat) (f:F9):(hearX V i f).nd i=hearN (V.nd i) f:=by
 unfold hearX setNd
 simp
theorem try_far (s d p:Nat) (h:WD w0 w C X zs V m) (hE:Held9 w0 A) (hs:s<zs.length) (hd:d<6) (hp:(stN (V.nd s) d).pr=p) (ha:1048576<attemptX zs.length s (aboveN (V.nd s) d)) :
  Calls Tryz.prog 111 #[.pointer (some ⟨X.xb,0,none⟩),.int .i64 (s:Int),.int .i64 (d:Int),.int .i64 (p:Int)] w fun e w'=>e=.returned (.tuple #[])∧Below w.heap.size w w':=by
 obtain ⟨c0,c1,-,-,-⟩:=h.cells
 have c2:=h.ns s hs
 have n7:=h.n7
 have H:=hid h
 have HE:=hid hE
 have HS:=hid hs
 have HP:=hid hp
 have hbd:=aboveN_bd (h.inv.nd s hs) hd
 obtain ⟨n,hn⟩:∃ n,Hid (zs.length=n):=⟨_,rfl⟩
 have HA:=hid (attempt_is s (aboveN (V.nd s) d) h hs hbd.1 hbd.2)
 have HSe:=hid (seen_is d p (h.nds s hs) hd hp)
 have HT:=hid (ldTry_far A _ zs s (d:Int) _ w h.sl (h.held hE).to3 h.inv.he hs (by omega) (by omega) ha)
 rw [hn.out] at c0 c1 hs HA HT ha n7
 generalize aboveN (V.nd s) d=ab at HA HSe HT ha hbd
 generalize attemptX n s ab=at_ at HA HT ha
 clear h hE hp
 go_enter Tryz.func111,Tryz.ntmps111
 go_wp2_with fail
 refine HSe.out.mono ?_
 rintro e w1 ⟨rfl,hx⟩
 subst w1
 go_wp2_with fail
 refine HA.out.mono ?_
 rintro e w1 ⟨rfl,hx⟩
 subst w1
 go_wp2_with fail
 refine HT.out.mono ?_
 rintro e w1 ⟨rfl,hb⟩
 have HB:=hid hb
 clear hb
 go_wp2_with fail
 refine bodyPost_ret (results_none rfl _ _ _) rfl ?_
 exact ⟨rfl,HB.out⟩
theorem FrF.adopt {base:Nat} {v:Value} {L:List F9} (h:FrF w C base v L) (k:Kept (OwnX C) w w') (hC:∀ x,base≤x→C' x=C x):FrF w' C' base v L:=by
 obtain ⟨ad,cap,e,hf,hg⟩:=h.kept (C':=C) k (fun _ _=>rfl)
 exact ⟨ad,cap,e,hf,fun hne p hp=>by have:=hg hne p hp; exact ⟨by rw [hC _ this.2.2]; exact this.1,this.2⟩⟩
theorem try_down (s d p an:Nat) (h:WD w0 w C X zs V m) (hE:Held9 w0 A) (hs:s<zs.length) (hd:d<6) (hu:(V.nd s).l≠-2) (hm:m<1000000) (hp:(stN (V.nd s) d).pr=p) (ha:attemptX zs.length s (aboveN (V.nd s) d)=an) (ha1:1≤an) (ha2:an≤1048576) (hdn:upN (hearN (V.nd s) (electF s d an))=false) (HAns:Hid (ansN s (V.nd s) (electF s d an)=[])) :
  Calls Tryz.prog 111 #[.pointer (some ⟨X.xb,0,none⟩),.int .i64 (s:Int),.int .i64 (d:Int),.int .i64 (p:Int)] w fun e w'=>e=.returned (.tuple #[])∧WOut w0 w w' C X zs (hearX V s (electF s d an)) (m+2):=by
 have HDn:=hid hdn
 clear hdn
 obtain ⟨c0,c1,-,-,-⟩:=h.cells
 have c2:=h.ns s hs
 have n7:=h.n7
 have H:=hid h
 have HE:=hid hE
 have HS:=hid hs
 have HU:=hid hu
 have hbd:=aboveN_bd (h.inv.nd s hs) hd
 obtain ⟨n,hn⟩:∃ n,Hid (zs.length=n):=⟨_,rfl⟩
 have HA:=hid (attempt_is s (aboveN (V.nd s) d) h hs hbd.1 hbd.2)
 rw [ha] at HA
 have HSe:=hid (seen_is d p (h.nds s hs) hd hp)
 have HT:=hid (ldTry_ok A _ zs s (d:Int) (an:Int) w h.sl (h.held hE).to3 h.inv.he hs (by omega) (by omega) (by omega) (by omega))
 have HFI:=hid (electF_fi (a:=(an:Int)) hs n7.2 hd (by omega))
 rw [hn.out] at c0 c1 hs HT n7
 generalize aboveN (V.nd s) d=ab at HA HSe hbd ha
 clear h hE hp hu ha
 go_enter Tryz.func111,Tryz.ntmps111
 go_wp2_with fail
 refine HSe.out.mono ?_
 rintro e w1 ⟨rfl,hx⟩
 subst w1
 go_wp2_with fail
 refine HA.out.mono ?_
 rintro e w1 ⟨rfl,hx⟩
 subst w1
 go_wp2_with fail
 refine HT.out.mono ?_
 rintro e w1 ⟨lb,b,cap,rfl,hl,hb,hlb⟩
 have H1:=hid (H.out.later hb)
 have HL1:=hid hl
 have HB1:=hid hb
 have hbl:=hl.bl
 have HCl:Hid (2000≤C lb∧2000≤C b):=by
  constructor
  ·rcases Nat.lt_or_ge (C lb) 2000 with q|q
   ·have:=H.out.lt _ q; omega
   ·exact q
  ·rcases Nat.lt_or_ge (C b) 2000 with q|q
   ·have:=H.out.lt _ q; omega
   ·exact q
 have HHe:=hid (whear_any s d 3 an 0 0 0 false (electF s d an) rfl H1.out HE.out HS.out HU.out HFI.out hm)
 rw [show ((3:Nat):Int)=3 from rfl,show ((0:Nat):Int)=0 from rfl,HAns.out] at HHe
 clear hl hb
 go_wp2_with fail
 refine HHe.out.mono ?_
 rintro e w2 ⟨v,rfl,C2,X2,g1,g2,g3,g4,-⟩
 obtain ⟨d0,d1,d2⟩:=(g1.nds s HS.out).way
 rw [key_nd g2] at d0
 have HPl:=hid (g1.nds s HS.out).sp.jp.pl
 have HDn2:Hid ((((hearX V s (electF s d an)).nd s).l != -2)=false):=by rw [hearX_nd]; exact HDn.out
 have HG:=hid (And.intro g1 (And.intro g2 (And.intro g3 g4)))
 clear g1 g2 g3 g4
 go_wp2_with fail
 refine (power_b _ _ _ _ false w2 HPl.out HDn2.out).mono ?_
 rintro e w3 ⟨rfl,hx⟩
 subst w3
 go_wp2_with fail
 refine bodyPost_ret (results_none rfl _ _ _) rfl ?_
 refine ⟨rfl,?_⟩
 exact WOut.step (C1:=C) (X1:=X) rfl (Kept.of_below HB1.out) (fun _ _=>rfl) ⟨C2,X2,HG.out.1,HG.out.2.1,HG.out.2.2.1,HG.out.2.2.2⟩
theorem try_eq (s d:Nat) (a:Int) (f0:F9) (hA:ansN s (V.nd s) (electF s d a)=[f0]) (ha:¬ 1048576<a) (hup:upN (hearN (V.nd s) (electF s d a))=true) :
  sendX (leadX zs (sendX (setNd (hearX V s (electF s d a)) s (setLd ((hearX V s (electF s d a)).nd s) d (a,P0))) (electsL s d a zs.length)) s d f0) (leadO zs (sendX (setNd (hearX V s (electF s d a)) s (setLd ((hearX V s (electF s d a)).nd s) d (a,P0))) (electsL s d a zs.length)) s d f0)=tryX zs V s d a:=by
 have hl:((sendX (setNd (hearX V s (electF s d a)) s (setLd ((hearX V s (electF s d a)).nd s) d (a,P0))) (electsL s d a zs.length)).nd s).ld d=some (a,P0):=by
  simp [sendX,setNd,setLd]
 have e1:∀ W:PX,(W.nd s).ld d=some (a,P0)→leadX zs W s d f0=setNd W s (setLd (W.nd s) d (a,(phear zs s d a P0 f0).1)):=fun W hW=>by unfold leadX; rw [hW]
 have e2:∀ W:PX,(W.nd s).ld d=some (a,P0)→leadO zs W s d f0=outL s d a zs.length (phear zs s d a P0 f0).2:=fun W hW=>by unfold leadO; rw [hW]
 rw [e1 _ hl,e2 _ hl]
 unfold tryX
 rw [if_neg ha,if_neg (by rw [hup]; decide),hA,hearX_nd]
 have eN:∀ N:PN,setLd (setLd N d (a,P0)) d (a,(phear zs s d a P0 f0).1)=setLd N d (a,(phear zs s d a P0 f0).1):=fun N=>by
  unfold setLd
  simp only
  congr 1
  funext e
  split <;> rfl
 unfold sendX setNd hearsL hearsL electsL electL
 simp only [if_true,eN,List.append_nil,List.append_assoc]
 congr 1
 funext e
 split <;> rfl
theorem try_up (s d p an:Nat) (f0:F9) (h:WD w0 w C X zs V m) (hE:Held9 w0 A) (hs:s<zs.length) (hd:d<6) (hu:(V.nd s).l≠-2) (hm:m<1000000) (hp:(stN (V.nd s) d).pr=p) (ha:attemptX zs.length s (aboveN (V.nd s) d)=an) (ha1:1≤an) (ha2:an≤1048576) (hdn:upN (hearN (V.nd s) (electF s d an))=true) (HAns:Hid (ansN s (V.nd s) (electF s d an)=[f0])) (hf0:FI zs.length f0) :
  Calls Tryz.prog 111 #[.pointer (some ⟨X.xb,0,none⟩),.int .i64 (s:Int),.int .i64 (d:Int),.int .i64 (p:Int)] w fun e w'=>e=.returned (.tuple #[])∧WOut w0 w w' C X zs (tryX zs V s d an) (m+5):=by
 have HDn:=hid hdn
 have HF0:=hid hf0
 clear hdn hf0
 obtain ⟨c0,c1,-,-,-⟩:=h.cells
 have c2:=h.ns s hs
 have n7:=h.n7
 have H:=hid h
 have HE:=hid hE
 have HS:=hid hs
 have HU:=hid hu
 have hbd:=aboveN_bd (h.inv.nd s hs) hd
 obtain ⟨n,hn⟩:∃ n,Hid (zs.length=n):=⟨_,rfl⟩
 have HA:=hid (attempt_is s (aboveN (V.nd s) d) h hs hbd.1 hbd.2)
 rw [ha] at HA
 have HSe:=hid (seen_is d p (h.nds s hs) hd hp)
 have HT:=hid (ldTry_ok A _ zs s (d:Int) (an:Int) w h.sl (h.held hE).to3 h.inv.he hs (by omega) (by omega) (by omega) (by omega))
 have HFI:=hid (electF_fi (a:=(an:Int)) hs n7.2 hd (by omega))
 rw [hn.out] at c0 c1 hs HT n7
 generalize aboveN (V.nd s) d=ab at HA HSe hbd ha
 clear h hE hp hu ha
 go_enter Tryz.func111,Tryz.ntmps111
 go_wp2_with fail
 refine HSe.out.mono ?_
 rintro e w1 ⟨rfl,hx⟩
 subst w1
 go_wp2_with fail
 refine HA.out.mono ?_
 rintro e w1 ⟨rfl,hx⟩
 subst w1
 go_wp2_with fail
 refine HT.out.mono ?_
 rintro e w1 ⟨lb,b,cap,rfl,hl,hb,hlb⟩
 have H1:=hid (H.out.later hb)
 have HL1:=hid hl
 have HB1:=hid hb
 have hbl:=hl.bl
 have HCl:Hid (2000≤C lb∧2000≤C b):=by
  constructor
  ·rcases Nat.lt_or_ge (C lb) 2000 with q|q
   ·have:=H.out.lt _ q; omega
   ·exact q
  ·rcases Nat.lt_or_ge (C b) 2000 with q|q
   ·have:=H.out.lt _ q; omega
   ·exact q
 have HHe:=hid (whear_any s d 3 an 0 0 0 false (electF s d an) rfl H1.out HE.out HS.out HU.out HFI.out hm)
 rw [show ((3:Nat):Int)=3 from rfl,show ((0:Nat):Int)=0 from rfl,HAns.out] at HHe
 clear hl hb
 go_wp2_with fail
 have HHe2:Hid (Calls Tryz.prog 165 #[.pointer (some ⟨X.xb,0,none⟩),frV (s:Int) (s:Int) (d:Int) 3 (an:Int) false 0 0 0] w1 fun e w2=>∃ g off cp,e=.returned (.slice (some ⟨g,off,none⟩) 1 cp)∧∃ C2 X2,WD w0 w2 C2 X2 zs (hearX V s (electF s d an)) (m+2)∧key X2=key X∧Kept (OwnX C) w1 w2∧(∀ x,x<w1.heap.size→C2 x=C x)∧FrF w2 C2 w1.heap.size (.slice (some ⟨g,off,none⟩) 1 cp) [f0]):=by
  refine HHe.out.mono ?_
  rintro e w2 ⟨v,rfl,C2,X2,g1,g2,g3,g4,g5⟩
  have g6:=g5
  obtain ⟨ad,cp,rfl,hf,-⟩:=g5
  obtain ⟨g,off,rfl,-⟩:=hf 0 (by simp)
  exact ⟨g,off,cp,rfl,C2,X2,g1,g2,g3,g4,g6⟩
 clear HHe
 refine HHe2.out.mono ?_
 rintro e w2 ⟨g,off,cp,rfl,C2,X2,g1,g2,g3,g4,g5⟩
 obtain ⟨d0,d1,d2⟩:=(g1.nds s HS.out).way
 rw [key_nd g2] at d0
 have HPl:=hid (g1.nds s HS.out).sp.jp.pl
 have HDn2:Hid ((((hearX V s (electF s d an)).nd s).l != -2)=true):=by rw [hearX_nd]; exact HDn.out
 have hlw:=row_ltJ HL1.out.row
 have HL2:Hid (LD w2 lb b cap s d an zs P0):=HL1.out.kept g3 (fun e=>by have h1:C lb<2000:=e; have:=HCl.out.1; omega) (fun e=>by have h1:C b<2000:=e; have:=HCl.out.2; omega)
 have hup2:((hearX V s (electF s d an)).nd s).l≠-2:=by have:=HDn2.out; simpa using this
 obtain ⟨C3,q1,q2,q3⟩:=g1.adopt HS.out hd hup2 HL2.out (by rw [g4 _ hlw]; exact HCl.out.1) (by rw [g4 _ (by omega)]; exact HCl.out.2) (by have:=H.out.bel.size; omega) (by omega) (by decide) (by decide)
 rw [key_nd g2] at q1 q2
 obtain ⟨W3,HW3⟩:∃ W3,Hid (w2.setCell ⟨(X.K s).nd,1+d,none⟩ (.pointer (some ⟨lb,0,none⟩))=W3):=⟨_,rfl⟩
 have hW3:=HW3.out
 rw [hW3] at q1 q2
 have HFr3:=hid (g5.adopt q2 (fun x hx=>q3 x (by omega) (by omega)))
 have c1n:=(g1.nds s HS.out).lead hd
 have z1n:=(g1.nds s HS.out).fz (1+d)
 rw [key_nd g2] at c1n z1n
 obtain ⟨X3,HX3⟩:∃ X3:XB,Hid (({ X2 with K:=fun e=>if e=s then putLd (X2.K s) d lb b cap else X2.K e }:XB)=X3):=⟨_,rfl⟩
 have HKX:Hid (key X3=key X):=by rw [← HX3.out]; exact (key_K (i:=s) (K:=putLd (X2.K s) d lb b cap) rfl).trans g2
 have HKL:Hid ((X3.K s).lb d=lb∧(X3.K s).b d=b∧(X3.K s).cap d=cap):=by rw [← HX3.out]; exact ⟨by simp [putLd],by simp [putLd],by simp [putLd]⟩
 rw [HX3.out] at q1
 have HLD:Hid (LD W3 lb b cap s d an zs P0):=by
  have:=(q1.nds s HS.out).lds d hd (an,P0) (by simp [setNd,setLd])
  rw [HKL.out.1,HKL.out.2.1,HKL.out.2.2] at this
  exact this
 have HC3:Hid (∀ x,x<w.heap.size→C3 x=C x):=fun x hx=>by
  have hb1:=HB1.out.size
  rw [q3 x (by omega) (by omega)]
  exact g4 x (by omega)
 have HK3:Hid (Kept (OwnX C) w W3):=by
  have hb1:=HB1.out.size
  have k2:Kept (OwnX C) w w2:=(Kept.of_below HB1.out).trans g3
  refine ⟨q2.os.trans k2.os,q2.tape.trans k2.tape,q2.output.trans k2.output,Nat.le_trans k2.size q2.size,fun x hx hn=>?_⟩
  exact (q2.block x (Nat.lt_of_lt_of_le hx k2.size) (fun e=>hn (by have h1:C2 x<2000:=e; rw [g4 x (by omega)] at h1; exact h1))).trans (k2.block x hx hn)
 have HQ:=hid q1
 clear g1 g2 g3 g4 g5 q1 q2 q3
 go_wp2_with fail
 refine (power_b _ _ _ _ true w2 HPl.out HDn2.out).mono ?_
 rintro e w4 ⟨rfl,hx⟩
 subst w4
 go_wp2_with fail
 refine (ldStart1_any (by rw [hn.out]; exact n7.2) HS.out (by omega) HLD.out).mono ?_
 rintro e w5 ⟨v5,rfl,hf5,hb5⟩
 have HSd:=hid (send_any v5 _ (HQ.out.later hb5) hf5.fr (electL_fi HS.out (by rw [hn.out]; exact n7.2) hd (by omega)).1 (electL_fi HS.out (by rw [hn.out]; exact n7.2) hd (by omega)).2 (by omega))
 rw [key_xb HKX.out] at HSd
 have HFr5:=hid (HFr3.out.kept (Kept.of_below hb5) (fun _ _=>rfl))
 have HB5:=hid hb5
 clear hf5 hb5
 go_wp2_with fail
 refine HSd.out.mono ?_
 rintro e w6 ⟨rfl,C6,v6,y1,y2,y3⟩
 have HFr6:=hid (HFr5.out.kept y2 y3)
 obtain ⟨V6,HV6⟩:∃ V6,Hid (sendX (setNd (hearX V s (electF s d an)) s (setLd ((hearX V s (electF s d an)).nd s) d (an,P0))) (electsL s d an zs.length)=V6):=⟨_,rfl⟩
 have HFin:Hid (sendX (leadX zs V6 s d f0) (leadO zs V6 s d f0)=tryX zs V s d an):=by rw [← HV6.out]; exact try_eq s d an f0 HAns.out (by omega) HDn.out
 have HLd6:Hid ((V6.nd s).ld d=some ((an:Int),P0)):=by rw [← HV6.out]; show _=_; simp [sendX,setNd,setLd]
 rw [HV6.out] at y1
 obtain ⟨X6,HX6⟩:∃ X6:XB,Hid (({ X3 with fv:=v6 }:XB)=X6):=⟨_,rfl⟩
 have HK6:Hid (key X6=key X3):=by rw [← HX6.out]; exact rfl
 have HKL6:Hid ((X6.K s).lb d=lb∧(X6.K s).b d=b∧(X6.K s).cap d=cap):=by rw [← HX6.out]; exact HKL.out
 obtain ⟨X6',HX6'⟩:∃ X6':XB,Hid (X6'={ X3 with xb:=X.xb,fv:=v6 }):=⟨_,rfl⟩
 have HE6:Hid (X6'=X6):=by rw [HX6'.out,← HX6.out,← key_xb HKX.out]; exact rfl
 have HY1:Hid (WD w0 w6 C6 X6 zs V6 (m+2+1)):=by rw [← HE6.out,HX6'.out]; exact y1
 have HY:=hid (And.intro y2 y3)
 have HLD6:Hid (LD w6 lb b cap s d an zs P0):=by
  have:=(HY1.out.nds s HS.out).lds d hd _ HLd6.out
  rw [HKL6.out.1,HKL6.out.2.1,HKL6.out.2.2] at this
  exact this
 obtain ⟨ad6,cp6,hv6,hfl6,-⟩:=HFr6.out
 obtain ⟨gg,oo,hgo,hcl⟩:=hfl6 0 (by simp)
 have hgo2:(some ⟨g,off,none⟩:Option Addr)=some ⟨gg,oo,none⟩:=by
  have h1:(Value.slice (some ⟨g,off,none⟩) 1 cp)=.slice ad6 1 cp6:=hv6
  have h2:(some ⟨g,off,none⟩:Option Addr)=ad6:=by injection h1
  rw [h2,hgo]
 have hgo3:(⟨g,off,none⟩:Addr)=⟨gg,oo,none⟩:=Option.some.inj hgo2
 have hg1:g=gg:=congrArg Addr.block hgo3
 have hg2:off=oo:=congrArg Addr.off hgo3
 rw [← hg1,← hg2] at hcl
 obtain ⟨ff,ft,fd,fk,fa,fy,fp1,fp2,fp3⟩:=f0
 obtain ⟨t0,t1,t2,t3,t4,t5,t6,t7,t8⟩:=nineO (o:=off) (fun j hj=>by have:=hcl j hj; rw [show off+0 * 9+j=off+j by omega] at this; exact this)
 simp only [List.getElem_cons_zero] at t0 t1 t2 t3 t4 t5 t6 t7 t8
 obtain ⟨W7,HW7⟩:∃ W7,Hid (w6.alloc (.cells #[.int .i64 ff,.int .i64 ft,.int .i64 fd,.int .i64 fk,.int .i64 fa,.bool fy,.int .i64 fp1,.int .i64 fp2,.int .i64 fp3] 125)=W7):=⟨_,rfl⟩
 have hW7:=HW7.out
 have HB7:Hid (Below w6.heap.size w6 W7):=by rw [← HW7.out]; exact (Below.refl _ _).alloc (Nat.le_refl _) _
 have HR7:Hid (W7.heap[w6.heap.size]? = some (.cells #[.int .i64 ff,.int .i64 ft,.int .i64 fd,.int .i64 fk,.int .i64 fa,.bool fy,.int .i64 fp1,.int .i64 fp2,.int .i64 fp3] 125 (0,0))):=by rw [← HW7.out]; exact heap_alloc_new w6 _
 obtain ⟨b0,b1,b2,b3,b4,b5,b6,b7,b8⟩:=nine HR7.out
 have HHr:=hid (ldhear_any A ff ft fd fk fa fy fp1 fp2 fp3 H.out.inv.he (by decide) ((HY1.out.later HB7.out).held HE.out).to3 (HLD6.out.later HB7.out))
 clear y1 y2 y3 hv6 hfl6 hgo hcl hgo2 hgo3 hg1 hg2
 go_wp2_with fail
 refine wp_loop_rounds 2 ?_
 rw [rounds_succ]
 go_wp2_with fail
 refine HHr.out.mono ?_
 rintro e w8 ⟨v8,rfl,hf8,hl8,hk8⟩
 have HLO:=hid (lead_out (i:=s) (d:=d) (x:=((an:Int),P0)) (F:=⟨ff,ft,fd,fk,fa,fy,fp1,fp2,fp3⟩) (v:=v8) HY1.out HB7.out HS.out hd HLd6.out hf8 (by rw [HKL6.out.1,HKL6.out.2.1,HKL6.out.2.2]; exact hl8) (by rw [HKL6.out.1]; exact hk8) HF0.out)
 obtain ⟨C9,X9,r1,r2,r3,r4,r5⟩:=HLO.out
 have HO9:Hid ((∀ f,f∈leadO zs V6 s d ⟨ff,ft,fd,fk,fa,fy,fp1,fp2,fp3⟩→FI zs.length f)∧(leadO zs V6 s d ⟨ff,ft,fd,fk,fa,fy,fp1,fp2,fp3⟩).length≤1000):=by
  unfold leadO
  rw [HLd6.out]
  exact ⟨outL_fi HS.out (by rw [hn.out]; exact n7.2) hd (by show (0:Int)≤an∧(an:Int)≤1048576; omega),Nat.le_trans (outL_le _ _ _ _ _) (by rw [hn.out]; omega)⟩
 have HS9:=hid (send_any v8 _ r1 r5.fr HO9.out.1 HO9.out.2 (by omega))
 rw [key_xb r2,key_xb HK6.out,key_xb HKX.out] at HS9
 have HR9:=hid (And.intro r2 (And.intro r3 r4))
 clear hf8 hl8 hk8 r1 r2 r3 r4 r5
 go_wp2_with fail
 refine HS9.out.mono ?_
 rintro e w10 ⟨rfl,C10,v10,y1,y2,y3⟩
 have HY10:=hid (And.intro y1 (And.intro y2 y3))
 clear y1 y2 y3
 go_wp2_with fail
 rw [rounds_succ]
 go_wp2_with fail
 go_end0
 refine ⟨rfl,?_⟩
 rw [← HFin.out]
 refine WOut.step (C1:=C3) (X1:=X3) HKX.out HK3.out HC3.out ?_
 refine WOut.step (C1:=C3) (X1:=X3) rfl (Kept.of_below HB5.out) (fun _ _=>rfl) ?_
 refine WOut.step (C1:=C6) (X1:=X6) HK6.out HY.out.1 HY.out.2 ?_
 refine WOut.step (C1:=C9) (X1:=X9) HR9.out.1 HR9.out.2.1 HR9.out.2.2 ?_
 exact ⟨C10,_,HY10.out.1,(by unfold key; exact Prod.ext (key_xb (HR9.out.1.trans (HK6.out.trans HKX.out))).symm rfl),HY10.out.2.1,HY10.out.2.2⟩
end
def drawnO:Code→Option (Array Oper)
 | .region _ ops d=>if d then some ops else none
 | .seq a b=>(drawnO a).orElse fun _=>drawnO b
 | .block _ b=>drawnO b
 | _=>none
def drawnF (f:Func):Array Oper:=(f.body.bind drawnO).getD #[]
def opNo:Oper:={ dst:=none,op:=.move (.tmp 0),type:=0,pos:= "",after:=#[],guard:=none }
def opIn (f:Func) (k:Nat):Oper:=((drawnF f)[k]?).getD opNo
def partO (o:Oper):Op×Option Nat×Option (Nat×Bool):=(o.op,o.dst,o.guard)
theorem opIn_at {f:Func} {k:Nat} (h:k<(drawnF f).size):(drawnF f)[k]? = some (opIn f k):=by
 unfold opIn
 rw [Array.getElem?_eq_getElem h]; rfl
theorem partO_of {f:Func} {n:Nat} {g:Nat→Nat} {p:Nat→Op×Option Nat×Option (Nat×Bool)} (h:(List.range n).map (fun i=>partO (opIn f (g i)))=(List.range n).map p) {i:Nat} (hi:i<n):(opIn f (g i)).op=(p i).1∧(opIn f (g i)).dst=(p i).2.1∧(opIn f (g i)).guard=(p i).2.2:=by
 have:=List.map_inj_left.1 h i (List.mem_range.2 hi)
 rw [← this]
 exact ⟨rfl,rfl,rfl⟩
theorem cm_size:(drawnF Tryz.f17).size=79:=by kernel_rfl
theorem cm_depsB:((drawnF Tryz.f17).toList.zipIdx.all fun p=>p.1.after.all fun e=>decide (e.on<p.2))=true:=by kernel_rfl
theorem cm_deps:∀ (i:Nat) (o:Oper),(drawnF Tryz.f17)[i]? = some o→∀ e,e∈o.after.toList→e.on<i:=by
 intro i o ho e he
 have h1:(o,i)∈(drawnF Tryz.f17).toList.zipIdx:=by
  rw [List.mem_zipIdx_iff_getElem?,← ho]; simp
 have h2:=List.all_eq_true.1 cm_depsB _ h1
 simp only [Array.all_eq_true'] at h2
 exact of_decide_eq_true (h2 e (Array.mem_toList_iff.1 he))
theorem cm_map:partO (opIn Tryz.f17 0)=(Op.makeMap 48 none,some 3,none):=by kernel_rfl
theorem cm_load:(List.range 19).map (fun i=>partO (opIn Tryz.f17 (4 * i+1)))=(List.range 19).map (fun i=>(Op.load 44 (.tmp 1),some (3 * i+4),none)):=by kernel_rfl
theorem cm_func:(List.range 19).map (fun i=>partO (opIn Tryz.f17 (4 * i+2)))=(List.range 19).map (fun i=>(if i=0 then Op.makeFunc (.func 36) #[.tmp 4] #[] else Op.makeFunc (.func (fnO i)) #[] #[.tmp 1],some (3 * i+5),none)):=by kernel_rfl
theorem cm_does:(List.range 12).map (fun i=>partO (opIn Tryz.f17 (4 * (i+1)+3)))=(List.range 12).map (fun i=>(Op.call { callee:=.value (.func 37),args:=#[.tmp (3 * (i+1)+4),.const (.string (formB (i+1))),.tmp (3 * (i+1)+5)],argTypes:=#[44,9,87] },some (3 * (i+1)+6),none)):=by kernel_rfl
theorem cm_tells:(List.range 6).map (fun i=>partO (opIn Tryz.f17 (4 * (i+13)+3)))=(List.range 6).map (fun i=>(Op.call { callee:=.value (.func 62),args:=#[.tmp (3 * (i+13)+4),.const (.string (formB (i+13))),.tmp (3 * (i+13)+5)],argTypes:=#[44,9,82] },some (3 * (i+13)+6),none)):=by kernel_rfl
theorem cm_build:partO (opIn Tryz.f17 3)=(Op.build 84 #[(0,.const (.string (formB 0))),(1,.const (.bool true)),(2,.tmp 5)],some 6,none):=by kernel_rfl
theorem cm_ins:(List.range 19).map (fun i=>partO (opIn Tryz.f17 (4 * i+4)))=(List.range 19).map (fun i=>(Op.insert 48 (.tmp 3) (.const (.string ⟨(nameO.getD i []).toArray⟩)) (.tmp (3 * i+6)),none,none)):=by kernel_rfl
theorem cm_end:(List.range 2).map (fun i=>partO (opIn Tryz.f17 (i+77)))=(List.range 2).map (fun i=>(if i=0 then Op.move (.tmp 3) else Op.assign (.tmp 61),if i=0 then some 61 else some 2,none)):=by kernel_rfl
theorem cm_waits:((List.range 19).all fun i=>((opIn Tryz.f17 (4 * i+3)).after.any fun e=>e.on == 4 * i+2 && Region.binds .any e) && (i == 0 || ((opIn Tryz.f17 (4 * i+3)).after.any fun e=>e.on == 4 * i+1 && Region.binds .any e)) && ((opIn Tryz.f17 (4 * i+4)).after.any fun e=>e.on == 0 && Region.binds .any e) && ((opIn Tryz.f17 (4 * i+4)).after.any fun e=>e.on == 4 * i+3 && Region.binds .any e))=true:=by kernel_rfl
theorem cm_waits2:(((opIn Tryz.f17 2).after.any fun e=>e.on == 1 && Region.binds .any e) && ((opIn Tryz.f17 77).after.any fun e=>e.on == 0 && Region.binds .any e) && ((opIn Tryz.f17 78).after.any fun e=>e.on == 77 && Region.binds .any e))=true:=by kernel_rfl
theorem cmdO_lt {s:Bs} {i:Nat} (h:cmdO s=some i):i<19∧nameO[i]? = some s:=by
 unfold cmdO at h
 obtain ⟨h1,h2,-⟩:=List.findIdx?_eq_some_iff_getElem.1 h
 refine ⟨h1,?_⟩
 rw [List.getElem?_eq_getElem h1]
 rw [eq_of_beq h2]
theorem nameO_nodup:nameO.Nodup:=by decide +kernel
theorem cmdO_name {i:Nat} {s:Bs} (h:nameO[i]? = some s):cmdO s=some i:=by
 have hi:i<nameO.length:=by
  rcases Nat.lt_or_ge i nameO.length with q|q
  ·exact q
  ·rw [List.getElem?_eq_none q] at h; cases h
 unfold cmdO
 rw [List.findIdx?_eq_some_iff_getElem]
 rw [List.getElem?_eq_getElem hi] at h
 have hs:=Option.some.inj h
 refine ⟨hi,by rw [hs]; simp,fun j hj=>?_⟩
 intro e
 have e1:=eq_of_beq e
 have:=(List.getElem?_inj (by omega) nameO_nodup).1 ((List.getElem?_eq_getElem (show j<nameO.length by omega)).trans ((congrArg some (e1.trans hs.symm)).trans (List.getElem?_eq_getElem hi).symm))
 omega
def slotO (k:Nat):Nat:=if k=0 then 3 else if k=77 then 61 else if k=78 then 2 else if k % 4=1 then 3 * (k / 4)+4 else if k % 4=2 then 3 * (k / 4)+5 else 3 * (k / 4)+6
theorem slot_ne {k j:Nat} (hk:k<79) (hk4:k=0 ∨ k % 4≠0 ) (hj:j<79) (hj4:j=0 ∨ j % 4≠0) (h:j≠k):slotO k≠slotO j:=by
 unfold slotO
 repeat' split
 all_goals omega
theorem slot1 {i:Nat} (h:i<19):slotO (4 * i+1)=3 * i+4:=by
 unfold slotO
 repeat' split
 all_goals omega
theorem slot2 {i:Nat} (h:i<19):slotO (4 * i+2)=3 * i+5:=by
 unfold slotO
 repeat' split
 all_goals omega
theorem slot3 {i:Nat} (_h:i<19):slotO (4 * i+3)=3 * i+6:=by
 unfold slotO
 repeat' split
 all_goals omega
theorem slot_le {k:Nat} (hk:k<79) (hk4:k=0 ∨ k % 4≠0):2≤slotO k∧slotO k≤61:=by
 unfold slotO
 by_cases h0:k=0
 ·rw [if_pos h0]; omega
 ·rw [if_neg h0]
  by_cases h1:k=77
  ·rw [if_pos h1]; omega
  ·rw [if_neg h1]
   by_cases h2:k=78
   ·rw [if_pos h2]; omega
   ·rw [if_neg h2]
    by_cases h3:k % 4=1
    ·rw [if_pos h3]; omega
    ·rw [if_neg h3]
     by_cases h4:k % 4=2
     ·rw [if_pos h4]; omega
     ·rw [if_neg h4]; omega
theorem four_ne {k:Nat} (hk4:k=0 ∨ k % 4≠0) (i:Nat):4 * i+4≠k:=by omega
def atO (L:Nat→Bool) (a:Act) (s:Bs) (z:DataW Value):DataW Value:=match cmdO s with
 | none=>z
 | some i=>if L (4 * i+4)=true then .held (a.eval (.tmp (3 * i+6))) else z
def MapO (W w:World) (L:Nat→Bool) (a:Act) (f:Nat):Prop:=∃ mb n D,a.eval (.tmp 3)=.map (some mb)∧W.heap.size≤mb∧w.ownsMap Tryz.prog 9 elO mb n D∧n+f≤100∧∀ s z,D.atKey (.string s) z=atO L a s z
structure CiO (df:List Deferred) (W:World) (pb bb f:Nat) (L:Nat→Bool) (a:Act) (w:World):Prop where
 sz:a.tmps.size=62
 df:a.defers=df
 e1:a.eval (.tmp 1)=ptrO bb
 box:BoxO w bb (ptrO pb)
 lb:pb<bb
 lw:pb<W.heap.size
 bel:Below W.heap.size W w
 ld:∀ i,i<19→L (4 * i+1)=true→a.eval (.tmp (3 * i+4))=ptrO pb
 mf:∀ i,i<19→L (4 * i+2)=true→a.eval (.tmp (3 * i+5))=(if i=0 then .func (.func 36) #[ptrO pb] #[] else cloO (fnO i) bb)
 cl:∀ i,i<19→L (4 * i+3)=true→EntO w pb bb i (a.eval (.tmp (3 * i+6)))
 mp:L 0=true→MapO W w L a f
 e61:L 77=true→a.eval (.tmp 61)=a.eval (.tmp 3)
 e2:L 78=true→a.eval (.tmp 2)=a.eval (.tmp 3)
 ord:∀ i,i<19→L (4 * i+4)=true→L (4 * i+3)=true∧L 0=true
 o77:(L 77=true→L 0=true)∧(L 78=true→L 0=true)
section
variable {df:List Deferred} {W w w':World} {pb bb f k:Nat} {L L':Nat→Bool} {a:Act} {v:Value}
theorem ownsMap_later {mb n:Nat} {D:DataW Value} (h:w.ownsMap Tryz.prog 9 elO mb n D) (hb:Below w.heap.size w w'):w'.ownsMap Tryz.prog 9 elO mb n D:=by
 obtain ⟨es,c,h1,h2,h3,h4⟩:=h
 exact ⟨es,c,(hb.block _ (row_ltJ h1)).trans h1,h2,h3,h4⟩
theorem CiO.next (h:CiO df W pb bb (f+1) L a w) (hk:k<79) (hk4:k=0 ∨ k % 4≠0) (hL:L k=false) (hL':∀ j,L' j=if j=k then true else L j) (hb:Below w.heap.size w w')
  (n1:∀ i,i<19→k=4 * i+1→v=ptrO pb) (n2:∀ i,i<19→k=4 * i+2→v=(if i=0 then .func (.func 36) #[ptrO pb] #[] else cloO (fnO i) bb)) (n3:∀ i,i<19→k=4 * i+3→EntO w' pb bb i v)
  (n0:k=0→∃ mb,v=.map (some mb)∧W.heap.size≤mb∧w'.ownsMap Tryz.prog 9 elO mb 0 (.map [])∧f≤100) (n77:k=77→L 0=true∧v=a.eval (.tmp 3)) (n78:k=78→L 0=true∧v=a.eval (.tmp 3)) :
  CiO df W pb bb f L' (a.put (some (slotO k)) v) w':=by
 have ne:∀ j,j<79→(j=0 ∨ j % 4≠0)→j≠k→(a.put (some (slotO k)) v).eval (.tmp (slotO j))=a.eval (.tmp (slotO j)):=fun j h1 h2 h3=>Act.eval_put_ne _ _ _ _ (slot_ne hk hk4 h1 h2 h3)
 have same:(a.put (some (slotO k)) v).eval (.tmp (slotO k))=v:=Act.eval_put_same _ _ _ (by rw [h.sz]; have:=(slot_le hk hk4).2; omega)
 have hLn:∀ j,j≠k→L' j=L j:=fun j hj=>by rw [hL' j,if_neg hj]
 have up:∀ j,L j=true→L' j=true:=fun j hj=>by rw [hL' j]; split <;> simp [hj]
 have st:StayO pb w w':=fun b u _ hbx=>cell_later hb hbx
 have o':∀ i,i<19→L' (4 * i+4)=true→L (4 * i+3)=true∧L 0=true:=fun i hi hq=>by
  rw [hLn _ (four_ne hk4 i)] at hq
  exact h.ord i hi hq
 have s3:k≠0→(a.put (some (slotO k)) v).eval (.tmp 3)=a.eval (.tmp 3):=fun q=>ne 0 (by omega) (.inl rfl) (Ne.symm q)
 refine ⟨(Act.size_put _ _ _).trans h.sz,(Act.defers_put' _ _ _).trans h.df,?_,st _ _ h.lb h.box,h.lb,h.lw,h.bel.trans (hb.mono h.bel.size),fun i hi hq=>?_,fun i hi hq=>?_,fun i hi hq=>?_,fun hq=>?_,fun hq=>?_,fun hq=>?_,fun i hi hq=>?_,?_,?_⟩
 ·exact (Act.eval_put_ne _ _ _ _ (by have:=(slot_le hk hk4).1; omega)).trans h.e1
 ·rw [← slot1 hi]
  by_cases e:4 * i+1=k
  ·rw [e,same]; exact n1 i hi e.symm
  ·rw [ne _ (by omega) (.inr (by omega)) e,slot1 hi]; exact h.ld i hi (by rw [← hLn _ e]; exact hq)
 ·rw [← slot2 hi]
  by_cases e:4 * i+2=k
  ·rw [e,same]; exact n2 i hi e.symm
  ·rw [ne _ (by omega) (.inr (by omega)) e,slot2 hi]; exact h.mf i hi (by rw [← hLn _ e]; exact hq)
 ·rw [← slot3 hi]
  by_cases e:4 * i+3=k
  ·rw [e,same]; exact n3 i hi e.symm
  ·rw [ne _ (by omega) (.inr (by omega)) e,slot3 hi]; exact (h.cl i hi (by rw [← hLn _ e]; exact hq)).stay st
 ·by_cases e:k=0
  ·obtain ⟨mb,q1,q2,q3,q4⟩:=n0 e
   refine ⟨mb,0,_,?_,q2,q3,by omega,fun s z=>?_⟩
   ·subst e; exact same.trans q1
   ·show z=atO _ _ s z
    unfold atO
    split
    ·rfl
    ·rename_i i hc
     rw [if_neg]
     intro hq'
     have:=(o' i (cmdO_lt hc).1 hq').2
     rw [e] at hL
     rw [hL] at this; cases this
  ·obtain ⟨mb,n,D,q1,q2,q3,q4,q5⟩:=h.mp (by rw [← hLn _ (Ne.symm e)]; exact hq)
   refine ⟨mb,n,D,(s3 e).trans q1,q2,ownsMap_later q3 hb,by omega,fun s z=>?_⟩
   rw [q5 s z]
   unfold atO
   split
   ·rfl
   ·rename_i i hc
    have hi:=(cmdO_lt hc).1
    rw [hLn (4 * i+4) (four_ne hk4 i)]
    by_cases hq':L (4 * i+4)=true
    ·rw [if_pos hq',if_pos hq']
     have hne:4 * i+3≠k:=fun e2=>by
      have:=(h.ord i hi hq').1
      rw [e2,hL] at this; cases this
     rw [← slot3 hi,ne _ (by omega) (.inr (by omega)) hne]
    ·rw [if_neg hq',if_neg hq']
 ·by_cases e:k=77
  ·have hq0:=n77 e
   rw [s3 (by omega),← hq0.2]
   rw [e] at same ⊢; exact same
  ·rw [s3 (fun e0=>by
    have h1:=h.o77.1 (by rw [← hLn _ (Ne.symm e)]; exact hq)
    rw [e0] at hL
    rw [hL] at h1; cases h1)]
   exact (ne 77 (by omega) (.inr (by omega)) (Ne.symm e)).trans (h.e61 (by rw [← hLn _ (Ne.symm e)]; exact hq))
 ·by_cases e:k=78
  ·have hq0:=n78 e
   rw [s3 (by omega),← hq0.2]
   rw [e] at same ⊢; exact same
  ·rw [s3 (fun e0=>by
    have h1:=h.o77.2 (by rw [← hLn _ (Ne.symm e)]; exact hq)
    rw [e0] at hL
    rw [hL] at h1; cases h1)]
   exact (ne 78 (by omega) (.inr (by omega)) (Ne.symm e)).trans (h.e2 (by rw [← hLn _ (Ne.symm e)]; exact hq))
 ·obtain ⟨q1,q2⟩:=o' i hi hq
  exact ⟨up _ q1,up _ q2⟩
 ·intro hq
  by_cases e:k=77
  ·exact up _ (n77 e).1
  ·exact up _ (h.o77.1 (by rw [← hLn _ (Ne.symm e)]; exact hq))
 ·intro hq
  by_cases e:k=78
  ·exact up _ (n78 e).1
  ·exact up _ (h.o77.2 (by rw [← hLn _ (Ne.symm e)]; exact hq))
theorem CiO.ins (h:CiO df W pb bb (f+1) L a w) {i:Nat} (hi:i<19) (hk:k=4 * i+4) (hL':∀ j,L' j=if j=k then true else L j) (q0:L 0=true) (q3:L (4 * i+3)=true) :
  ∃ mb w3,a.eval (.tmp 3)=.map (some mb)∧(Instr.mapUpdate 48 (.map (some mb)) (.string ⟨(nameO.getD i []).toArray⟩) (a.eval (.tmp (3 * i+6)))).run Tryz.prog w=.ok () w3∧CiO df W pb bb f L' a w3:=by
 obtain ⟨mb,n,D,m1,m2,m3,m4,m5⟩:=h.mp q0
 have hnm:nameO[i]? = some (nameO.getD i []):=by
  rw [List.getD,List.getElem?_eq_getElem (show i<nameO.length from hi)]; rfl
 have hsz:(⟨(nameO.getD i []).toArray⟩:ByteArray).size≤100:=by
  have:∀ j,j<19→(nameO.getD j []).length≤100:=by decide +kernel
  have:=this i hi
  simpa [ByteArray.size] using this
 have hdl:(⟨(nameO.getD i []).toArray⟩:ByteArray).data.toList=nameO.getD i []:=rfl
 obtain ⟨w3,hrun,o3,hg⟩:=m3.update (key:=.string ⟨(nameO.getD i []).toArray⟩) (val:=a.eval (.tmp (3 * i+6))) (kl:=.string (nameO.getD i [])) (d:=.held (a.eval (.tmp (3 * i+6)))) (ps:=[]) tStr_keyed Tryz.underlying48 (by unfold maxLen; omega) (WideMaps.keyOf_string_mk Tryz.underlying9 (by unfold maxLen; omega)) rfl
 have hmO:=m3
 obtain ⟨es,c,hm,-,-,hDm⟩:=m3
 have st:StayO pb w w3:=fun b u _ hbx=>by
  have h1:=box_map hbx hm
  have h2:b<w.heap.size:=cell_lt hbx
  show w3.cell? ⟨b,0,none⟩=some u
  have h3:=hg.block b h2 (fun e=>h1 (Option.some.inj e))
  rw [show w3.cell? ⟨b,0,none⟩=w.cell? ⟨b,0,none⟩ by simp only [World.cell?,h3]]
  exact hbx
 have hLn:∀ j,j≠k→L' j=L j:=fun j hj=>by rw [hL' j,if_neg hj]
 have hLk:L' k=true:=by rw [hL' k,if_pos rfl]
 refine ⟨mb,w3,m1,hrun,⟨h.sz,h.df,h.e1,st _ _ h.lb h.box,h.lb,h.lw,?_,fun j hj hq=>h.ld j hj (by rw [← hLn _ (by omega)]; exact hq),fun j hj hq=>h.mf j hj (by rw [← hLn _ (by omega)]; exact hq),fun j hj hq=>(h.cl j hj (by rw [← hLn _ (by omega)]; exact hq)).stay st,fun _=>⟨mb,n+1,_,m1,m2,o3,by omega,fun s z=>?_⟩,fun hq=>h.e61 (by rw [← hLn _ (by omega)]; exact hq),fun hq=>h.e2 (by rw [← hLn _ (by omega)]; exact hq),fun j hj hq=>?_,fun hq=>?_,fun hq=>?_⟩⟩
 ·exact Below.grown h.bel hg h.bel.size (fun g hg'=>by obtain rfl:=Option.some.inj hg'; exact m2)
 ·by_cases e:s=nameO.getD i []
  ·subst e
   have hIM:Maps.IsMap D:=⟨_,hDm⟩
   have hIK:WideAt.IsKeyLit (.string (nameO.getD i [])):=True.intro
   rw [Maps.atKey_put_same hIM hIK]
   unfold atO
   rw [cmdO_name hnm]
   simp only
   rw [← hk,hLk,if_pos rfl]
  ·rw [Maps.atKey_put_other (fun e2=>e (by injection e2)),m5 s z]
   unfold atO
   split
   ·rfl
   ·rename_i j hc
    have hj:=(cmdO_lt hc)
    have hne:4 * j+4≠k:=fun e2=>by
     have:j=i:=by omega
     subst this
     exact e (Option.some.inj (hj.2.symm.trans hnm))
    rw [hLn _ hne]
 ·by_cases e:4 * j+4=k
  ·have:j=i:=by omega
   subst this
   exact ⟨by rw [hLn _ (by omega)]; exact q3,by rw [hLn _ (by omega)]; exact q0⟩
  ·obtain ⟨r1,r2⟩:=h.ord j hj (by rw [← hLn _ e]; exact hq)
   exact ⟨by rw [hLn _ (by omega)]; exact r1,by rw [hLn _ (by omega)]; exact r2⟩
 ·rw [hLn _ (by omega)]; exact q0
 ·rw [hLn _ (by omega)]; exact q0
end
theorem ent_does {w w':World} {pb bb i x y z:Nat} {v:Value} {form:ByteArray} (h:DoesO w w' pb form (cloO (fnO i) bb) v x y z) (hi:1≤i∧i≤12) (hf:form=formB i) (hp:pb<w.heap.size):EntO w' pb bb i v:=by
 obtain ⟨rfl,h1,h2,h3,h4,h5,h6⟩:=h
 subst hf
 have hi0:(i == 0)=false:=by simp; omega
 exact ⟨_,by rw [hi0],.inr (.inl ⟨hi.1,hi.2,x,y,z,rfl,h1,h2,h3,by omega,by omega,by omega⟩)⟩
theorem ent_tells {w w':World} {pb bb i x y:Nat} {v:Value} {form:ByteArray} (h:TellO w w' pb form (cloO (fnO i) bb) v x y) (hi:13≤i) (hf:form=formB i) (hp:pb<w.heap.size):EntO w' pb bb i v:=by
 obtain ⟨rfl,h1,h2,h4,h5⟩:=h
 subst hf
 have hi0:(i == 0)=false:=by simp; omega
 exact ⟨_,by rw [hi0],.inr (.inr ⟨hi,x,y,rfl,h1,h2,by omega,by omega⟩)⟩
section
variable {o:Oper} {a:Act} {w w':World} {K:Act→World→Prop} {Q:Exit→Act→World→Prop} {v:Value}
theorem op_value (hr:(execOp a.eval o).run Tryz.prog w=.ok (.value v) w') (h:K (a.put o.dst v) w'):Oper.wp Tryz.prog o a w K Q:=by
 unfold Oper.wp
 rw [hr]; exact h
theorem op_skip (hr:(execOp a.eval o).run Tryz.prog w=.ok .skip w') (h:K (a.put o.dst undef) w'):Oper.wp Tryz.prog o a w K Q:=by
 unfold Oper.wp
 rw [hr]; exact h
theorem ex_load {t:TypeId} {k:Nat} {ad:Addr} (ht:t=44) (ho:o.op=.load t (.tmp k)) (hk:a.eval (.tmp k)=.pointer (some ad)) (hc:w.cell? ad=some v):(execOp a.eval o).run Tryz.prog w=.ok (.value v) w:=by
 subst ht
 have hk2:=eval_form hk
 unfold execOp
 rw [ho]
 go_simp
theorem ex_func {fn:Fn} {k:Nat} (ho:o.op=.makeFunc fn #[] #[.tmp k]) (hk:a.eval (.tmp k)=v):(execOp a.eval o).run Tryz.prog w=.ok (.value (.func fn #[] #[v])) w:=by
 have hk2:=eval_form hk
 unfold execOp
 rw [ho]
 go_simp
theorem ex_bound {fn:Fn} {k:Nat} (ho:o.op=.makeFunc fn #[.tmp k] #[]) (hk:a.eval (.tmp k)=v):(execOp a.eval o).run Tryz.prog w=.ok (.value (.func fn #[v] #[])) w:=by
 have hk2:=eval_form hk
 unfold execOp
 rw [ho]
 go_simp
theorem ex_map (ho:o.op=.makeMap 48 none):(execOp a.eval o).run Tryz.prog w=.ok (.value (.map (some w.heap.size))) (w.alloc (.map #[] 0)):=by
 have hm:=run_makeMap (P:=Tryz.prog) 48 w
 unfold execOp
 rw [ho]
 go_simp
theorem ex_move {k:Nat} (ho:o.op=.move (.tmp k) ∨ o.op=.assign (.tmp k)) (hk:a.eval (.tmp k)=v):(execOp a.eval o).run Tryz.prog w=.ok (.value v) w:=by
 have hk2:=eval_form hk
 unfold execOp
 rcases ho with ho|ho <;> rw [ho] <;> go_simp
theorem ex_build {f:ByteArray} {k:Nat} {fn:Fn} {x y:Array Value} (ho:o.op=.build 84 #[(0,.const (.string f)),(1,.const (.bool true)),(2,.tmp k)]) (hk:a.eval (.tmp k)=.func fn x y):(execOp a.eval o).run Tryz.prog w=.ok (.value (.agg #[.string f,.bool true,.func fn x y])) w:=by
 have hk2:=eval_form hk
 unfold execOp
 rw [ho]
 go_simp
theorem ex_insert {mb:Nat} {s:ByteArray} {k j:Nat} (ho:o.op=.insert 48 (.tmp j) (.const (.string s)) (.tmp k)) (hj:a.eval (.tmp j)=.map (some mb)) (hk:a.eval (.tmp k)=v) (hr:(Instr.mapUpdate 48 (.map (some mb)) (.string s) v).run Tryz.prog w=.ok () w'):(execOp a.eval o).run Tryz.prog w=.ok .skip w':=by
 have hk2:=eval_form hk
 have hj2:=eval_form hj
 unfold execOp
 rw [ho]
 go_simp
theorem ex_call {f:Nat} {s:ByteArray} {j k:Nat} {u:Value} {ts:Array TypeId} (ho:o.op=.call { callee:=.value (.func f),args:=#[.tmp j,.const (.string s),.tmp k],argTypes:=ts }) (hj:a.eval (.tmp j)=u) (hk:a.eval (.tmp k)=v) (he:∀ args w,(callFunc f args).run Tryz.prog w=.ok (.enter f args) w):(execOp a.eval o).run Tryz.prog w=.ok (.enter f #[u,.string s,v]) w:=by
 have hk2:=eval_form hk
 have hj2:=eval_form hj
 unfold execOp
 rw [ho]
 go_simp
end
theorem wanted_none {o:Oper} {y:Nat→Option Bool} (h:o.guard=none):Region.wanted o y=true:=by
 unfold Region.wanted
 rw [h]
theorem op_at {Q:Exit→Act→World→Prop} {k:Nat} {K:Act→World→Prop} {a:Act} {w:World} (hk:k<79) (hg:(opIn Tryz.f17 k).guard=none) (h:∀ K':Act→World→Prop,(∀ a w,K a w→K' a w)→Oper.wp Tryz.prog (opIn Tryz.f17 k) a w K' Q):wpOp Tryz.prog (drawnF Tryz.f17) Q k K a w:=by
 refine wpOp_step (opIn_at (by rw [cm_size]; exact hk)) (fun K' hK=>?_)
 rw [if_pos (wanted_none hg)]
 exact h K' hK
theorem waits_of {L:Nat→Bool} {k j:Nat} (hk:k<79) (hd:∀ (o:Oper),(drawnF Tryz.f17)[k]? = some o→∀ e,e∈o.after.toList→Region.binds .any e=true→L e.on=true) (h:((opIn Tryz.f17 k).after.any fun e=>e.on == j && Region.binds .any e)=true):L j=true:=by
 obtain ⟨e,he,h1⟩:=Array.any_eq_true'.1 h
 simp only [Bool.and_eq_true,beq_iff_eq] at h1
 rw [← h1.1]
 exact hd _ (opIn_at (by rw [cm_size]; exact hk)) e (Array.mem_toList_iff.2 he) h1.2
section
variable {Q:Exit→Act→World→Prop} {df:List Deferred} {W w:World} {pb bb f k:Nat} {L:Nat→Bool} {a:Act}
theorem cm_step (h:CiO df W pb bb (f+1) L a w) (hf:f≤100) (hk:k<79) (hL:L k=false) (hd:∀ (o:Oper),(drawnF Tryz.f17)[k]? = some o→∀ e,e∈o.after.toList→Region.binds .any e=true→L e.on=true) :
  wpOp Tryz.prog (drawnF Tryz.f17) Q k (fun a' w'=>∀ L',(∀ j,L' j=if j=k then true else L j)→CiO df W pb bb f L' a' w') a w:=by
 by_cases k0:k=0
 ·subst k0
  obtain ⟨p1,p2,p3⟩:(opIn Tryz.f17 0).op=Op.makeMap 48 none∧(opIn Tryz.f17 0).dst=some 3∧(opIn Tryz.f17 0).guard=none:=⟨congrArg (·.1) cm_map,congrArg (·.2.1) cm_map,congrArg (·.2.2) cm_map⟩
  refine op_at hk p3 fun K' hK=>op_value (ex_map p1) (hK _ _ fun L' hL'=>?_)
  rw [p2]
  have hb:Below w.heap.size w (w.alloc (.map #[] 0)):=(Below.refl _ _).alloc (Nat.le_refl _) _
  refine h.next hk (.inl rfl) hL hL' hb (fun i _ e=>by omega) (fun i _ e=>by omega) (fun i _ e=>by omega) (fun _=>⟨_,rfl,h.bel.size,World.ownsMap_made w Tryz.prog 9 elO,hf⟩) (fun e=>by omega) (fun e=>by omega)
 by_cases k77:77≤k
 ·obtain ⟨i,rfl⟩:∃ i,k=i+77:=⟨k - 77,by omega⟩
  have hi:i<2:=by omega
  obtain ⟨p1,p2,p3⟩:=partO_of cm_end hi
  by_cases i0:i=0
  ·subst i0
   have q0:L 0=true:=waits_of hk hd (by have:=cm_waits2; simp only [Bool.and_eq_true] at this; exact this.1.2)
   refine op_at hk p3 fun K' hK=>op_value (ex_move (.inl p1) rfl) (hK _ _ fun L' hL'=>?_)
   rw [p2]
   exact h.next hk (.inr (by omega)) hL hL' (Below.refl _ _) (fun i _ e=>by omega) (fun i _ e=>by omega) (fun i hi e=>by omega) (fun e=>by omega) (fun _=>⟨q0,rfl⟩) (fun e=>by omega)
  ·obtain rfl:i=1:=by omega
   have q77:L 77=true:=waits_of hk hd (by have:=cm_waits2; simp only [Bool.and_eq_true] at this; exact this.2)
   refine op_at hk p3 fun K' hK=>op_value (ex_move (.inr p1) rfl) (hK _ _ fun L' hL'=>?_)
   rw [p2]
   exact h.next hk (.inr (by omega)) hL hL' (Below.refl _ _) (fun i _ e=>by omega) (fun i _ e=>by omega) (fun i hi e=>by omega) (fun e=>by omega) (fun e=>by omega) (fun _=>⟨h.o77.1 q77,h.e61 q77⟩)
 obtain ⟨i,r,hi,hr,rfl⟩:∃ i r,i<19∧r<4∧k=4 * i+1+r:=⟨(k - 1) / 4,(k - 1) % 4,by omega,by omega,by omega⟩
 have hw:=List.all_eq_true.1 cm_waits i (List.mem_range.2 hi)
 simp only [Bool.and_eq_true] at hw
 obtain ⟨⟨⟨w1,w2⟩,w3⟩,w4⟩:=hw
 have hr4:r=0 ∨ r=1 ∨ r=2 ∨ r=3:=by omega
 rcases hr4 with rfl|rfl|rfl|rfl
 ·obtain ⟨p1,p2,p3⟩:=partO_of cm_load hi
  refine op_at hk p3 fun K' hK=>op_value (ex_load rfl p1 h.e1 h.box) (hK _ _ fun L' hL'=>?_)
  rw [p2]
  have:=h.next hk (.inr (by omega)) hL hL' (Below.refl _ _) (v:=ptrO pb) (fun i _ e=>rfl) (fun i _ e=>by omega) (fun i hi e=>by omega) (fun e=>by omega) (fun e=>by omega) (fun e=>by omega)
  rw [slot1 hi] at this
  exact this
 ·obtain ⟨p1,p2,p3⟩:=partO_of cm_func hi
  by_cases i0:i=0
  ·subst i0
   have q1:L 1=true:=waits_of (k:=2) (by omega) hd (by have:=cm_waits2; simp only [Bool.and_eq_true] at this; exact this.1.1)
   refine op_at hk p3 fun K' hK=>op_value (ex_bound p1 (h.ld 0 (by omega) q1)) (hK _ _ fun L' hL'=>?_)
   rw [p2]
   exact h.next hk (.inr (by omega)) hL hL' (Below.refl _ _) (fun i _ e=>by omega) (fun i _ e=>by rw [if_pos (by omega)]) (fun i hi e=>by omega) (fun e=>by omega) (fun e=>by omega) (fun e=>by omega)
  ·simp only [if_neg i0] at p1
   refine op_at hk p3 fun K' hK=>op_value (ex_func p1 h.e1) (hK _ _ fun L' hL'=>?_)
   rw [p2]
   have:=h.next hk (.inr (by omega)) hL hL' (Below.refl _ _) (v:=cloO (fnO i) bb) (fun i _ e=>by omega) (fun j _ e=>by rw [if_neg (by omega),show j=i by omega]) (fun i hi e=>by omega) (fun e=>by omega) (fun e=>by omega) (fun e=>by omega)
   rw [slot2 hi] at this
   exact this
 ·have q2:L (4 * i+2)=true:=waits_of hk hd w1
  have hmf:=h.mf i hi q2
  by_cases i0:i=0
  ·subst i0
   obtain ⟨p1,p2,p3⟩:(opIn Tryz.f17 3).op=Op.build 84 #[(0,.const (.string (formB 0))),(1,.const (.bool true)),(2,.tmp 5)]∧(opIn Tryz.f17 3).dst=some 6∧(opIn Tryz.f17 3).guard=none:=⟨congrArg (·.1) cm_build,congrArg (·.2.1) cm_build,congrArg (·.2.2) cm_build⟩
   refine op_at hk p3 fun K' hK=>op_value (ex_build p1 hmf) (hK _ _ fun L' hL'=>?_)
   rw [p2]
   exact h.next hk (.inr (by omega)) hL hL' (Below.refl _ _) (fun i _ e=>by omega) (fun i _ e=>by omega) (fun j _ e=>by rw [show j=0 by omega]; exact ⟨_,rfl,.inl ⟨rfl,rfl⟩⟩) (fun e=>by omega) (fun e=>by omega) (fun e=>by omega)
  ·rw [if_neg i0] at hmf
   have q1:L (4 * i+1)=true:=waits_of hk hd (by
    rcases Bool.or_eq_true .. ▸ w2 with q|q
    ·exact absurd (eq_of_beq q) i0
    ·exact q)
   have hld:=h.ld i hi q1
   have hwl:pb<w.heap.size:=Nat.lt_of_lt_of_le h.lw h.bel.size
   by_cases i12:i≤12
   ·obtain ⟨j,rfl⟩:∃ j,i=j+1:=⟨i - 1,by omega⟩
    obtain ⟨p1,p2,p3⟩:=partO_of cm_does (show j<12 by omega)
    refine op_at hk p3 fun K' hK=>?_
    unfold Oper.wp
    rw [ex_call p1 hld hmf (enters_of Tryz.func37 (by kernel_rfl) rfl)]
    refine (does_any pb (formB (j+1)) (fnO (j+1)) bb w).mono ?_
    rintro e w' ⟨v,x,y,z,rfl,hdo,hb⟩
    refine hK _ _ fun L' hL'=>?_
    have:=h.next hk (.inr (by omega)) hL hL' hb (v:=v) (fun i _ e=>by omega) (fun i _ e=>by omega) (fun q _ e=>by rw [show q=j+1 by omega]; exact ent_does hdo ⟨by omega,by omega⟩ rfl hwl) (fun e=>by omega) (fun e=>by omega) (fun e=>by omega)
    rw [slot3 hi] at this
    show CiO _ _ _ _ _ _ (a.put (opIn Tryz.f17 (4 * (j+1)+3)).dst v) w'
    rw [p2]; exact this
   ·obtain ⟨j,rfl⟩:∃ j,i=j+13:=⟨i - 13,by omega⟩
    obtain ⟨p1,p2,p3⟩:=partO_of cm_tells (show j<6 by omega)
    refine op_at hk p3 fun K' hK=>?_
    unfold Oper.wp
    rw [ex_call p1 hld hmf (enters_of Tryz.func62 (by kernel_rfl) rfl)]
    refine (tells_any pb (formB (j+13)) (fnO (j+13)) bb w).mono ?_
    rintro e w' ⟨v,x,y,rfl,hdo,hb⟩
    refine hK _ _ fun L' hL'=>?_
    have:=h.next hk (.inr (by omega)) hL hL' hb (v:=v) (fun i _ e=>by omega) (fun i _ e=>by omega) (fun q _ e=>by rw [show q=j+13 by omega]; exact ent_tells hdo (by omega) rfl hwl) (fun e=>by omega) (fun e=>by omega) (fun e=>by omega)
    rw [slot3 hi] at this
    show CiO _ _ _ _ _ _ (a.put (opIn Tryz.f17 (4 * (j+13)+3)).dst v) w'
    rw [p2]; exact this
 ·have q0:L 0=true:=waits_of hk hd w3
  have q3:L (4 * i+3)=true:=waits_of hk hd w4
  obtain ⟨p1,p2,p3⟩:=partO_of cm_ins hi
  refine op_at hk p3 fun K' hK=>?_
  obtain ⟨mb,w5,e3,hrun,-⟩:=h.ins hi rfl (L':=fun j=>if j=4 * i+4 then true else L j) (fun _=>rfl) q0 q3
  refine op_skip (ex_insert p1 e3 rfl hrun) (hK _ _ fun L' hL'=>?_)
  obtain ⟨mb',w6,e3',hrun',hN⟩:=h.ins hi rfl hL' q0 q3
  rw [p2]
  have em:mb=mb':=by
   have:=e3.symm.trans e3'
   injection this with this
   exact Option.some.inj this
  subst em
  rw [hrun] at hrun'
  injection hrun' with _ ew
  subst ew
  exact hN
end
end Go.Proofs.YtaehdgemkafinaaGreatDoor
