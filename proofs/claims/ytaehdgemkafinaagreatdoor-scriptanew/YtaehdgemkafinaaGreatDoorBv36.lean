/-
  On the way to SAnewProof: VX.
-/
import Derived.Test.YtaehdgemkafinaaGreatDoorBv33
set_option maxHeartbeats 8000000
set_option maxRecDepth 100000
namespace Go.Proofs.YtaehdgemkafinaaGreatDoor
open Go.RowKit
section
variable {w0 w w':World} {C C':Nat→Nat} {K:NB} {X:XB} {i m m':Nat} {zs:List Int} {N:PN} {V V':PX} {A:Nat→Addr}
theorem ND.recolor (h:ND w0 w C K i zs N m) (hi:i≤9) (hC:∀ x,C x<2000→C' x=C x):ND w0 w C' K i zs N m:=by
 have e1:=h.cs; have e2:=h.cj; have e3:=h.cm; have e4:=h.cp; have e5:=h.cq; have e6:=h.cn
 refine ⟨h.row,h.sp,h.lds,(hC _ (by omega)).trans e6,(hC _ (by omega)).trans e1,(hC _ (by omega)).trans e2,(hC _ (by omega)).trans e3,(hC _ (by omega)).trans e4,(hC _ (by omega)).trans e5,fun d hd x hx=>?_,h.n0⟩
 have g:=h.cl d hd x hx
 exact ⟨(hC _ (by omega)).trans g.1,(hC _ (by omega)).trans g.2⟩
theorem WD.recolor (h:WD w0 w C X zs V m) (hC:∀ x,C x<2000→C' x=C x) (hl:∀ x,C' x<2000→x<w.heap.size) (hw:∀ x,C' x<2000→w0.heap.size≤x):WD w0 w C' X zs V m:=by
 have n7:=h.n7.2
 have e1:=h.cx; have e2:=h.cw; have e3:=h.cn; have e4:=h.cm
 exact ⟨h.bel,h.row,h.ws,h.ns,fun i hi=>(h.nds i hi).recolor (by omega) hC,h.brk,h.fly,h.evs,(hC _ (by omega)).trans e1,(hC _ (by omega)).trans e2,(hC _ (by omega)).trans e3,(hC _ (by omega)).trans e4,fun g hg=>(hC g (by have:=h.cf g hg; omega)).trans (h.cf g hg),fun g hg=>(hC g (by have:=h.ce g hg; omega)).trans (h.ce g hg),hl,hw,h.inv⟩
theorem WD.adopt {d lb b cap:Nat} {a:Int} {P:PL} (h:WD w0 w C X zs V m) (hi:i<zs.length) (hd:d<6) (hu:(V.nd i).l≠-2) (hL:LD w lb b cap i d a zs P) (c1:2000≤C lb) (c2:2000≤C b) (h0:w0.heap.size≤b) (ha:0≤a∧a≤1048576) (h1:P.stt<4) (h2:0≤P.seen∧P.seen≤1048576) :
  ∃ C',WD w0 (w.setCell ⟨(X.K i).nd,1+d,none⟩ (.pointer (some ⟨lb,0,none⟩))) C' { X with K:=fun e=>if e=i then putLd (X.K i) d lb b cap else X.K e } zs (setNd V i (setLd (V.nd i) d (a,P))) m∧Kept (OwnX C) w (w.setCell ⟨(X.K i).nd,1+d,none⟩ (.pointer (some ⟨lb,0,none⟩)))∧(∀ x,x≠lb→x≠b→C' x=C x):=by
 have n7:=h.n7.2
 have hbl:=hL.bl
 have hlt:=row_ltJ hL.row
 obtain ⟨C1,hC1⟩:∃ C1,C1=paint (paint C lb (100 * i+10+d)) b (100 * i+20+d):=⟨_,rfl⟩
 have hne:∀ x,x≠lb→x≠b→C1 x=C x:=fun x n1 n2=>by rw [hC1,paint_ne n2,paint_ne n1]
 have e1:C1 lb=100 * i+10+d:=by rw [hC1,paint_ne (by omega),paint_at]
 have e2:C1 b=100 * i+20+d:=by rw [hC1,paint_at]
 have hC:∀ x,C x<2000→C1 x=C x:=fun x hx=>hne x (fun e=>by rw [e] at hx; omega) (fun e=>by rw [e] at hx; omega)
 have hcase:∀ x,C1 x<2000→C x<2000 ∨ x=lb ∨ x=b:=fun x hx=>by
  by_cases n1:x=lb
  ·exact .inr (.inl n1)
  ·by_cases n2:x=b
   ·exact .inr (.inr n2)
   ·rw [hne x n1 n2] at hx; exact .inl hx
 have hg:=h.recolor (C':=C1) hC (fun x hx=>by
   rcases hcase x hx with q|q|q
   ·exact h.lt x q
   ·rw [q]; exact hlt
   ·rw [q]; omega) (fun x hx=>by
   rcases hcase x hx with q|q|q
   ·exact h.low x q
   ·rw [q]; omega
   ·rw [q]; exact h0)
 have hcn:=(h.nds i hi).cn
 have hcn1:=(hg.nds i hi).cn
 have hni:=(h.inv.nd i hi).putLead (d:=d) hu ha h1 h2 hL.pw
 refine ⟨C1,?_,(Kept.refl _ w).setCell (show C (X.K i).nd<2000 by omega) _,hne⟩
 exact hg.node (S:=In1 (X.K i).nd) ((Kept.refl _ w).set1 _ _) hi (fun x hx=>by rw [show x=_ from hx]; omega) (fun _ _=>rfl) (fun x hx hc=>by have:=hg.lt x hc; omega) ((hg.nds i hi).putLead hd hL e1 e2 (h.nds i hi).n0) rfl (Nat.le_refl _) (h.inv.node hni (Nat.le_refl _))
theorem aboveN_bd {n d:Nat} (h:NI n N m) (hd:d<6):0≤aboveN N d∧aboveN N d≤1048576:=by
 have hg:=(h.gd d hd).2.1
 have e:(stN N d).pr=(dlN N d).2.pr:=rfl
 unfold aboveN
 cases hl:N.ld d with
 | none=>simp only; omega
 | some x =>
  have:=(h.ld d x hl).2.2.2.1
  simp only
  omega
theorem electF_fi {n s d:Nat} {a:Int} (hs:s<n) (hn:n≤7) (hd:d<6) (ha:0≤a∧a≤1048576):FI n (electF s d a):=by
 refine ⟨by show (0:Int)≤s; omega,by show (s:Int)<n; omega,by show (0:Int)≤s; omega,by show (s:Int)<n; omega,⟨?_,?_,?_,?_,ha,⟨?_,?_,?_⟩⟩⟩
 ·show (0:Int)≤s∧(s:Int)≤6; omega
 ·show (0:Int)≤s∧(s:Int)≤6; omega
 ·show (0:Int)≤d∧(d:Int)≤5; omega
 ·show (1:Int)≤3∧(3:Int)≤7; omega
 ·show (0:Int)≤0∧(0:Int)≤5; omega
 ·show (0:Int)≤0∧(0:Int)≤1048576; omega
 ·show (0:Int)≤0∧(0:Int)≤1048576; omega
theorem electL_fi {n s d:Nat} {a:Int} (hs:s<n) (hn:n≤7) (hd:d<6) (ha:0≤a∧a≤1048576):(∀ f,f∈electsL s d a n→FI n f)∧(electsL s d a n).length≤1000:=by
 unfold electsL
 refine ⟨fun f hf=>toL_fi hs hn hd (by decide) ha (by decide) n (Nat.le_refl _) f (List.mem_of_mem_eraseIdx hf),?_⟩
 have:=List.length_eraseIdx_le (toL s d 3 a 0 n) s
 rw [toL_length] at this
 omega
theorem hearX_nd (V:PX) (i:Nat) (f:F9):(hearX V i f).nd i=hearN (V.nd i) f:=by
 unfold hearX setNd
 simp
theorem try_far (s d p:Nat) (h:WD w0 w C X zs V m) (hE:Held9 w0 A) (hs:s<zs.length) (hd:d<6) (hp:(stN (V.nd s) d).pr=p) (ha:1048576<attemptX zs.length s (aboveN (V.nd s) d)) :
  Calls Tryz.prog 111 #[.pointer (some ⟨X.xb,0,none⟩),.int .i64 (s:Int),.int .i64 (d:Int),.int .i64 (p:Int)] w fun e w'=>e=.returned (.tuple #[])∧Below w.heap.size w w':=by
 obtain ⟨c0,c1,-,-,-⟩:=h.cells
 have c2:=h.ns s hs
 have n7:=h.n7
 have H:=hid h
 have HE:=hid hE
 have HS:=hid hs
 have HP:=hid hp
 have hbd:=aboveN_bd (h.inv.nd s hs) hd
 obtain ⟨n,hn⟩:∃ n,Hid (zs.length=n):=⟨_,rfl⟩
 have HA:=hid (attempt_is s (aboveN (V.nd s) d) h hs hbd.1 hbd.2)
 have HSe:=hid (seen_is d p (h.nds s hs) hd hp)
 have HT:=hid (ldTry_far A _ zs s (d:Int) _ w h.sl (h.held hE).to3 h.inv.he hs (by omega) (by omega) ha)
 rw [hn.out] at c0 c1 hs HA HT ha n7
 generalize aboveN (V.nd s) d=ab at HA HSe HT ha hbd
 generalize attemptX n s ab=at_ at HA HT ha
 clear h hE hp
 go_enter Tryz.func111,Tryz.ntmps111
 go_wp2_with fail
 refine HSe.out.mono ?_
 rintro e w1 ⟨rfl,hx⟩
 subst w1
 go_wp2_with fail
 refine HA.out.mono ?_
 rintro e w1 ⟨rfl,hx⟩
 subst w1
 go_wp2_with fail
 refine HT.out.mono ?_
 rintro e w1 ⟨rfl,hb⟩
 have HB:=hid hb
 clear hb
 go_wp2_with fail
 refine bodyPost_ret (results_none rfl _ _ _) rfl ?_
 exact ⟨rfl,HB.out⟩
theorem FrF.adopt {base:Nat} {v:Value} {L:List F9} (h:FrF w C base v L) (k:Kept (OwnX C) w w') (hC:∀ x,base≤x→C' x=C x):FrF w' C' base v L:=by
 obtain ⟨ad,cap,e,hf,hg⟩:=h.kept (C':=C) k (fun _ _=>rfl)
 exact ⟨ad,cap,e,hf,fun hne p hp=>by have:=hg hne p hp; exact ⟨by rw [hC _ this.2.2]; exact this.1,this.2⟩⟩
theorem try_down (s d p an:Nat) (h:WD w0 w C X zs V m) (hE:Held9 w0 A) (hs:s<zs.length) (hd:d<6) (hu:(V.nd s).l≠-2) (hm:m<1000000) (hp:(stN (V.nd s) d).pr=p) (ha:attemptX zs.length s (aboveN (V.nd s) d)=an) (ha1:1≤an) (ha2:an≤1048576) (hdn:upN (hearN (V.nd s) (electF s d an))=false) (HAns:Hid (ansN s (V.nd s) (electF s d an)=[])) :
  Calls Tryz.prog 111 #[.pointer (some ⟨X.xb,0,none⟩),.int .i64 (s:Int),.int .i64 (d:Int),.int .i64 (p:Int)] w fun e w'=>e=.returned (.tuple #[])∧WOut w0 w w' C X zs (hearX V s (electF s d an)) (m+2):=by
 have HDn:=hid hdn
 clear hdn
 obtain ⟨c0,c1,-,-,-⟩:=h.cells
 have c2:=h.ns s hs
 have n7:=h.n7
 have H:=hid h
 have HE:=hid hE
 have HS:=hid hs
 have HU:=hid hu
 have hbd:=aboveN_bd (h.inv.nd s hs) hd
 obtain ⟨n,hn⟩:∃ n,Hid (zs.length=n):=⟨_,rfl⟩
 have HA:=hid (attempt_is s (aboveN (V.nd s) d) h hs hbd.1 hbd.2)
 rw [ha] at HA
 have HSe:=hid (seen_is d p (h.nds s hs) hd hp)
 have HT:=hid (ldTry_ok A _ zs s (d:Int) (an:Int) w h.sl (h.held hE).to3 h.inv.he hs (by omega) (by omega) (by omega) (by omega))
 have HFI:=hid (electF_fi (a:=(an:Int)) hs n7.2 hd (by omega))
 rw [hn.out] at c0 c1 hs HT n7
 generalize aboveN (V.nd s) d=ab at HA HSe hbd ha
 clear h hE hp hu ha
 go_enter Tryz.func111,Tryz.ntmps111
 go_wp2_with fail
 refine HSe.out.mono ?_
 rintro e w1 ⟨rfl,hx⟩
 subst w1
 go_wp2_with fail
 refine HA.out.mono ?_
 rintro e w1 ⟨rfl,hx⟩
 subst w1
 go_wp2_with fail
 refine HT.out.mono ?_
 rintro e w1 ⟨lb,b,cap,rfl,hl,hb,hlb⟩
 have H1:=hid (H.out.later hb)
 have HL1:=hid hl
 have HB1:=hid hb
 have hbl:=hl.bl
 have HCl:Hid (2000≤C lb∧2000≤C b):=by
  constructor
  ·rcases Nat.lt_or_ge (C lb) 2000 with q|q
   ·have:=H.out.lt _ q; omega
   ·exact q
  ·rcases Nat.lt_or_ge (C b) 2000 with q|q
   ·have:=H.out.lt _ q; omega
   ·exact q
 have HHe:=hid (whear_any s d 3 an 0 0 0 false (electF s d an) rfl H1.out HE.out HS.out HU.out HFI.out hm)
 rw [show ((3:Nat):Int)=3 from rfl,show ((0:Nat):Int)=0 from rfl,HAns.out] at HHe
 clear hl hb
 go_wp2_with fail
 refine HHe.out.mono ?_
 rintro e w2 ⟨v,rfl,C2,X2,g1,g2,g3,g4,-⟩
 obtain ⟨d0,d1,d2⟩:=(g1.nds s HS.out).way
 rw [key_nd g2] at d0
 have HPl:=hid (g1.nds s HS.out).sp.jp.pl
 have HDn2:Hid ((((hearX V s (electF s d an)).nd s).l != -2)=false):=by rw [hearX_nd]; exact HDn.out
 have HG:=hid (And.intro g1 (And.intro g2 (And.intro g3 g4)))
 clear g1 g2 g3 g4
 go_wp2_with fail
 refine (power_b _ _ _ _ false w2 HPl.out HDn2.out).mono ?_
 rintro e w3 ⟨rfl,hx⟩
 subst w3
 go_wp2_with fail
 refine bodyPost_ret (results_none rfl _ _ _) rfl ?_
 refine ⟨rfl,?_⟩
 exact WOut.step (C1:=C) (X1:=X) rfl (Kept.of_below HB1.out) (fun _ _=>rfl) ⟨C2,X2,HG.out.1,HG.out.2.1,HG.out.2.2.1,HG.out.2.2.2⟩
theorem try_eq (s d:Nat) (a:Int) (f0:F9) (hA:ansN s (V.nd s) (electF s d a)=[f0]) (ha:¬ 1048576<a) (hup:upN (hearN (V.nd s) (electF s d a))=true) :
  sendX (leadX zs (sendX (setNd (hearX V s (electF s d a)) s (setLd ((hearX V s (electF s d a)).nd s) d (a,P0))) (electsL s d a zs.length)) s d f0) (leadO zs (sendX (setNd (hearX V s (electF s d a)) s (setLd ((hearX V s (electF s d a)).nd s) d (a,P0))) (electsL s d a zs.length)) s d f0)=tryX zs V s d a:=by
 have hl:((sendX (setNd (hearX V s (electF s d a)) s (setLd ((hearX V s (electF s d a)).nd s) d (a,P0))) (electsL s d a zs.length)).nd s).ld d=some (a,P0):=by
  simp [sendX,setNd,setLd]
 have e1:∀ W:PX,(W.nd s).ld d=some (a,P0)→leadX zs W s d f0=setNd W s (setLd (W.nd s) d (a,(phear zs s d a P0 f0).1)):=fun W hW=>by unfold leadX; rw [hW]
 have e2:∀ W:PX,(W.nd s).ld d=some (a,P0)→leadO zs W s d f0=outL s d a zs.length (phear zs s d a P0 f0).2:=fun W hW=>by unfold leadO; rw [hW]
 rw [e1 _ hl,e2 _ hl]
 unfold tryX
 rw [if_neg ha,if_neg (by rw [hup]; decide),hA,hearX_nd]
 have eN:∀ N:PN,setLd (setLd N d (a,P0)) d (a,(phear zs s d a P0 f0).1)=setLd N d (a,(phear zs s d a P0 f0).1):=fun N=>by
  unfold setLd
  simp only
  congr 1
  funext e
  split <;> rfl
 unfold sendX setNd hearsL hearsL electsL electL
 simp only [if_true,eN,List.append_nil,List.append_assoc]
 congr 1
 funext e
 split <;> rfl
theorem try_up (s d p an:Nat) (f0:F9) (h:WD w0 w C X zs V m) (hE:Held9 w0 A) (hs:s<zs.length) (hd:d<6) (hu:(V.nd s).l≠-2) (hm:m<1000000) (hp:(stN (V.nd s) d).pr=p) (ha:attemptX zs.length s (aboveN (V.nd s) d)=an) (ha1:1≤an) (ha2:an≤1048576) (hdn:upN (hearN (V.nd s) (electF s d an))=true) (HAns:Hid (ansN s (V.nd s) (electF s d an)=[f0])) (hf0:FI zs.length f0) :
  Calls Tryz.prog 111 #[.pointer (some ⟨X.xb,0,none⟩),.int .i64 (s:Int),.int .i64 (d:Int),.int .i64 (p:Int)] w fun e w'=>e=.returned (.tuple #[])∧WOut w0 w w' C X zs (tryX zs V s d an) (m+5):=by
 have HDn:=hid hdn
 have HF0:=hid hf0
 clear hdn hf0
 obtain ⟨c0,c1,-,-,-⟩:=h.cells
 have c2:=h.ns s hs
 have n7:=h.n7
 have H:=hid h
 have HE:=hid hE
 have HS:=hid hs
 have HU:=hid hu
 have hbd:=aboveN_bd (h.inv.nd s hs) hd
 obtain ⟨n,hn⟩:∃ n,Hid (zs.length=n):=⟨_,rfl⟩
 have HA:=hid (attempt_is s (aboveN (V.nd s) d) h hs hbd.1 hbd.2)
 rw [ha] at HA
 have HSe:=hid (seen_is d p (h.nds s hs) hd hp)
 have HT:=hid (ldTry_ok A _ zs s (d:Int) (an:Int) w h.sl (h.held hE).to3 h.inv.he hs (by omega) (by omega) (by omega) (by omega))
 have HFI:=hid (electF_fi (a:=(an:Int)) hs n7.2 hd (by omega))
 rw [hn.out] at c0 c1 hs HT n7
 generalize aboveN (V.nd s) d=ab at HA HSe hbd ha
 clear h hE hp hu ha
 go_enter Tryz.func111,Tryz.ntmps111
 go_wp2_with fail
 refine HSe.out.mono ?_
 rintro e w1 ⟨rfl,hx⟩
 subst w1
 go_wp2_with fail
 refine HA.out.mono ?_
 rintro e w1 ⟨rfl,hx⟩
 subst w1
 go_wp2_with fail
 refine HT.out.mono ?_
 rintro e w1 ⟨lb,b,cap,rfl,hl,hb,hlb⟩
 have H1:=hid (H.out.later hb)
 have HL1:=hid hl
 have HB1:=hid hb
 have hbl:=hl.bl
 have HCl:Hid (2000≤C lb∧2000≤C b):=by
  constructor
  ·rcases Nat.lt_or_ge (C lb) 2000 with q|q
   ·have:=H.out.lt _ q; omega
   ·exact q
  ·rcases Nat.lt_or_ge (C b) 2000 with q|q
   ·have:=H.out.lt _ q; omega
   ·exact q
 have HHe:=hid (whear_any s d 3 an 0 0 0 false (electF s d an) rfl H1.out HE.out HS.out HU.out HFI.out hm)
 rw [show ((3:Nat):Int)=3 from rfl,show ((0:Nat):Int)=0 from rfl,HAns.out] at HHe
 clear hl hb
 go_wp2_with fail
 have HHe2:Hid (Calls Tryz.prog 165 #[.pointer (some ⟨X.xb,0,none⟩),frV (s:Int) (s:Int) (d:Int) 3 (an:Int) false 0 0 0] w1 fun e w2=>∃ g off cp,e=.returned (.slice (some ⟨g,off,none⟩) 1 cp)∧∃ C2 X2,WD w0 w2 C2 X2 zs (hearX V s (electF s d an)) (m+2)∧key X2=key X∧Kept (OwnX C) w1 w2∧(∀ x,x<w1.heap.size→C2 x=C x)∧FrF w2 C2 w1.heap.size (.slice (some ⟨g,off,none⟩) 1 cp) [f0]):=by
  refine HHe.out.mono ?_
  rintro e w2 ⟨v,rfl,C2,X2,g1,g2,g3,g4,g5⟩
  have g6:=g5
  obtain ⟨ad,cp,rfl,hf,-⟩:=g5
  obtain ⟨g,off,rfl,-⟩:=hf 0 (by simp)
  exact ⟨g,off,cp,rfl,C2,X2,g1,g2,g3,g4,g6⟩
 clear HHe
 refine HHe2.out.mono ?_
 rintro e w2 ⟨g,off,cp,rfl,C2,X2,g1,g2,g3,g4,g5⟩
 obtain ⟨d0,d1,d2⟩:=(g1.nds s HS.out).way
 rw [key_nd g2] at d0
 have HPl:=hid (g1.nds s HS.out).sp.jp.pl
 have HDn2:Hid ((((hearX V s (electF s d an)).nd s).l != -2)=true):=by rw [hearX_nd]; exact HDn.out
 have hlw:=row_ltJ HL1.out.row
 have HL2:Hid (LD w2 lb b cap s d an zs P0):=HL1.out.kept g3 (fun e=>by have h1:C lb<2000:=e; have:=HCl.out.1; omega) (fun e=>by have h1:C b<2000:=e; have:=HCl.out.2; omega)
 have hup2:((hearX V s (electF s d an)).nd s).l≠-2:=by have:=HDn2.out; simpa using this
 obtain ⟨C3,q1,q2,q3⟩:=g1.adopt HS.out hd hup2 HL2.out (by rw [g4 _ hlw]; exact HCl.out.1) (by rw [g4 _ (by omega)]; exact HCl.out.2) (by have:=H.out.bel.size; omega) (by omega) (by decide) (by decide)
 rw [key_nd g2] at q1 q2
 obtain ⟨W3,HW3⟩:∃ W3,Hid (w2.setCell ⟨(X.K s).nd,1+d,none⟩ (.pointer (some ⟨lb,0,none⟩))=W3):=⟨_,rfl⟩
 have hW3:=HW3.out
 rw [hW3] at q1 q2
 have HFr3:=hid (g5.adopt q2 (fun x hx=>q3 x (by omega) (by omega)))
 have c1n:=(g1.nds s HS.out).lead hd
 have z1n:=(g1.nds s HS.out).fz (1+d)
 rw [key_nd g2] at c1n z1n
 obtain ⟨X3,HX3⟩:∃ X3:XB,Hid (({ X2 with K:=fun e=>if e=s then putLd (X2.K s) d lb b cap else X2.K e }:XB)=X3):=⟨_,rfl⟩
 have HKX:Hid (key X3=key X):=by rw [← HX3.out]; exact (key_K (i:=s) (K:=putLd (X2.K s) d lb b cap) rfl).trans g2
 have HKL:Hid ((X3.K s).lb d=lb∧(X3.K s).b d=b∧(X3.K s).cap d=cap):=by rw [← HX3.out]; exact ⟨by simp [putLd],by simp [putLd],by simp [putLd]⟩
 rw [HX3.out] at q1
 have HLD:Hid (LD W3 lb b cap s d an zs P0):=by
  have:=(q1.nds s HS.out).lds d hd (an,P0) (by simp [setNd,setLd])
  rw [HKL.out.1,HKL.out.2.1,HKL.out.2.2] at this
  exact this
 have HC3:Hid (∀ x,x<w.heap.size→C3 x=C x):=fun x hx=>by
  have hb1:=HB1.out.size
  rw [q3 x (by omega) (by omega)]
  exact g4 x (by omega)
 have HK3:Hid (Kept (OwnX C) w W3):=by
  have hb1:=HB1.out.size
  have k2:Kept (OwnX C) w w2:=(Kept.of_below HB1.out).trans g3
  refine ⟨q2.os.trans k2.os,q2.tape.trans k2.tape,q2.output.trans k2.output,Nat.le_trans k2.size q2.size,fun x hx hn=>?_⟩
  exact (q2.block x (Nat.lt_of_lt_of_le hx k2.size) (fun e=>hn (by have h1:C2 x<2000:=e; rw [g4 x (by omega)] at h1; exact h1))).trans (k2.block x hx hn)
 have HQ:=hid q1
 clear g1 g2 g3 g4 g5 q1 q2 q3
 go_wp2_with fail
 refine (power_b _ _ _ _ true w2 HPl.out HDn2.out).mono ?_
 rintro e w4 ⟨rfl,hx⟩
 subst w4
 go_wp2_with fail
 refine (ldStart1_any (by rw [hn.out]; exact n7.2) HS.out (by omega) HLD.out).mono ?_
 rintro e w5 ⟨v5,rfl,hf5,hb5⟩
 have HSd:=hid (send_any v5 _ (HQ.out.later hb5) hf5.fr (electL_fi HS.out (by rw [hn.out]; exact n7.2) hd (by omega)).1 (electL_fi HS.out (by rw [hn.out]; exact n7.2) hd (by omega)).2 (by omega))
 rw [key_xb HKX.out] at HSd
 have HFr5:=hid (HFr3.out.kept (Kept.of_below hb5) (fun _ _=>rfl))
 have HB5:=hid hb5
 clear hf5 hb5
 go_wp2_with fail
 refine HSd.out.mono ?_
 rintro e w6 ⟨rfl,C6,v6,y1,y2,y3⟩
 have HFr6:=hid (HFr5.out.kept y2 y3)
 obtain ⟨V6,HV6⟩:∃ V6,Hid (sendX (setNd (hearX V s (electF s d an)) s (setLd ((hearX V s (electF s d an)).nd s) d (an,P0))) (electsL s d an zs.length)=V6):=⟨_,rfl⟩
 have HFin:Hid (sendX (leadX zs V6 s d f0) (leadO zs V6 s d f0)=tryX zs V s d an):=by rw [← HV6.out]; exact try_eq s d an f0 HAns.out (by omega) HDn.out
 have HLd6:Hid ((V6.nd s).ld d=some ((an:Int),P0)):=by rw [← HV6.out]; show _=_; simp [sendX,setNd,setLd]
 rw [HV6.out] at y1
 obtain ⟨X6,HX6⟩:∃ X6:XB,Hid (({ X3 with fv:=v6 }:XB)=X6):=⟨_,rfl⟩
 have HK6:Hid (key X6=key X3):=by rw [← HX6.out]; exact rfl
 have HKL6:Hid ((X6.K s).lb d=lb∧(X6.K s).b d=b∧(X6.K s).cap d=cap):=by rw [← HX6.out]; exact HKL.out
 obtain ⟨X6',HX6'⟩:∃ X6':XB,Hid (X6'={ X3 with xb:=X.xb,fv:=v6 }):=⟨_,rfl⟩
 have HE6:Hid (X6'=X6):=by rw [HX6'.out,← HX6.out,← key_xb HKX.out]; exact rfl
 have HY1:Hid (WD w0 w6 C6 X6 zs V6 (m+2+1)):=by rw [← HE6.out,HX6'.out]; exact y1
 have HY:=hid (And.intro y2 y3)
 have HLD6:Hid (LD w6 lb b cap s d an zs P0):=by
  have:=(HY1.out.nds s HS.out).lds d hd _ HLd6.out
  rw [HKL6.out.1,HKL6.out.2.1,HKL6.out.2.2] at this
  exact this
 obtain ⟨ad6,cp6,hv6,hfl6,-⟩:=HFr6.out
 obtain ⟨gg,oo,hgo,hcl⟩:=hfl6 0 (by simp)
 have hgo2:(some ⟨g,off,none⟩:Option Addr)=some ⟨gg,oo,none⟩:=by
  have h1:(Value.slice (some ⟨g,off,none⟩) 1 cp)=.slice ad6 1 cp6:=hv6
  have h2:(some ⟨g,off,none⟩:Option Addr)=ad6:=by injection h1
  rw [h2,hgo]
 have hgo3:(⟨g,off,none⟩:Addr)=⟨gg,oo,none⟩:=Option.some.inj hgo2
 have hg1:g=gg:=congrArg Addr.block hgo3
 have hg2:off=oo:=congrArg Addr.off hgo3
 rw [← hg1,← hg2] at hcl
 obtain ⟨ff,ft,fd,fk,fa,fy,fp1,fp2,fp3⟩:=f0
 obtain ⟨t0,t1,t2,t3,t4,t5,t6,t7,t8⟩:=nineO (o:=off) (fun j hj=>by have:=hcl j hj; rw [show off+0 * 9+j=off+j by omega] at this; exact this)
 simp only [List.getElem_cons_zero] at t0 t1 t2 t3 t4 t5 t6 t7 t8
 obtain ⟨W7,HW7⟩:∃ W7,Hid (w6.alloc (.cells #[.int .i64 ff,.int .i64 ft,.int .i64 fd,.int .i64 fk,.int .i64 fa,.bool fy,.int .i64 fp1,.int .i64 fp2,.int .i64 fp3] 125)=W7):=⟨_,rfl⟩
 have hW7:=HW7.out
 have HB7:Hid (Below w6.heap.size w6 W7):=by rw [← HW7.out]; exact (Below.refl _ _).alloc (Nat.le_refl _) _
 have HR7:Hid (W7.heap[w6.heap.size]? = some (.cells #[.int .i64 ff,.int .i64 ft,.int .i64 fd,.int .i64 fk,.int .i64 fa,.bool fy,.int .i64 fp1,.int .i64 fp2,.int .i64 fp3] 125 (0,0))):=by rw [← HW7.out]; exact heap_alloc_new w6 _
 obtain ⟨b0,b1,b2,b3,b4,b5,b6,b7,b8⟩:=nine HR7.out
 have HHr:=hid (ldhear_any A ff ft fd fk fa fy fp1 fp2 fp3 H.out.inv.he (by decide) ((HY1.out.later HB7.out).held HE.out).to3 (HLD6.out.later HB7.out))
 clear y1 y2 y3 hv6 hfl6 hgo hcl hgo2 hgo3 hg1 hg2
 go_wp2_with fail
 refine wp_loop_rounds 2 ?_
 rw [rounds_succ]
 go_wp2_with fail
 refine HHr.out.mono ?_
 rintro e w8 ⟨v8,rfl,hf8,hl8,hk8⟩
 have HLO:=hid (lead_out (i:=s) (d:=d) (x:=((an:Int),P0)) (F:=⟨ff,ft,fd,fk,fa,fy,fp1,fp2,fp3⟩) (v:=v8) HY1.out HB7.out HS.out hd HLd6.out hf8 (by rw [HKL6.out.1,HKL6.out.2.1,HKL6.out.2.2]; exact hl8) (by rw [HKL6.out.1]; exact hk8) HF0.out)
 obtain ⟨C9,X9,r1,r2,r3,r4,r5⟩:=HLO.out
 have HO9:Hid ((∀ f,f∈leadO zs V6 s d ⟨ff,ft,fd,fk,fa,fy,fp1,fp2,fp3⟩→FI zs.length f)∧(leadO zs V6 s d ⟨ff,ft,fd,fk,fa,fy,fp1,fp2,fp3⟩).length≤1000):=by
  unfold leadO
  rw [HLd6.out]
  exact ⟨outL_fi HS.out (by rw [hn.out]; exact n7.2) hd (by show (0:Int)≤an∧(an:Int)≤1048576; omega),Nat.le_trans (outL_le _ _ _ _ _) (by rw [hn.out]; omega)⟩
 have HS9:=hid (send_any v8 _ r1 r5.fr HO9.out.1 HO9.out.2 (by omega))
 rw [key_xb r2,key_xb HK6.out,key_xb HKX.out] at HS9
 have HR9:=hid (And.intro r2 (And.intro r3 r4))
 clear hf8 hl8 hk8 r1 r2 r3 r4 r5
 go_wp2_with fail
 refine HS9.out.mono ?_
 rintro e w10 ⟨rfl,C10,v10,y1,y2,y3⟩
 have HY10:=hid (And.intro y1 (And.intro y2 y3))
 clear y1 y2 y3
 go_wp2_with fail
 rw [rounds_succ]
 go_wp2_with fail
 go_end0
 refine ⟨rfl,?_⟩
 rw [← HFin.out]
 refine WOut.step (C1:=C3) (X1:=X3) HKX.out HK3.out HC3.out ?_
 refine WOut.step (C1:=C3) (X1:=X3) rfl (Kept.of_below HB5.out) (fun _ _=>rfl) ?_
 refine WOut.step (C1:=C6) (X1:=X6) HK6.out HY.out.1 HY.out.2 ?_
 refine WOut.step (C1:=C9) (X1:=X9) HR9.out.1 HR9.out.2.1 HR9.out.2.2 ?_
 exact ⟨C10,_,HY10.out.1,(by unfold key; exact Prod.ext (key_xb (HR9.out.1.trans (HK6.out.trans HKX.out))).symm rfl),HY10.out.2.1,HY10.out.2.2⟩
end
end Go.Proofs.YtaehdgemkafinaaGreatDoor
