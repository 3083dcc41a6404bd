/-
  On the way to SPlaysProof: XV XW.
-/
import Derived.Test.YtaehdgemkafinaaGreatDoorBw31
import Derived.Test.YtaehdgemkafinaaGreatDoorBw30
set_option maxHeartbeats 8000000
set_option maxRecDepth 100000
namespace Go.Proofs.YtaehdgemkafinaaGreatDoor
open Go.RowKit
theorem sent_but (id:Nat) (deal kind att ph:Int):∀ k,sentL id deal kind att ph false k=if id<k then (toL id deal kind att ph k).eraseIdx id else toL id deal kind att ph k
 | 0=>by rw [if_neg (by omega)]; rfl
 | k+1=>by
  have ih:=sent_but id deal kind att ph k
  unfold sentL
  by_cases e:k=id
  ·subst e
   rw [if_pos ⟨rfl,rfl⟩,ih,if_neg (by omega),if_pos (by omega)]
   have hl:=toL_length k deal kind att ph k
   rw [toL,List.eraseIdx_append_of_length_le (by omega),hl,Nat.sub_self]
   simp
  ·rw [if_neg (fun g=>e g.1),ih]
   by_cases g:id<k
   ·rw [if_pos g,if_pos (by omega),toL,List.eraseIdx_append_of_lt_length (by rw [toL_length]; exact g)]
   ·rw [if_neg g,if_neg (by omega)]; rfl
theorem start_elects {id n:Nat} {deal att:Int} (hi:id<n) (ha:att≠0):startL id deal att n=electsL id deal att n:=by
 unfold startL electsL
 rw [if_neg ha,sent_but,if_pos hi]
theorem start_asks {id n:Nat} {deal:Int}:startL id deal 0 n=toL id deal 1 0 0 n:=by
 unfold startL
 rw [if_pos rfl,sent_to]
theorem Rel.new (n:Nat) (att:Int):Rel n att P0 ⟨if att=0 then 2 else 4,0,[],0,0⟩:=by
 refine ⟨P0_w n,rfl,by decide,?_,fun x hx=>(by cases hx),fun _=>?_,fun _=>?_,fun _=>?_,fun h=>(by cases h),rfl,fun _=>rfl,Int.le_refl _⟩
 ·show (if att=0 then (2:Int) else 4)=if (0:Nat)=0 then (if att=0 then 2 else 4) else _
  rw [if_pos rfl]
 ·exact (cntTo_nil n).symm
 ·exact (setTo_nil n).symm
 ·have:(if att=0 then ([]:List F9) else [])=[]:=by split <;> rfl
  show P0.told=(List.range 7).map (tl (if att=0 then [] else []))
  rw [this]
  rfl
section
variable {w0 w w1 w':World} {C C':Nat→Nat} {K:RB} {Y:YB} {aw:Option Addr} {i n cap m m' d:Nat} {zs:List Int} {N:PN} {V V':PX}
def updK (K:RB) (d lb:Nat) (vh:Value):RB:={ K with lb:=fun e=>if e=d then lb else K.lb e,vh:=fun e=>if e=d then vh else K.vh e }
theorem rldV_upd {lb:Nat} {vh:Value} {x:Int×PL} (e:Nat):rldV (updK K d lb vh) (setLd N d x) e=if e=d then .pointer (some ⟨lb,0,none⟩) else rldV K N e:=by
 unfold rldV setLd updK
 simp only
 by_cases g:e=d
 ·simp [g]
 ·simp [g]
theorem RN.lead' {S:Nat→Prop} {lb:Nat} {vh:Value} {a:Int} {P:PL} {L:LSt} (h:RN w C K i n cap aw N) (hu:upN N=true) (hd:d<6) (k:Kept S w w') (hS:∀ x,S x→C x=100 * i+8 ∨ C x=100 * i+10+d ∨ C x=100 * i+20+d) (hC:∀ x,x<w.heap.size→C' x=C x) (hr:w'.heap[K.ls]? = some (.cells #[rldV (updK K d lb vh) (setLd N d (a,P)) 0,rldV (updK K d lb vh) (setLd N d (a,P)) 1,rldV (updK K d lb vh) (setLd N d (a,P)) 2,rldV (updK K d lb vh) (setLd N d (a,P)) 3,rldV (updK K d lb vh) (setLd N d (a,P)) 4,rldV (updK K d lb vh) (setLd N d (a,P)) 5] 111 (0,0)))
  (hRel:Rel n a P L) (hL:RLd w' lb i n cap (d:Int) a aw (stB L.stt) L.wait vh L.hs L.ph L.seen) (c1:C' lb=100 * i+10+d) (c2:∀ g,vh.ownBlock=some g→C' g=100 * i+20+d) :
  RN w' C' (updK K d lb vh) i n cap aw (setLd N d (a,P)):=by
 have e1:=h.cn; have e2:=h.cr; have e3:=h.cl; have e4:=h.cd
 obtain ⟨q1,q2,q3,q4,q5⟩:=h.cu hu
 obtain ⟨u1,u2⟩:=h.up hu
 obtain ⟨t1,t2,t3,t4⟩:=u1.lts
 have no:∀ x,(C x≠100 * i+8∧C x≠100 * i+10+d∧C x≠100 * i+20+d)→¬ S x:=fun x q hs=>by have:=hS x hs; omega
 obtain ⟨off,l',cuts,p1,p2⟩:=h.pl
 refine ⟨k.row h.row (no K.nd (by omega)),⟨off,l',cuts,p1.kept k (no K.r (by omega)),p2⟩,fun _=>⟨u1.kept k (no K.m (by omega)) (no K.gn (by omega)) (no K.gs (by omega)) (no K.r (by omega)),u2.kept k (no K.t (by omega)) (no K.gb (by omega))⟩,hr,k.row h.drow (no K.dn (by omega)),fun e he x hx=>?_,(hC _ (row_ltJ h.row)).trans e1,(hC _ (row_ltJ p1)).trans e2,(hC _ (row_ltJ h.lrow)).trans e3,(hC _ (row_ltJ h.drow)).trans e4,fun _=>⟨(hC _ (row_ltJ u2.row)).trans q1,(hC _ t1).trans q2,(hC _ t2).trans q3,(hC _ t3).trans q4,(hC _ (row_ltJ u2.refs)).trans q5⟩,fun e he x hx=>?_⟩
 ·by_cases g:e=d
  ·subst g
   have hx':(a,P)=x:=by simpa [setLd] using hx
   subst hx'
   refine ⟨L,hRel,?_⟩
   simpa [updK] using hL
  ·have hx':N.ld e=some x:=by simpa [setLd,g] using hx
   obtain ⟨L',r1,r2⟩:=h.lds e he x hx'
   obtain ⟨b1,b2⟩:=h.ce e he x hx'
   refine ⟨L',r1,?_⟩
   have:=r2.kept k (no _ (by omega)) (fun y hy=>no y (by have:=b2 y hy; omega))
   simpa [updK,g] using this
 ·by_cases g:e=d
  ·subst g
   simpa [updK] using And.intro c1 c2
  ·have hx':N.ld e=some x:=by simpa [setLd,g] using hx
   obtain ⟨L',r1,r2⟩:=h.lds e he x hx'
   obtain ⟨b1,b2⟩:=h.ce e he x hx'
   have:=And.intro ((hC _ (row_ltJ r2.row)).trans b1) (fun y (hy:(K.vh e).ownBlock=some y)=>(hC _ ((r2.own.lt y hy).2)).trans (b2 y hy))
   simpa [updK,g] using this
theorem RW.leadOut {x:Int×PL} {P:PL} {L:LSt} {vh:Value} (h:RW w0 w C Y aw cap zs V m) (hi:i<zs.length) (hd:d<6) (hl:(V.nd i).ld d=some x) (k:Kept (InH ((Y.K i).lb d) ((Y.K i).vh d)) w w') (hr:Rel zs.length x.1 P L) (hR:RLd w' ((Y.K i).lb d) i zs.length cap (d:Int) x.1 aw (stB L.stt) L.wait vh L.hs L.ph L.seen) (hg:∀ g,vh.ownBlock=some g→((Y.K i).vh d).ownBlock=some g ∨ w.heap.size≤g) (hm:m≤m') (hI:NI zs.length (setLd (V.nd i) d (x.1,P)) m') :
  ROut w0 w w' C Y aw cap zs (setNd V i (setLd (V.nd i) d (x.1,P))) m':=by
 have n7:=h.n7.2
 have hN:=h.nds i hi
 have hu:upN (V.nd i)=true:=by have:=((h.inv.nd i hi).ld d x hl).1; unfold upN; simpa using this
 have e1:=hN.cn; have e3:=hN.cl
 obtain ⟨b1,b2⟩:=hN.ce d hd x hl
 have hS:∀ y,InH ((Y.K i).lb d) ((Y.K i).vh d) y→C y=100 * i+8 ∨ C y=100 * i+10+d ∨ C y=100 * i+20+d:=fun y hy=>by
  rcases hy with rfl|hy
  ·exact .inr (.inl b1)
  ·exact .inr (.inr (b2 y hy))
 have hlr:=k.row hN.lrow (fun q=>by
  rcases q with q|q
  ·rw [q] at e3; omega
  ·have:=b2 _ q; omega)
 obtain ⟨C1,hC1,hl1,hc1⟩:∃ C1:Nat→Nat,(∀ y,y<w.heap.size→C1 y=C y)∧(∀ y,w.heap.size≤y→C1 y<2000→y<w'.heap.size)∧∀ g,vh.ownBlock=some g→C1 g=100 * i+20+d:=by
  cases ho:vh.ownBlock with
  | none=>exact ⟨C,fun _ _=>rfl,fun y hy hc=>by have:=h.lt y hc; omega,fun g hgg=>by cases hgg⟩
  | some g0 =>
   rcases hg g0 ho with q|q
   ·exact ⟨C,fun _ _=>rfl,fun y hy hc=>by have:=h.lt y hc; omega,fun g hgg=>by cases hgg; exact b2 _ q⟩
   ·refine ⟨paint C g0 (100 * i+20+d),fun y hy=>paint_ne (by omega),fun y hy hc=>?_,fun g hgg=>by cases hgg; exact paint_at _ _ _⟩
    by_cases e:y=g0
    ·rw [e]; exact (hR.own.lt g0 ho).2
    ·rw [paint_ne e] at hc
     have:=h.lt y hc; omega
 have hrow:w'.heap[(Y.K i).ls]? = some (.cells #[rldV (updK (Y.K i) d ((Y.K i).lb d) vh) (setLd (V.nd i) d (x.1,P)) 0,rldV (updK (Y.K i) d ((Y.K i).lb d) vh) (setLd (V.nd i) d (x.1,P)) 1,rldV (updK (Y.K i) d ((Y.K i).lb d) vh) (setLd (V.nd i) d (x.1,P)) 2,rldV (updK (Y.K i) d ((Y.K i).lb d) vh) (setLd (V.nd i) d (x.1,P)) 3,rldV (updK (Y.K i) d ((Y.K i).lb d) vh) (setLd (V.nd i) d (x.1,P)) 4,rldV (updK (Y.K i) d ((Y.K i).lb d) vh) (setLd (V.nd i) d (x.1,P)) 5] 111 (0,0)):=by
  rw [hlr]
  have q:∀ e,rldV (updK (Y.K i) d ((Y.K i).lb d) vh) (setLd (V.nd i) d (x.1,P)) e=rldV (Y.K i) (V.nd i) e:=fun e=>by
   rw [rldV_upd]
   by_cases g:e=d
   ·rw [if_pos g,g,rldV_some hl]
   ·rw [if_neg g]
  simp only [q]
 have hRN:=hN.lead' (C':=C1) hu hd k hS hC1 hrow hr hR (by rw [hC1 _ (h.lt ((Y.K i).lb d) (by omega))]; exact b1) hc1
 exact ⟨C1,_,h.node k hi (fun y hy=>by have:=hS y hy; omega) hC1 hl1 hRN rfl hm (h.inv.node hI hm),rkey_K rfl,k.mono (fun y hy=>by show C y<2000; have:=hS y hy; omega),hC1⟩
theorem RW.leadNew {lb:Nat} {a:Int} (h:RW w0 w C Y aw cap zs V m) (hi:i<zs.length) (hd:d<6) (hu:upN (V.nd i)=true) (hb:Below w.heap.size w w1) (hR:RLd w1 lb i zs.length cap (d:Int) a aw (stB 0) (if a=0 then 2 else 4) (.slice none 0 0) [] 0 0) (hlb:w.heap.size≤lb) (ha:0≤a∧a≤1048576) (hm:m≤m') :
  ∃ C',RW w0 (w1.setCell ⟨(Y.K i).ls,d,none⟩ (.pointer (some ⟨lb,0,none⟩))) C' { Y with K:=fun e=>if e=i then updK (Y.K i) d lb (.slice none 0 0) else Y.K e } aw cap zs (setNd V i (setLd (V.nd i) d (a,P0))) m'∧Kept (OwnX C) w (w1.setCell ⟨(Y.K i).ls,d,none⟩ (.pointer (some ⟨lb,0,none⟩)))∧(∀ x,x<w.heap.size→C' x=C x)∧∀ x,x≠lb→C' x=C x:=by
 have n7:=h.n7.2
 have hN:=h.nds i hi
 have e1:=hN.cn; have e3:=hN.cl
 have hlt:=row_ltJ hR.row
 have hls:=row_ltJ hN.lrow
 have hw:=hb.size
 have k:Kept (In1 (Y.K i).ls) w (w1.setCell ⟨(Y.K i).ls,d,none⟩ (.pointer (some ⟨lb,0,none⟩))):=(Kept.of_below hb).set1 d _
 have hS:∀ y,In1 (Y.K i).ls y→C y=100 * i+8 ∨ C y=100 * i+10+d ∨ C y=100 * i+20+d:=fun y hy=>.inl (by rw [show y=_ from hy]; exact e3)
 have hl1:w1.heap[(Y.K i).ls]? = _:=(hb.block _ hls).trans hN.lrow
 have hrow:(w1.setCell ⟨(Y.K i).ls,d,none⟩ (.pointer (some ⟨lb,0,none⟩))).heap[(Y.K i).ls]? = some (.cells #[rldV (updK (Y.K i) d lb (.slice none 0 0)) (setLd (V.nd i) d (a,P0)) 0,rldV (updK (Y.K i) d lb (.slice none 0 0)) (setLd (V.nd i) d (a,P0)) 1,rldV (updK (Y.K i) d lb (.slice none 0 0)) (setLd (V.nd i) d (a,P0)) 2,rldV (updK (Y.K i) d lb (.slice none 0 0)) (setLd (V.nd i) d (a,P0)) 3,rldV (updK (Y.K i) d lb (.slice none 0 0)) (setLd (V.nd i) d (a,P0)) 4,rldV (updK (Y.K i) d lb (.slice none 0 0)) (setLd (V.nd i) d (a,P0)) 5] 111 (0,0)):=by
  rw [heap_setCell_same w1 (Y.K i).ls d _ _ _ hl1]
  simp only [rldV_upd]
  rcases six hd with rfl|rfl|rfl|rfl|rfl|rfl <;> rfl
 have hC:∀ x,x<w.heap.size→paint C lb (100 * i+10+d) x=C x:=fun x hx=>paint_ne (by omega)
 have hRL:RLd (w1.setCell ⟨(Y.K i).ls,d,none⟩ (.pointer (some ⟨lb,0,none⟩))) lb i zs.length cap (d:Int) a aw (stB 0) (if a=0 then 2 else 4) (.slice none 0 0) [] 0 0:=hR.kept ((Kept.refl (In1 (Y.K i).ls) w1).set1 d _) (fun q=>by have:lb=_:=q; omega) (fun g hg=>by cases hg)
 have hRN:=hN.lead' (C':=paint C lb (100 * i+10+d)) hu hd k hS hC hrow (Rel.new zs.length a) hRL (paint_at _ _ _) (fun g hg=>by cases hg)
 have hl2:(V.nd i).l≠-2:=by unfold upN at hu; simpa using hu
 have hI:=(h.inv.nd i hi).putLead (d:=d) (a:=a) (P:=P0) hl2 ha (by decide) ⟨Int.le_refl _,by decide⟩ (P0_w _)
 refine ⟨paint C lb (100 * i+10+d),h.node k hi (fun y hy=>by have:=hS y hy; omega) hC (fun y hy hc=>?_) hRN rfl hm (h.inv.node (hI.mono hm) hm),k.mono (fun y hy=>by show C y<2000; have:=hS y hy; omega),hC,fun x hx=>paint_ne hx⟩
 by_cases e:y=lb
 ·rw [e]; simpa using hlt
 ·rw [paint_ne e] at hc
  have:=h.lt y hc
  omega
end
section
variable {w0 w w1 w':World} {C C':Nat→Nat} {K:RB} {Y:YB} {aw:Option Addr} {i n cap m m':Nat} {zs:List Int} {N:PN} {V V':PX}
theorem RW.weights (h:RW w0 w C Y aw cap zs V m):∃ vb vo,aw=some ⟨vb,vo,none⟩∧vb<w0.heap.size∧∀ i,i<zs.length→w.cell? ⟨vb,vo+i,none⟩=some (.int .i64 (zs.getD i 0)):=by
 obtain ⟨a,cp,hv,-,-,hc⟩:=h.ws
 obtain ⟨b,off,ha,hcc⟩:=hc (by have:=h.n7.1; omega)
 cases hv
 refine ⟨b,off,ha,?_,fun i hi=>cell_later h.bel (hcc i hi)⟩
 have:=hcc 0 (by have:=h.n7.1; omega)
 exact cell_lt this
theorem ROut.mono (h:ROut w0 w w' C Y aw cap zs V m) (hm:m≤m'):ROut w0 w w' C Y aw cap zs V m':=by
 obtain ⟨C',Y',x1,x2,x3,x4⟩:=h
 exact ⟨C',Y',x1.mono hm,x2,x3,x4⟩
theorem rsend_kept (v:Value) (L:List F9) (h:RW w0 w C Y aw cap zs V m) (hv:IsFr w v L) (hL:∀ f,f∈L→FI zs.length f) (hl:L.length≤1000) (hm:m≤100000000) :
  Calls Tryz.prog 83 #[.pointer (some ⟨Y.xb,0,none⟩),v] w fun e w'=>e=.returned (.tuple #[])∧ROut w0 w w' C Y aw cap zs (sendX V L) (m+1)∧Kept (fun x=>C x=1001 ∨ C x=1005) w w':=by
 obtain ⟨-,-,-,c3,-⟩:=h.cells
 have z3:=h.fz 3
 have H:=hid h
 have HV:=hid hv
 have HL:=hid hL
 have hfl:V.fly.length+L.length≤1000000000000:=by have:=h.inv.fl; omega
 have HO:=hid h.fly
 have hbs:=h.bel.size
 have HX:Hid (∀ w',w.grownBy w' Y.fv.ownBlock→w'.cell? ⟨Y.xb,3,none⟩=some Y.fv∧w'.frozen? ⟨Y.xb,3,none⟩=false):=by
  intro w' hg
  have hr:=(grown_kept hg).row h.row (fun e=>by have h1:=h.cf _ e; have h2:=h.cx; omega)
  exact ⟨by rw [cell_of_row _ _ _ _ _ _ hr]; rfl,frozen_of_row _ _ _ _ _ hr⟩
 generalize hfv:Y.fv=fv at c3 HO
 have HFV:=hid hfv
 clear h hv hL hfv
 go_enter Tryz.func83,Tryz.ntmps83
 go_wp2_with (at_builtin; refine wpList_append_frs rfl _ _ rfl w0.heap.size V.fly.length _ v (frCells V.fly) L rfl rfl HO.out HV.out hfl hbs ?_; intro ad' cap' w' hown hg ho; obtain ⟨c3',z3'⟩:=HX.out w' (by rw [HFV.out]; exact hg); have HS:=hid (And.intro hown (And.intro hg ho)); clear hown hg ho)
 go_end0
 rw [← HFV.out] at HS
 refine ⟨rfl,?_,?_⟩
 ·refine H.out.framed (F:=V.fly ++ L) (grown_kept HS.out.2.1) (fun x hx=>hx) (by rw [List.length_append,frCells_append]; exact HS.out.1) ?_ (Nat.le_succ _) (H.out.inv.send HL.out hl)
  rcases HS.out.2.2 with o|o
  ·exact .inr (.inl o)
  ·exact .inr (.inr ⟨_,o,Nat.le_refl _⟩)
 ·exact ((grown_kept HS.out.2.1).mono (fun x hx=>.inr (H.out.cf x hx))).setCell (.inl H.out.cx) _
theorem leadX_at {V:PX} {d:Nat} {x:Int×PL} {F:F9} (h:(V.nd i).ld d=some x):leadX zs V i d F=setNd V i (setLd (V.nd i) d (x.1,(phear zs i d x.1 x.2 F).1))∧leadO zs V i d F=outL i d x.1 zs.length (phear zs i d x.1 x.2 F).2:=by
 unfold leadX leadO
 rw [h]
 exact ⟨rfl,rfl⟩
theorem leadX_no {V:PX} {d:Nat} {F:F9} (h:(V.nd i).ld d=none):leadX zs V i d F=V∧leadO zs V i d F=[]:=by
 unfold leadX leadO
 rw [h]
 exact ⟨rfl,rfl⟩
theorem phear_lt {id:Nat} {deal att:Int} {P:PL} {L:LSt} {f:F9} (h:Rel zs.length att P L) (h0:0≤att) (hn:zs.length≤7) (hp:f.k≠2→0≤f.pr):(phear zs id deal att P f).1.stt<4∧PW zs.length (phear zs id deal att P f).1:=by
 have:=(h.step (id:=id) (deal:=deal) h0 hn hp).2
 exact ⟨this.st4,this.pw⟩
theorem NI.hears {d:Nat} {x:Int×PL} {F:F9} {L:LSt} (h:NI zs.length N m) (hl:N.ld d=some x) (hr:Rel zs.length x.1 x.2 L) (hn:zs.length≤7) (hF:FI zs.length F):NI zs.length (setLd N d (x.1,(phear zs i d x.1 x.2 F).1)) m:=by
 obtain ⟨-,h1,h2,h3,h4⟩:=h.ld d x hl
 have hpr:0≤F.pr∧F.pr≤1048576:=by have:=hF.ok.2.2.2.2.2.2.1; omega
 obtain ⟨p1,p2⟩:=phear_lt (id:=i) (deal:=d) (f:=F) hr h1.1 hn (fun _=>hpr.1)
 exact h.leadHear hl p1 (phear_seen h3.1 h3.2 hpr.1 hpr.2) p2
theorem rdeliver_no (s:Int) (h:RW w0 w C Y aw cap zs V m) (hs:¬ (0≤s∧s<V.fly.length)) (hm:m≤100000000) :
  Calls Tryz.prog 27 #[.pointer (some ⟨Y.xb,0,none⟩),.int .i64 s] w fun e w'=>e=.returned (.int .i64 4)∧Below w.heap.size w w':=by
 have H:=hid h
 have HM:=hid hm
 have HS:=hid hs
 clear h hm hs
 go_enter Tryz.func27,Tryz.ntmps27
 go_wp2_with fail
 refine (rtake_no s H.out HS.out HM.out).mono ?_
 rintro e w1 ⟨rfl,h1⟩
 have H1:=hid (h1.trans ((alloc9 w1 0 0 0 0 0 false 0 0 0).mono h1.size))
 clear h1
 go_wp2_with fail
 go_ret
 exact ⟨rfl,H1.out⟩
end
end Go.Proofs.YtaehdgemkafinaaGreatDoor
