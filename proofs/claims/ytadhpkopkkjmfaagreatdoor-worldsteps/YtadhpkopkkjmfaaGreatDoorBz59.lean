/-
  On the way to WStepsProof: XU XV XW XX.
-/
import Derived.Test.YtadhpkopkkjmfaaGreatDoorBz50
import Derived.Test.YtadhpkopkkjmfaaGreatDoorBz48
import Derived.Test.YtadhpkopkkjmfaaGreatDoorBz51
import Derived.Test.YtadhpkopkkjmfaaGreatDoorBz52
set_option maxHeartbeats 8000000
set_option maxRecDepth 100000
namespace Go.Proofs.YtadhpkopkkjmfaaGreatDoor
open Go.RowKit
section
variable {zs:List Int} {id:Nat} {deal att:Int} {L:LSt} {f:F9}
theorem lhear_yes (h:forL zs.length id deal att L f∧(fromL L.hs f.f).isSome=false) (hy:f.y=true) :
  yesR zs id deal att (stB L.stt) f.k (L.hs ++ [f]) L.ph=(outL id deal att zs.length (lhear zs id deal att L f).2,stB (lhear zs id deal att L f).1.stt,(lhear zs id deal att L f).1.wait,(lhear zs id deal att L f).1.hs,(lhear zs id deal att L f).1.ph)∧(lhear zs id deal att L f).1.seen=seenL L f:=by
 have hy':¬ f.y=false:=by rw [hy]; decide
 have hw:L.wait=f.k:=h.1.2.1.symm
 unfold yesR
 by_cases h2:f.k=2
 ·by_cases hall:(L.hs ++ [f]).length=zs.length
  ·rw [lhear_all h hy' h2 hall,if_pos h2,if_pos hall]
   exact ⟨by simp only [outL,sent_to],rfl⟩
  ·rw [lhear_some h hy' h2 hall,if_pos h2,if_neg hall]
   exact ⟨by simp only [outL,hw],rfl⟩
 ·by_cases hen:enoughB zs (setTo (L.hs ++ [f]) zs.length)=false
  ·rw [lhear_few h hy' h2 hen,if_neg h2,if_pos hen]
   exact ⟨by simp only [outL,hw],rfl⟩
  ·by_cases h6:f.k=6
   ·rw [lhear_ack h hy' h2 hen h6,if_neg h2,if_neg hen,if_pos h6]
    exact ⟨by simp only [outL,sent_to],rfl⟩
   ·cases hc:refL (toldTo (L.hs ++ [f]) zs.length) with
    | mk p b =>
     cases b with
     | true =>
      rw [lhear_fin h hy' h2 hen h6 hc,if_neg h2,if_neg hen,if_neg h6]
      exact ⟨by simp [outL,sent_to],rfl⟩
     | false =>
      rw [lhear_pre h hy' h2 hen h6 hc,if_neg h2,if_neg hen,if_neg h6]
      exact ⟨by simp [outL,sent_to],rfl⟩
end
section
variable {w:World} {zs:List Int} {lb id cap vb vo:Nat} {deal att:Int} {vh:Value} {P:PL} {L:LSt} {f:F9}
def f9V (f:F9):Value:=frV f.f f.t f.d f.k f.a f.y f.ph f.pr f.pa
theorem rlhear_all (f:F9) (h:RLd w lb id zs.length cap deal att (some ⟨vb,vo,none⟩) (stB L.stt) L.wait vh L.hs L.ph L.seen) (hr:Rel zs.length att P L) (h0:0≤att) (hp:f.k≠2→0≤f.pr) (he:errW zs=0) (hvc:∀ i,i<zs.length→w.cell? ⟨vb,vo+i,none⟩=some (.int .i64 (zs.getD i 0))) (hvl:vb≠lb) (hvh:vh.ownBlock≠some vb) :
  Calls Tryz.prog 126 #[.pointer (some ⟨lb,0,none⟩),f9V f] w fun e w'=>∃ v vh' L',e=.returned v∧IsFr w' v (outL id deal att zs.length (phear zs id deal att P f).2)∧Rel zs.length att (phear zs id deal att P f).1 L'∧RLd w' lb id zs.length cap deal att (some ⟨vb,vo,none⟩) (stB L'.stt) L'.wait vh' L'.hs L'.ph L'.seen∧Kept (InH lb vh) w w'∧∀ g,vh'.ownBlock=some g→vh.ownBlock=some g ∨ w.heap.size≤g:=by
 have hn7:zs.length≤7:=(errW_zero he).2.1
 obtain ⟨s1,s2⟩:=hr.step (id:=id) (deal:=deal) (f:=f) h0 hn7 hp
 rw [s1]
 have hst:∀ (_:L.wait≠0),L.hs.length≤60:=fun hw=>by
  have:P.stt≤1:=by
   have:=hr.wait
   rcases Nat.lt_or_ge 1 P.stt with g|g
   ·rw [if_neg (by omega),if_neg (by omega)] at this; exact absurd this hw
   ·exact g
  rw [hr.cnt this]
  have:=cntTo_le L.hs zs.length
  omega
 by_cases hfor:forL zs.length id deal att L f
 ·obtain ⟨w1,w2,w3,w4,w5,r1,r2⟩:=hfor
  have hfor:forL zs.length id deal att L f:=⟨w1,w2,w3,w4,w5,r1,r2⟩
  have hl:=hst w1
  obtain ⟨ff,hff⟩:=Int.eq_ofNat_of_zero_le r1
  have hk:f.k=2 ∨ f.k=4 ∨ f.k=6:=by
   have:=hr.wait
   rw [w2]
   rw [this] at w1 ⊢
   split
   ·split
    ·exact .inl rfl
    ·exact .inr (.inl rfl)
   ·split
    ·exact .inr (.inr rfl)
    ·rename_i g1 g2
     rw [if_neg g1,if_neg g2] at w1; exact absurd rfl w1
  have hv:f9V f=frV (ff:Int) (id:Int) deal f.k att f.y f.ph f.pr f.pa:=by unfold f9V; rw [hff,w5,w3,w4]
  rw [← w2] at h
  rw [hv]
  cases hx:fromL L.hs (ff:Int) with
  | some x =>
   have hq:¬ (forL zs.length id deal att L f∧(fromL L.hs f.f).isSome=false):=fun g=>by
    have:=g.2
    rw [hff,hx] at this
    cases this
   rw [lhear_pass hq] at s2 ⊢
   refine (rlhear_again ff f.k f.y f.ph f.pr f.pa x h (by omega) (by rw [w2]; exact w1) (by omega) hx).mono ?_
   rintro e w' ⟨rfl,hb⟩
   rw [w2] at h
   exact ⟨_,vh,L,rfl,IsFr.zero _,s2,h.later hb,Kept.of_below hb,fun g hg=>.inl hg⟩
  | none =>
   have hq:forL zs.length id deal att L f∧(fromL L.hs f.f).isSome=false:=⟨hfor,by rw [hff,hx]; rfl⟩
   cases hy:f.y with
   | false =>
    refine (rlhear_no ff f.k f.ph f.pr f.pa (seenL L f) h (by omega) hk (by omega) hx hn7 rfl).mono ?_
    rintro e w' ⟨v,rfl,hv2,hr2,hk2⟩
    by_cases h2:f.k=2
    ·rw [lhear_no2 hq hy h2] at s2 ⊢
     rw [if_pos h2,sent_to] at hv2
     rw [if_pos h2] at hr2
     exact ⟨v,vh,_,rfl,hv2,s2,hr2,hk2.mono (fun x hx=>.inl hx),fun g hg=>.inl hg⟩
    ·rw [lhear_no hq hy h2] at s2 ⊢
     rw [if_neg h2] at hv2 hr2
     exact ⟨v,vh,_,rfl,hv2,s2,hr2,hk2.mono (fun x hx=>.inl hx),fun g hg=>.inl hg⟩
   | true =>
    obtain ⟨y1,y2⟩:=lhear_yes hq hy
    have hff9:f=⟨ff,id,deal,f.k,att,true,f.ph,f.pr,f.pa⟩:=by
     cases f
     simp only at hff w5 w3 w4 hy
     simp only [hff,w5,w3,w4,hy]
    refine (rlhear_yes vb vo zs ff f.k f.ph f.pr f.pa (seenL L f) _ (L.hs ++ [f]) (by rw [← hff9]) h hl hk (by omega) hx rfl he hvc hvl hvh rfl y1).mono ?_
    rintro e w' ⟨v,vh',rfl,hv2,hr2,hk2,hg2⟩
    refine ⟨v,vh',_,rfl,hv2,s2,?_,hk2,hg2⟩
    rw [y2]
    exact hr2
 ·have hq:¬ (forL zs.length id deal att L f∧(fromL L.hs f.f).isSome=false):=fun g=>hfor g.1
  rw [lhear_pass hq] at s2 ⊢
  refine (rlhear_not f.f f.t f.d f.k f.a f.y f.ph f.pr f.pa h hfor).mono ?_
  rintro e w' ⟨rfl,hb⟩
  exact ⟨_,vh,L,rfl,IsFr.zero _,s2,h.later hb,Kept.of_below hb,fun g hg=>.inl hg⟩
end
theorem sent_but (id:Nat) (deal kind att ph:Int):∀ k,sentL id deal kind att ph false k=if id<k then (toL id deal kind att ph k).eraseIdx id else toL id deal kind att ph k
 | 0=>by rw [if_neg (by omega)]; rfl
 | k+1=>by
  have ih:=sent_but id deal kind att ph k
  unfold sentL
  by_cases e:k=id
  ·subst e
   rw [if_pos ⟨rfl,rfl⟩,ih,if_neg (by omega),if_pos (by omega)]
   have hl:=toL_length k deal kind att ph k
   rw [toL,List.eraseIdx_append_of_length_le (by omega),hl,Nat.sub_self]
   simp
  ·rw [if_neg (fun g=>e g.1),ih]
   by_cases g:id<k
   ·rw [if_pos g,if_pos (by omega),toL,List.eraseIdx_append_of_lt_length (by rw [toL_length]; exact g)]
   ·rw [if_neg g,if_neg (by omega)]; rfl
theorem start_elects {id n:Nat} {deal att:Int} (hi:id<n) (ha:att≠0):startL id deal att n=electsL id deal att n:=by
 unfold startL electsL
 rw [if_neg ha,sent_but,if_pos hi]
theorem start_asks {id n:Nat} {deal:Int}:startL id deal 0 n=toL id deal 1 0 0 n:=by
 unfold startL
 rw [if_pos rfl,sent_to]
theorem Rel.new (n:Nat) (att:Int):Rel n att P0 ⟨if att=0 then 2 else 4,0,[],0,0⟩:=by
 refine ⟨P0_w n,rfl,by decide,?_,fun x hx=>(by cases hx),fun _=>?_,fun _=>?_,fun _=>?_,fun h=>(by cases h),rfl,fun _=>rfl,Int.le_refl _⟩
 ·show (if att=0 then (2:Int) else 4)=if (0:Nat)=0 then (if att=0 then 2 else 4) else _
  rw [if_pos rfl]
 ·exact (cntTo_nil n).symm
 ·exact (setTo_nil n).symm
 ·have:(if att=0 then ([]:List F9) else [])=[]:=by split <;> rfl
  show P0.told=(List.range 7).map (tl (if att=0 then [] else []))
  rw [this]
  rfl
section
variable {w0 w w1 w':World} {C C':Nat→Nat} {K:RB} {Y:YB} {aw:Option Addr} {i n cap m m' d:Nat} {zs:List Int} {N:PN} {V V':PX}
def updK (K:RB) (d lb:Nat) (vh:Value):RB:={ K with lb:=fun e=>if e=d then lb else K.lb e,vh:=fun e=>if e=d then vh else K.vh e }
theorem rldV_upd {lb:Nat} {vh:Value} {x:Int×PL} (e:Nat):rldV (updK K d lb vh) (setLd N d x) e=if e=d then .pointer (some ⟨lb,0,none⟩) else rldV K N e:=by
 unfold rldV setLd updK
 simp only
 by_cases g:e=d
 ·simp [g]
 ·simp [g]
theorem RN.lead' {S:Nat→Prop} {lb:Nat} {vh:Value} {a:Int} {P:PL} {L:LSt} (h:RN w C K i n cap aw N) (hu:upN N=true) (hd:d<6) (k:Kept S w w') (hS:∀ x,S x→C x=100 * i+8 ∨ C x=100 * i+10+d ∨ C x=100 * i+20+d) (hC:∀ x,x<w.heap.size→C' x=C x) (hr:w'.heap[K.ls]? = some (.cells #[rldV (updK K d lb vh) (setLd N d (a,P)) 0,rldV (updK K d lb vh) (setLd N d (a,P)) 1,rldV (updK K d lb vh) (setLd N d (a,P)) 2,rldV (updK K d lb vh) (setLd N d (a,P)) 3,rldV (updK K d lb vh) (setLd N d (a,P)) 4,rldV (updK K d lb vh) (setLd N d (a,P)) 5] 188 (0,0)))
  (hRel:Rel n a P L) (hL:RLd w' lb i n cap (d:Int) a aw (stB L.stt) L.wait vh L.hs L.ph L.seen) (c1:C' lb=100 * i+10+d) (c2:∀ g,vh.ownBlock=some g→C' g=100 * i+20+d) :
  RN w' C' (updK K d lb vh) i n cap aw (setLd N d (a,P)):=by
 have e1:=h.cn; have e2:=h.cr; have e3:=h.cl; have e4:=h.cd
 obtain ⟨q1,q2,q3,q4,q5⟩:=h.cu hu
 obtain ⟨u1,u2⟩:=h.up hu
 obtain ⟨t1,t2,t3,t4⟩:=u1.lts
 have no:∀ x,(C x≠100 * i+8∧C x≠100 * i+10+d∧C x≠100 * i+20+d)→¬ S x:=fun x q hs=>by have:=hS x hs; omega
 obtain ⟨off,l',cuts,p1,p2⟩:=h.pl
 refine ⟨k.row h.row (no K.nd (by omega)),⟨off,l',cuts,p1.kept k (no K.r (by omega)),p2⟩,fun _=>⟨u1.kept k (no K.m (by omega)) (no K.gn (by omega)) (no K.gs (by omega)) (no K.r (by omega)),u2.kept k (no K.t (by omega)) (no K.gb (by omega))⟩,hr,k.row h.drow (no K.dn (by omega)),fun e he x hx=>?_,(hC _ (row_ltJ h.row)).trans e1,(hC _ (row_ltJ p1)).trans e2,(hC _ (row_ltJ h.lrow)).trans e3,(hC _ (row_ltJ h.drow)).trans e4,fun _=>⟨(hC _ (row_ltJ u2.row)).trans q1,(hC _ t1).trans q2,(hC _ t2).trans q3,(hC _ t3).trans q4,(hC _ (row_ltJ u2.refs)).trans q5⟩,fun e he x hx=>?_⟩
 ·by_cases g:e=d
  ·subst g
   have hx':(a,P)=x:=by simpa [setLd] using hx
   subst hx'
   refine ⟨L,hRel,?_⟩
   simpa [updK] using hL
  ·have hx':N.ld e=some x:=by simpa [setLd,g] using hx
   obtain ⟨L',r1,r2⟩:=h.lds e he x hx'
   obtain ⟨b1,b2⟩:=h.ce e he x hx'
   refine ⟨L',r1,?_⟩
   have:=r2.kept k (no _ (by omega)) (fun y hy=>no y (by have:=b2 y hy; omega))
   simpa [updK,g] using this
 ·by_cases g:e=d
  ·subst g
   simpa [updK] using And.intro c1 c2
  ·have hx':N.ld e=some x:=by simpa [setLd,g] using hx
   obtain ⟨L',r1,r2⟩:=h.lds e he x hx'
   obtain ⟨b1,b2⟩:=h.ce e he x hx'
   have:=And.intro ((hC _ (row_ltJ r2.row)).trans b1) (fun y (hy:(K.vh e).ownBlock=some y)=>(hC _ ((r2.own.lt y hy).2)).trans (b2 y hy))
   simpa [updK,g] using this
theorem RW.leadOut {x:Int×PL} {P:PL} {L:LSt} {vh:Value} (h:RW w0 w C Y aw cap zs V m) (hi:i<zs.length) (hd:d<6) (hl:(V.nd i).ld d=some x) (k:Kept (InH ((Y.K i).lb d) ((Y.K i).vh d)) w w') (hr:Rel zs.length x.1 P L) (hR:RLd w' ((Y.K i).lb d) i zs.length cap (d:Int) x.1 aw (stB L.stt) L.wait vh L.hs L.ph L.seen) (hg:∀ g,vh.ownBlock=some g→((Y.K i).vh d).ownBlock=some g ∨ w.heap.size≤g) (hm:m≤m') (hI:NI zs.length (setLd (V.nd i) d (x.1,P)) m') :
  ROut w0 w w' C Y aw cap zs (setNd V i (setLd (V.nd i) d (x.1,P))) m':=by
 have n7:=h.n7.2
 have hN:=h.nds i hi
 have hu:upN (V.nd i)=true:=by have:=((h.inv.nd i hi).ld d x hl).1; unfold upN; simpa using this
 have e1:=hN.cn; have e3:=hN.cl
 obtain ⟨b1,b2⟩:=hN.ce d hd x hl
 have hS:∀ y,InH ((Y.K i).lb d) ((Y.K i).vh d) y→C y=100 * i+8 ∨ C y=100 * i+10+d ∨ C y=100 * i+20+d:=fun y hy=>by
  rcases hy with rfl|hy
  ·exact .inr (.inl b1)
  ·exact .inr (.inr (b2 y hy))
 have hlr:=k.row hN.lrow (fun q=>by
  rcases q with q|q
  ·rw [q] at e3; omega
  ·have:=b2 _ q; omega)
 obtain ⟨C1,hC1,hl1,hc1⟩:∃ C1:Nat→Nat,(∀ y,y<w.heap.size→C1 y=C y)∧(∀ y,w.heap.size≤y→C1 y<2000→y<w'.heap.size)∧∀ g,vh.ownBlock=some g→C1 g=100 * i+20+d:=by
  cases ho:vh.ownBlock with
  | none=>exact ⟨C,fun _ _=>rfl,fun y hy hc=>by have:=h.lt y hc; omega,fun g hgg=>by cases hgg⟩
  | some g0 =>
   rcases hg g0 ho with q|q
   ·exact ⟨C,fun _ _=>rfl,fun y hy hc=>by have:=h.lt y hc; omega,fun g hgg=>by cases hgg; exact b2 _ q⟩
   ·refine ⟨paint C g0 (100 * i+20+d),fun y hy=>paint_ne (by omega),fun y hy hc=>?_,fun g hgg=>by cases hgg; exact paint_at _ _ _⟩
    by_cases e:y=g0
    ·rw [e]; exact (hR.own.lt g0 ho).2
    ·rw [paint_ne e] at hc
     have:=h.lt y hc; omega
 have hrow:w'.heap[(Y.K i).ls]? = some (.cells #[rldV (updK (Y.K i) d ((Y.K i).lb d) vh) (setLd (V.nd i) d (x.1,P)) 0,rldV (updK (Y.K i) d ((Y.K i).lb d) vh) (setLd (V.nd i) d (x.1,P)) 1,rldV (updK (Y.K i) d ((Y.K i).lb d) vh) (setLd (V.nd i) d (x.1,P)) 2,rldV (updK (Y.K i) d ((Y.K i).lb d) vh) (setLd (V.nd i) d (x.1,P)) 3,rldV (updK (Y.K i) d ((Y.K i).lb d) vh) (setLd (V.nd i) d (x.1,P)) 4,rldV (updK (Y.K i) d ((Y.K i).lb d) vh) (setLd (V.nd i) d (x.1,P)) 5] 188 (0,0)):=by
  rw [hlr]
  have q:∀ e,rldV (updK (Y.K i) d ((Y.K i).lb d) vh) (setLd (V.nd i) d (x.1,P)) e=rldV (Y.K i) (V.nd i) e:=fun e=>by
   rw [rldV_upd]
   by_cases g:e=d
   ·rw [if_pos g,g,rldV_some hl]
   ·rw [if_neg g]
  simp only [q]
 have hRN:=hN.lead' (C':=C1) hu hd k hS hC1 hrow hr hR (by rw [hC1 _ (h.lt ((Y.K i).lb d) (by omega))]; exact b1) hc1
 exact ⟨C1,_,h.node k hi (fun y hy=>by have:=hS y hy; omega) hC1 hl1 hRN rfl hm (h.inv.node hI hm),rkey_K rfl,k.mono (fun y hy=>by show C y<2000; have:=hS y hy; omega),hC1⟩
theorem RW.leadNew {lb:Nat} {a:Int} (h:RW w0 w C Y aw cap zs V m) (hi:i<zs.length) (hd:d<6) (hu:upN (V.nd i)=true) (hb:Below w.heap.size w w1) (hR:RLd w1 lb i zs.length cap (d:Int) a aw (stB 0) (if a=0 then 2 else 4) (.slice none 0 0) [] 0 0) (hlb:w.heap.size≤lb) (ha:0≤a∧a≤1048576) (hm:m≤m') :
  ∃ C',RW w0 (w1.setCell ⟨(Y.K i).ls,d,none⟩ (.pointer (some ⟨lb,0,none⟩))) C' { Y with K:=fun e=>if e=i then updK (Y.K i) d lb (.slice none 0 0) else Y.K e } aw cap zs (setNd V i (setLd (V.nd i) d (a,P0))) m'∧Kept (OwnX C) w (w1.setCell ⟨(Y.K i).ls,d,none⟩ (.pointer (some ⟨lb,0,none⟩)))∧(∀ x,x<w.heap.size→C' x=C x)∧∀ x,x≠lb→C' x=C x:=by
 have n7:=h.n7.2
 have hN:=h.nds i hi
 have e1:=hN.cn; have e3:=hN.cl
 have hlt:=row_ltJ hR.row
 have hls:=row_ltJ hN.lrow
 have hw:=hb.size
 have k:Kept (In1 (Y.K i).ls) w (w1.setCell ⟨(Y.K i).ls,d,none⟩ (.pointer (some ⟨lb,0,none⟩))):=(Kept.of_below hb).set1 d _
 have hS:∀ y,In1 (Y.K i).ls y→C y=100 * i+8 ∨ C y=100 * i+10+d ∨ C y=100 * i+20+d:=fun y hy=>.inl (by rw [show y=_ from hy]; exact e3)
 have hl1:w1.heap[(Y.K i).ls]? = _:=(hb.block _ hls).trans hN.lrow
 have hrow:(w1.setCell ⟨(Y.K i).ls,d,none⟩ (.pointer (some ⟨lb,0,none⟩))).heap[(Y.K i).ls]? = some (.cells #[rldV (updK (Y.K i) d lb (.slice none 0 0)) (setLd (V.nd i) d (a,P0)) 0,rldV (updK (Y.K i) d lb (.slice none 0 0)) (setLd (V.nd i) d (a,P0)) 1,rldV (updK (Y.K i) d lb (.slice none 0 0)) (setLd (V.nd i) d (a,P0)) 2,rldV (updK (Y.K i) d lb (.slice none 0 0)) (setLd (V.nd i) d (a,P0)) 3,rldV (updK (Y.K i) d lb (.slice none 0 0)) (setLd (V.nd i) d (a,P0)) 4,rldV (updK (Y.K i) d lb (.slice none 0 0)) (setLd (V.nd i) d (a,P0)) 5] 188 (0,0)):=by
  rw [heap_setCell_same w1 (Y.K i).ls d _ _ _ hl1]
  simp only [rldV_upd]
  rcases six hd with rfl|rfl|rfl|rfl|rfl|rfl <;> rfl
 have hC:∀ x,x<w.heap.size→paint C lb (100 * i+10+d) x=C x:=fun x hx=>paint_ne (by omega)
 have hRL:RLd (w1.setCell ⟨(Y.K i).ls,d,none⟩ (.pointer (some ⟨lb,0,none⟩))) lb i zs.length cap (d:Int) a aw (stB 0) (if a=0 then 2 else 4) (.slice none 0 0) [] 0 0:=hR.kept ((Kept.refl (In1 (Y.K i).ls) w1).set1 d _) (fun q=>by have:lb=_:=q; omega) (fun g hg=>by cases hg)
 have hRN:=hN.lead' (C':=paint C lb (100 * i+10+d)) hu hd k hS hC hrow (Rel.new zs.length a) hRL (paint_at _ _ _) (fun g hg=>by cases hg)
 have hl2:(V.nd i).l≠-2:=by unfold upN at hu; simpa using hu
 have hI:=(h.inv.nd i hi).putLead (d:=d) (a:=a) (P:=P0) hl2 ha (by decide) ⟨Int.le_refl _,by decide⟩ (P0_w _)
 refine ⟨paint C lb (100 * i+10+d),h.node k hi (fun y hy=>by have:=hS y hy; omega) hC (fun y hy hc=>?_) hRN rfl hm (h.inv.node (hI.mono hm) hm),k.mono (fun y hy=>by show C y<2000; have:=hS y hy; omega),hC,fun x hx=>paint_ne hx⟩
 by_cases e:y=lb
 ·rw [e]; simpa using hlt
 ·rw [paint_ne e] at hc
  have:=h.lt y hc
  omega
end
section
variable {w0 w w1 w':World} {C C':Nat→Nat} {K:RB} {Y:YB} {aw:Option Addr} {i n cap m m':Nat} {zs:List Int} {N:PN} {V V':PX}
theorem RW.weights (h:RW w0 w C Y aw cap zs V m):∃ vb vo,aw=some ⟨vb,vo,none⟩∧vb<w0.heap.size∧∀ i,i<zs.length→w.cell? ⟨vb,vo+i,none⟩=some (.int .i64 (zs.getD i 0)):=by
 obtain ⟨a,cp,hv,-,-,hc⟩:=h.ws
 obtain ⟨b,off,ha,hcc⟩:=hc (by have:=h.n7.1; omega)
 cases hv
 refine ⟨b,off,ha,?_,fun i hi=>cell_later h.bel (hcc i hi)⟩
 have:=hcc 0 (by have:=h.n7.1; omega)
 exact cell_lt this
theorem ROut.mono (h:ROut w0 w w' C Y aw cap zs V m) (hm:m≤m'):ROut w0 w w' C Y aw cap zs V m':=by
 obtain ⟨C',Y',x1,x2,x3,x4⟩:=h
 exact ⟨C',Y',x1.mono hm,x2,x3,x4⟩
theorem rsend_kept (v:Value) (L:List F9) (h:RW w0 w C Y aw cap zs V m) (hv:IsFr w v L) (hL:∀ f,f∈L→FI zs.length f) (hl:L.length≤1000) (hm:m≤100000000) :
  Calls Tryz.prog 122 #[.pointer (some ⟨Y.xb,0,none⟩),v] w fun e w'=>e=.returned (.tuple #[])∧ROut w0 w w' C Y aw cap zs (sendX V L) (m+1)∧Kept (fun x=>C x=1001 ∨ C x=1005) w w':=by
 obtain ⟨-,-,-,c3,-⟩:=h.cells
 have z3:=h.fz 3
 have H:=hid h
 have HV:=hid hv
 have HL:=hid hL
 have hfl:V.fly.length+L.length≤1000000000000:=by have:=h.inv.fl; omega
 have HO:=hid h.fly
 have hbs:=h.bel.size
 have HX:Hid (∀ w',w.grownBy w' Y.fv.ownBlock→w'.cell? ⟨Y.xb,3,none⟩=some Y.fv∧w'.frozen? ⟨Y.xb,3,none⟩=false):=by
  intro w' hg
  have hr:=(grown_kept hg).row h.row (fun e=>by have h1:=h.cf _ e; have h2:=h.cx; omega)
  exact ⟨by rw [cell_of_row _ _ _ _ _ _ hr]; rfl,frozen_of_row _ _ _ _ _ hr⟩
 generalize hfv:Y.fv=fv at c3 HO
 have HFV:=hid hfv
 clear h hv hL hfv
 go_enter Tryz.func122,Tryz.ntmps122
 go_wp2_with (at_builtin; refine wpList_append_frs rfl _ _ rfl w0.heap.size V.fly.length _ v (frCells V.fly) L rfl rfl HO.out HV.out hfl hbs ?_; intro ad' cap' w' hown hg ho; obtain ⟨c3',z3'⟩:=HX.out w' (by rw [HFV.out]; exact hg); have HS:=hid (And.intro hown (And.intro hg ho)); clear hown hg ho)
 go_end0
 rw [← HFV.out] at HS
 refine ⟨rfl,?_,?_⟩
 ·refine H.out.framed (F:=V.fly ++ L) (grown_kept HS.out.2.1) (fun x hx=>hx) (by rw [List.length_append,frCells_append]; exact HS.out.1) ?_ (Nat.le_succ _) (H.out.inv.send HL.out hl)
  rcases HS.out.2.2 with o|o
  ·exact .inr (.inl o)
  ·exact .inr (.inr ⟨_,o,Nat.le_refl _⟩)
 ·exact ((grown_kept HS.out.2.1).mono (fun x hx=>.inr (H.out.cf x hx))).setCell (.inl H.out.cx) _
theorem leadX_at {V:PX} {d:Nat} {x:Int×PL} {F:F9} (h:(V.nd i).ld d=some x):leadX zs V i d F=setNd V i (setLd (V.nd i) d (x.1,(phear zs i d x.1 x.2 F).1))∧leadO zs V i d F=outL i d x.1 zs.length (phear zs i d x.1 x.2 F).2:=by
 unfold leadX leadO
 rw [h]
 exact ⟨rfl,rfl⟩
theorem leadX_no {V:PX} {d:Nat} {F:F9} (h:(V.nd i).ld d=none):leadX zs V i d F=V∧leadO zs V i d F=[]:=by
 unfold leadX leadO
 rw [h]
 exact ⟨rfl,rfl⟩
theorem phear_lt {id:Nat} {deal att:Int} {P:PL} {L:LSt} {f:F9} (h:Rel zs.length att P L) (h0:0≤att) (hn:zs.length≤7) (hp:f.k≠2→0≤f.pr):(phear zs id deal att P f).1.stt<4∧PW zs.length (phear zs id deal att P f).1:=by
 have:=(h.step (id:=id) (deal:=deal) h0 hn hp).2
 exact ⟨this.st4,this.pw⟩
theorem NI.hears {d:Nat} {x:Int×PL} {F:F9} {L:LSt} (h:NI zs.length N m) (hl:N.ld d=some x) (hr:Rel zs.length x.1 x.2 L) (hn:zs.length≤7) (hF:FI zs.length F):NI zs.length (setLd N d (x.1,(phear zs i d x.1 x.2 F).1)) m:=by
 obtain ⟨-,h1,h2,h3,h4⟩:=h.ld d x hl
 have hpr:0≤F.pr∧F.pr≤1048576:=by have:=hF.ok.2.2.2.2.2.2.1; omega
 obtain ⟨p1,p2⟩:=phear_lt (id:=i) (deal:=d) (f:=F) hr h1.1 hn (fun _=>hpr.1)
 exact h.leadHear hl p1 (phear_seen h3.1 h3.2 hpr.1 hpr.2) p2
theorem rdeliver_no (s:Int) (h:RW w0 w C Y aw cap zs V m) (hs:¬ (0≤s∧s<V.fly.length)) (hm:m≤100000000) :
  Calls Tryz.prog 97 #[.pointer (some ⟨Y.xb,0,none⟩),.int .i64 s] w fun e w'=>e=.returned (.int .i64 4)∧Below w.heap.size w w':=by
 have H:=hid h
 have HM:=hid hm
 have HS:=hid hs
 clear h hm hs
 go_enter Tryz.func97,Tryz.ntmps97
 go_wp2_with fail
 refine (rtake_no s H.out HS.out HM.out).mono ?_
 rintro e w1 ⟨rfl,h1⟩
 have H1:=hid (h1.trans ((alloc9 w1 0 0 0 0 0 false 0 0 0).mono h1.size))
 clear h1
 go_wp2_with fail
 go_ret
 exact ⟨rfl,H1.out⟩
end
section
variable {w0 w w1 w':World} {C C':Nat→Nat} {K:RB} {Y:YB} {aw:Option Addr} {i n cap m m':Nat} {zs:List Int} {N:PN} {V V':PX}
theorem rdeliver_ok (j:Nat) (F:F9) (h:RW w0 w C Y aw cap zs V m) (hj:j<V.fly.length) (hF:V.fly[j]'hj=F) (hm:m<1000000) :
  Calls Tryz.prog 97 #[.pointer (some ⟨Y.xb,0,none⟩),.int .i64 (j:Int)] w fun e w'=>e=.returned (.int .i64 0)∧ROut w0 w w' C Y aw cap zs (deliverX zs V j F) (m+3):=by
 have HFI:=hid (h.inv.fr F (by rw [← hF]; exact List.getElem_mem _))
 obtain ⟨f,i,d,k,a,ph,pr,pa,e0,hf,hi,hd⟩:=HFI.out.nat
 obtain ⟨y,hy⟩:∃ y,F.y=y:=⟨_,rfl⟩
 rw [hy] at e0
 have HF0:=hid e0
 have H:=hid h
 have n7:=h.n7.2
 have HT:=hid (rtake_ok j F h hj hF (by omega))
 rw [e0] at HT
 simp only [frN] at HT
 have HFF:=hid hf
 have HII:=hid hi
 clear h e0 hF hj
 go_enter Tryz.func97,Tryz.ntmps97
 go_wp2_with fail
 refine HT.out.mono ?_
 rintro e w1 ⟨rfl,C1,Y1,g1,g2,g3,g4⟩
 obtain ⟨W3,HW3⟩:∃ W3,Hid (w1.alloc (.cells #[.int .i64 (f:Int),.int .i64 (i:Int),.int .i64 (d:Int),.int .i64 (k:Int),.int .i64 (a:Int),.bool y,.int .i64 (ph:Int),.int .i64 (pr:Int),.int .i64 (pa:Int)] 104)=W3):=⟨_,rfl⟩
 have HBW:Hid (Below w1.heap.size w1 W3):=by rw [← HW3.out]; exact (Below.refl _ _).alloc (Nat.le_refl _) _
 have HR3:Hid (W3.heap[w1.heap.size]? = some (.cells #[.int .i64 (f:Int),.int .i64 (i:Int),.int .i64 (d:Int),.int .i64 (k:Int),.int .i64 (a:Int),.bool y,.int .i64 (ph:Int),.int .i64 (pr:Int),.int .i64 (pa:Int)] 104 (0,0))):=by rw [← HW3.out]; exact heap_alloc_new w1 _
 have hW3:=HW3.out
 have HNW3:Hid (2000≤C1 w1.heap.size):=by
  rcases Nat.lt_or_ge (C1 w1.heap.size) 2000 with q|q
  ·have:=g1.lt _ q; omega
  ·exact q
 have HG:=hid (And.intro (g1.later HBW.out) g2)
 have HK3:Hid (Kept (OwnX C) w W3):=g3.trans (Kept.of_below HBW.out)
 have HC3:Hid (∀ x,x<w.heap.size→C1 x=C x):=g4
 have HXB:Hid (Y1.xb=Y.xb):=rkey_xb g2
 clear g1 g2 g3 g4
 obtain ⟨b0,b1,b2,b3,b4,b5,b6,b7,b8⟩:=nine HR3.out
 obtain ⟨-,c1,-,-,-⟩:=HG.out.1.cells
 rw [HXB.out] at c1
 have c2:=HG.out.1.ns i hi
 obtain ⟨z,hz⟩:∃ z,Hid (zs.length=z):=⟨_,rfl⟩
 have HZ:=hid n7
 rw [hz.out] at c1 hf hi n7
 have hW3':=HW3.out
 go_wp2_with fail
 go_quiet (fail)
 rename_i nq
 obtain ⟨W4,HW4⟩:∃ W4,Hid (W3.drewN nq=W4):=⟨_,rfl⟩
 have HB4:Hid (Below W3.heap.size W3 W4):=by rw [← HW4.out]; exact below_drewN (Below.refl _ _) nq
 have hW4:=HW4.out
 rw [hW4]
 clear hW4 b0 b1 b2 b3 b4 b5 b6 b7 b8 c1 c2 hW3 hW3'
 have HR4:Hid (W4.heap[w1.heap.size]? = some (.cells #[.int .i64 (f:Int),.int .i64 (i:Int),.int .i64 (d:Int),.int .i64 (k:Int),.int .i64 (a:Int),.bool y,.int .i64 (ph:Int),.int .i64 (pr:Int),.int .i64 (pa:Int)] 104 (0,0))):=by rw [← HW4.out]; exact HR3.out
 have H4:=hid (HG.out.1.later HB4.out)
 obtain ⟨b0,b1,b2,b3,b4,b5,b6,b7,b8⟩:=nine HR4.out
 have HN4:=hid (H4.out.nds i HII.out)
 obtain ⟨d0,-,d2,-⟩:=HN4.out.cells
 have hlead:=HN4.out.lead hd
 have HBr:=hid (rbroken_is f i H4.out (by omega) (by omega) (by omega))
 obtain ⟨q,HQ⟩:∃ q,Hid ((!(decide (f=i) || !brX (takeX V j) f i))=q):=⟨_,rfl⟩
 rw [HQ.out,HXB.out] at HBr
 obtain ⟨u,HU⟩:∃ u,Hid (upN (V.nd i)=u):=⟨_,rfl⟩
 have HU2:Hid (upN ((takeX V j).nd i)=u):=HU.out
 have HRr:Hid (reachB (takeX V j) F=(u && !q)):=by
  rw [HF0.out]
  unfold reachB
  rw [← HQ.out,← HU.out,Bool.not_not]
  show (upN ((takeX V j).nd ((i:Int)).toNat) && (((f:Int) == (i:Int)) || !brX (takeX V j) ((f:Int)).toNat ((i:Int)).toNat))=_
  rw [Int.toNat_natCast,Int.toNat_natCast]
  have:((f:Int) == (i:Int))=decide (f=i):=by
   by_cases e:f=i
   ·subst e; simp
   ·rw [decide_eq_false e]; exact beq_eq_false_iff_ne.2 (by omega)
  rw [this]
  rfl
 have HDX:Hid (deliverX zs V j F=if (u && !q)=true then sendX (arriveX zs (takeX V j) F) (arriveO zs (takeX V j) F) else takeX V j):=by
  unfold deliverX
  rw [← HRr.out]
  exact rfl
 have HK4:Hid (Kept (OwnX C) w W4):=HK3.out.trans (Kept.of_below HB4.out)
 have HKY:Hid (rkey Y1=rkey Y):=HG.out.2
 unfold rsV at d0
 rw [HU2.out] at d0
 go_wp2_with fail
 refine HBr.out.mono ?_
 rintro e w5 ⟨rfl,hx5⟩
 subst w5
 cases u with
 | false =>
  rw [if_neg (by decide)] at d0
  go_wp2_with fail
  go_ret
  refine ⟨rfl,?_⟩
  rw [HDX.out,if_neg (by simp)]
  exact ⟨C1,Y1,H4.out.mono (by omega),HKY.out,HK4.out,HC3.out⟩
 | true =>
  rw [if_pos rfl] at d0
  cases q with
  | true =>
   go_wp2_with fail
   go_ret
   refine ⟨rfl,?_⟩
   rw [HDX.out,if_neg (by simp)]
   exact ⟨C1,Y1,H4.out.mono (by omega),HKY.out,HK4.out,HC3.out⟩
  | false =>
   rw [if_pos (by simp)] at HDX
   have HNS:Hid (∀ x,C1 x<2000→x≠w1.heap.size):=fun x hx e=>by have:=HNW3.out; rw [e] at hx; omega
   by_cases hk3:k=2 ∨ k=4 ∨ k=6
   ·have HA:Hid (arriveX zs (takeX V j) F=leadX zs (takeX V j) i d F∧arriveO zs (takeX V j) F=leadO zs (takeX V j) i d F):=by
     have e1:isAns F.k=true:=by rw [HF0.out]; unfold isAns; show decide ((k:Int)=2 ∨ (k:Int)=4 ∨ (k:Int)=6)=true; exact decide_eq_true (by omega)
     have e2:F.t.toNat=i:=by rw [HF0.out]; exact Int.toNat_natCast i
     have e3:F.d.toNat=d:=by rw [HF0.out]; exact Int.toNat_natCast d
     unfold arriveX arriveO
     rw [if_pos e1,if_pos e1,e2,e3]
     exact ⟨rfl,rfl⟩
    cases hx:(V.nd i).ld d with
    | none =>
     rw [rldV_none (show ((takeX V j).nd i).ld d=none from hx)] at hlead
     have HX:Hid (sendX (arriveX zs (takeX V j) F) (arriveO zs (takeX V j) F)=takeX V j):=by
      obtain ⟨x1,x2⟩:=leadX_no (zs:=zs) (F:=F) (show ((takeX V j).nd i).ld d=none from hx)
      rw [HA.out.1,HA.out.2,x1,x2]; exact sendX_nil
     clear hx
     rcases hk3 with rfl|rfl|rfl
     all_goals
      go_wp2_with fail
      go_quiet (fail)
      rename Nat=>nq2
      have HB5:Hid (Below W4.heap.size W4 (W4.drewN nq2)):=below_drewN (Below.refl _ _) nq2
      go_wp2_with fail
      go_ret
      refine ⟨rfl,?_⟩
      rw [HDX.out,HX.out]
      exact ⟨C1,Y1,(H4.out.later HB5.out).mono (by omega),HKY.out,HK4.out.trans (Kept.of_below HB5.out),HC3.out⟩
    | some x =>
     have hx':((takeX V j).nd i).ld d=some x:=hx
     rw [rldV_some hx'] at hlead
     have HX:=hid hx'
     obtain ⟨vb,vo,rfl,hvb,hvc⟩:=H4.out.weights
     have HVC:=hid hvc
     have HVB:=hid hvb
     obtain ⟨L,hRel,hRL⟩:=HN4.out.lds d hd x hx'
     obtain ⟨hce1,hce2⟩:=HN4.out.ce d hd x hx'
     have HCE:=hid (And.intro hce1 hce2)
     have HRel:=hid hRel
     have HRL:=hid hRL
     have HNI:=hid ((H4.out.inv.nd i HII.out).ld d x hx')
     have HSx:Hid (sendX (arriveX zs (takeX V j) F) (arriveO zs (takeX V j) F)=sendX (setNd (takeX V j) i (setLd ((takeX V j).nd i) d (x.1,(phear zs i d x.1 x.2 F).1))) (outL i d x.1 zs.length (phear zs i d x.1 x.2 F).2)):=by
      obtain ⟨x1,x2⟩:=leadX_at (zs:=zs) (F:=F) hx'
      rw [HA.out.1,HA.out.2,x1,x2]; exact rfl
     have HH:Hid (∀ kv:Int,(k:Int)=kv→∀ W',Below W4.heap.size W4 W'→Calls Tryz.prog 126 #[.pointer (some ⟨(Y1.K i).lb d,0,none⟩),frV (f:Int) (i:Int) (d:Int) kv (a:Int) y (ph:Int) (pr:Int) (pa:Int)] W' fun e w'=>∃ v vh' L',e=.returned v∧IsFr w' v (outL i d x.1 zs.length (phear zs i d x.1 x.2 F).2)∧Rel zs.length x.1 (phear zs i d x.1 x.2 F).1 L'∧RLd w' ((Y1.K i).lb d) i zs.length cap (d:Int) x.1 (some ⟨vb,vo,none⟩) (stB L'.stt) L'.wait vh' L'.hs L'.ph L'.seen∧Kept (InH ((Y1.K i).lb d) ((Y1.K i).vh d)) W' w'∧∀ g,vh'.ownBlock=some g→((Y1.K i).vh d).ownBlock=some g ∨ W'.heap.size≤g):=by
      rintro _ rfl W' hb
      have hlo:=H4.out.low
      have:=rlhear_all (w:=W') (zs:=zs) (lb:=(Y1.K i).lb d) (id:=i) (cap:=cap) (vb:=vb) (vo:=vo) (deal:=d) (att:=x.1) (vh:=(Y1.K i).vh d) (P:=x.2) (L:=L) F (HRL.out.later hb) HRel.out HNI.out.2.1.1 (fun _=>by have:=HFI.out.ok.2.2.2.2.2.2.1; omega) H4.out.inv.he (fun q hq=>cell_later hb (HVC.out q hq)) (fun e=>by have h5:=hlo ((Y1.K i).lb d) (by have:=HCE.out.1; omega); have:=HVB.out; omega) (fun e=>by have h6:=HCE.out.2 _ e; have h5:=hlo vb (by omega); have:=HVB.out; omega)
      rw [HF0.out] at this ⊢
      exact this
     have HK1:Hid (∀ W' w',Kept (InH ((Y1.K i).lb d) ((Y1.K i).vh d)) W' w'→∀ a u,W'.cell? a=some u→(a.block=(Y1.K i).nd ∨ a.block=(Y1.K i).ls ∨ a.block=w1.heap.size)→w'.cell? a=some u):=by
      intro W' w' hk a u hc ha
      refine keptCell hk hc (fun q=>?_)
      have c1:=HN4.out.cn; have c2:=HN4.out.cl; have c3:=HNW3.out
      rcases q with q|q
      ·have:=HCE.out.1
       rw [q] at ha
       rcases ha with e|e|e <;> (rw [e] at this; omega)
      ·have:=HCE.out.2 _ q
       rcases ha with e|e|e <;> (rw [e] at this; omega)
     have HNI2:=hid (((H4.out.inv.nd i HII.out).hears (i:=i) (d:=d) (F:=F) hx' hRel HZ.out HFI.out))
     have HOF:=hid (outL_fi (zs:=zs) (id:=i) (d:=d) (att:=x.1) (P:=x.2) (f:=F) HII.out HZ.out hd HNI.out.2.1)
     have HOL:Hid ((outL i d x.1 zs.length (phear zs i d x.1 x.2 F).2).length≤1000):=Nat.le_trans (outL_le _ _ _ _ _) (by have:=HZ.out; omega)
     have HAF:Hid (∀ W5 w6 v vh' L',Below W4.heap.size W4 W5→IsFr w6 v (outL i d x.1 zs.length (phear zs i d x.1 x.2 F).2)→Rel zs.length x.1 (phear zs i d x.1 x.2 F).1 L'→RLd w6 ((Y1.K i).lb d) i zs.length cap (d:Int) x.1 (some ⟨vb,vo,none⟩) (stB L'.stt) L'.wait vh' L'.hs L'.ph L'.seen→Kept (InH ((Y1.K i).lb d) ((Y1.K i).vh d)) W5.drew w6→(∀ g,vh'.ownBlock=some g→((Y1.K i).vh d).ownBlock=some g ∨ W5.drew.heap.size≤g) →
       ∃ C6 Y6,(rkey Y6=rkey Y1∧Kept (OwnX C1) W5.drew w6∧∀ x,x<W5.drew.heap.size→C6 x=C1 x)∧(Calls Tryz.prog 122 #[.pointer (some ⟨Y.xb,0,none⟩),v] w6 fun e w'=>e=.returned (.tuple #[])∧ROut w0 w6 w' C6 Y6 (some ⟨vb,vo,none⟩) cap zs (sendX (setNd (takeX V j) i (setLd ((takeX V j).nd i) d (x.1,(phear zs i d x.1 x.2 F).1))) (outL i d x.1 zs.length (phear zs i d x.1 x.2 F).2)) (m+1)∧Kept (fun x=>C6 x=1001 ∨ C6 x=1005) w6 w')∧(∀ w',Kept (fun x=>C6 x=1001 ∨ C6 x=1005) w6 w'→∀ a u,w6.cell? a=some u→(a.block=(Y1.K i).nd ∨ a.block=(Y1.K i).ls ∨ a.block=w1.heap.size)→w'.cell? a=some u)):=by
      intro W5 w6 v vh' L' hb5 hv6 hr6 hl6 hk6 hg6
      have H5:=H4.out.later hb5.drew
      obtain ⟨C6,Y6,x1,x2,x3,x4⟩:=H5.leadOut HII.out hd HX.out hk6 hr6 hl6 hg6 (Nat.le_refl _) HNI2.out
      have hsend:=rsend_kept v _ x1 hv6 HOF.out HOL.out (by omega)
      rw [rkey_xb x2,HXB.out] at hsend
      refine ⟨C6,Y6,⟨x2,x3,x4⟩,hsend,fun w' hk a u hc ha=>keptCell hk hc (fun q=>?_)⟩
      have c1:=HN4.out.cn; have c2:=HN4.out.cl; have c3:=HNW3.out
      have z1:=row_ltJ HN4.out.row; have z2:=row_ltJ HN4.out.lrow; have z3:=row_ltJ HR4.out
      have z4:W4.heap.size≤W5.drew.heap.size:=hb5.drew.size
      have y1:=x4 (Y1.K i).nd (by omega); have y2:=x4 (Y1.K i).ls (by omega); have y3:=x4 w1.heap.size (by omega)
      rcases ha with e|e|e <;> (rw [e] at q; omega)
     clear hx hx' hvb hvc hRel hRL hce1 hce2
     rcases hk3 with rfl|rfl|rfl
     ·go_wp2_with fail
      go_quiet (fail)
      rename Nat=>nq2
      obtain ⟨W5,HW5⟩:∃ W5,Hid (W4.drewN nq2=W5):=⟨_,rfl⟩
      have HB5:Hid (Below W4.heap.size W4 W5):=by rw [← HW5.out]; exact below_drewN (Below.refl _ _) nq2
      have hW5:=HW5.out
      rw [hW5]
      clear hW5
      have b0:=cell_later HB5.out b0
      have b1:=cell_later HB5.out b1
      have b2:=cell_later HB5.out b2
      have b3:=cell_later HB5.out b3
      have b4:=cell_later HB5.out b4
      have b5:=cell_later HB5.out b5
      have b6:=cell_later HB5.out b6
      have b7:=cell_later HB5.out b7
      have b8:=cell_later HB5.out b8
      have d2:=cell_later HB5.out d2
      have hlead:=cell_later HB5.out hlead
      go_wp2_with fail
      have hd0:(0:Int)≤(d:Int):=by omega
      have hd6:(d:Int)<6:=by omega
      have hd7:¬ ((d:Int)<0):=by omega
      go_region_held3 (fun V=>V.cell? ⟨(Y1.K i).nd,2,none⟩=some (.slice (some ⟨(Y1.K i).ls,0,none⟩) 6 6)∧V.cell? ⟨(Y1.K i).ls,d,none⟩=some (.pointer (some ⟨(Y1.K i).lb d,0,none⟩))∧V.cell? ⟨w1.heap.size,0,none⟩=some (.int .i64 (f:Int))∧V.cell? ⟨w1.heap.size,1,none⟩=some (.int .i64 (i:Int))∧V.cell? ⟨w1.heap.size,2,none⟩=some (.int .i64 (d:Int))∧V.cell? ⟨w1.heap.size,3,none⟩=some (.int .i64 ((2:Nat):Int))∧V.cell? ⟨w1.heap.size,4,none⟩=some (.int .i64 (a:Int))∧V.cell? ⟨w1.heap.size,5,none⟩=some (.bool y)∧V.cell? ⟨w1.heap.size,6,none⟩=some (.int .i64 (ph:Int))∧V.cell? ⟨w1.heap.size,7,none⟩=some (.int .i64 (pr:Int))∧V.cell? ⟨w1.heap.size,8,none⟩=some (.int .i64 (pa:Int))) (go_keep) (first|(go_at_call 126; (with_reducible refine (HH.out 2 rfl _ HB5.out.drew).mono ?_); rintro e w6 ⟨v,vh',L',rfl,hv6,hr6,hl6,hk6,hg6⟩; have q0:=HK1.out _ _ hk6 _ _ d2 (.inl rfl); have q1:=HK1.out _ _ hk6 _ _ hlead (.inr (.inl rfl)); have p0:=HK1.out _ _ hk6 _ _ b0 (.inr (.inr rfl)); have p1:=HK1.out _ _ hk6 _ _ b1 (.inr (.inr rfl)); have p2:=HK1.out _ _ hk6 _ _ b2 (.inr (.inr rfl)); have p3:=HK1.out _ _ hk6 _ _ b3 (.inr (.inr rfl)); have p4:=HK1.out _ _ hk6 _ _ b4 (.inr (.inr rfl)); have p5:=HK1.out _ _ hk6 _ _ b5 (.inr (.inr rfl)); have p6:=HK1.out _ _ hk6 _ _ b6 (.inr (.inr rfl)); have p7:=HK1.out _ _ hk6 _ _ b7 (.inr (.inr rfl)); have p8:=HK1.out _ _ hk6 _ _ b8 (.inr (.inr rfl)); obtain ⟨C6,Y6,HO6,HSe,HK7⟩:=HAF.out W5 w6 v vh' L' HB5.out hv6 hr6 hl6 hk6 hg6; clear hv6 hr6 hl6 hk6 hg6)|(go_at_call 122; (with_reducible refine HSe.mono ?_); rintro e w7 ⟨rfl,ho7,hk7⟩; have r0:=HK7 _ hk7 _ _ q0 (.inl rfl); have r1:=HK7 _ hk7 _ _ q1 (.inr (.inl rfl)); have s0:=HK7 _ hk7 _ _ p0 (.inr (.inr rfl)); have s1:=HK7 _ hk7 _ _ p1 (.inr (.inr rfl)); have s2:=HK7 _ hk7 _ _ p2 (.inr (.inr rfl)); have s3:=HK7 _ hk7 _ _ p3 (.inr (.inr rfl)); have s4:=HK7 _ hk7 _ _ p4 (.inr (.inr rfl)); have s5:=HK7 _ hk7 _ _ p5 (.inr (.inr rfl)); have s6:=HK7 _ hk7 _ _ p6 (.inr (.inr rfl)); have s7:=HK7 _ hk7 _ _ p7 (.inr (.inr rfl)); have s8:=HK7 _ hk7 _ _ p8 (.inr (.inr rfl)); have HO7:=hid ho7; clear ho7 hk7))
      go_wp2_with fail
      go_ret
      refine ⟨rfl,?_⟩
      rw [HDX.out,HSx.out]
      refine ROut.step HKY.out (HK4.out.trans (Kept.of_below HB5.out.drew)) HC3.out ?_
      exact (ROut.step HO6.1 HO6.2.1 HO6.2.2 HO7.out).mono (by omega)
     ·go_wp2_with fail
      go_quiet (fail)
      rename Nat=>nq2
      obtain ⟨W5,HW5⟩:∃ W5,Hid (W4.drewN nq2=W5):=⟨_,rfl⟩
      have HB5:Hid (Below W4.heap.size W4 W5):=by rw [← HW5.out]; exact below_drewN (Below.refl _ _) nq2
      have hW5:=HW5.out
      rw [hW5]
      clear hW5
      have b0:=cell_later HB5.out b0
      have b1:=cell_later HB5.out b1
      have b2:=cell_later HB5.out b2
      have b3:=cell_later HB5.out b3
      have b4:=cell_later HB5.out b4
      have b5:=cell_later HB5.out b5
      have b6:=cell_later HB5.out b6
      have b7:=cell_later HB5.out b7
      have b8:=cell_later HB5.out b8
      have d2:=cell_later HB5.out d2
      have hlead:=cell_later HB5.out hlead
      go_wp2_with fail
      have hd0:(0:Int)≤(d:Int):=by omega
      have hd6:(d:Int)<6:=by omega
      have hd7:¬ ((d:Int)<0):=by omega
      go_region_held3 (fun V=>V.cell? ⟨(Y1.K i).nd,2,none⟩=some (.slice (some ⟨(Y1.K i).ls,0,none⟩) 6 6)∧V.cell? ⟨(Y1.K i).ls,d,none⟩=some (.pointer (some ⟨(Y1.K i).lb d,0,none⟩))∧V.cell? ⟨w1.heap.size,0,none⟩=some (.int .i64 (f:Int))∧V.cell? ⟨w1.heap.size,1,none⟩=some (.int .i64 (i:Int))∧V.cell? ⟨w1.heap.size,2,none⟩=some (.int .i64 (d:Int))∧V.cell? ⟨w1.heap.size,3,none⟩=some (.int .i64 ((4:Nat):Int))∧V.cell? ⟨w1.heap.size,4,none⟩=some (.int .i64 (a:Int))∧V.cell? ⟨w1.heap.size,5,none⟩=some (.bool y)∧V.cell? ⟨w1.heap.size,6,none⟩=some (.int .i64 (ph:Int))∧V.cell? ⟨w1.heap.size,7,none⟩=some (.int .i64 (pr:Int))∧V.cell? ⟨w1.heap.size,8,none⟩=some (.int .i64 (pa:Int))) (go_keep) (first|(go_at_call 126; (with_reducible refine (HH.out 4 rfl _ HB5.out.drew).mono ?_); rintro e w6 ⟨v,vh',L',rfl,hv6,hr6,hl6,hk6,hg6⟩; have q0:=HK1.out _ _ hk6 _ _ d2 (.inl rfl); have q1:=HK1.out _ _ hk6 _ _ hlead (.inr (.inl rfl)); have p0:=HK1.out _ _ hk6 _ _ b0 (.inr (.inr rfl)); have p1:=HK1.out _ _ hk6 _ _ b1 (.inr (.inr rfl)); have p2:=HK1.out _ _ hk6 _ _ b2 (.inr (.inr rfl)); have p3:=HK1.out _ _ hk6 _ _ b3 (.inr (.inr rfl)); have p4:=HK1.out _ _ hk6 _ _ b4 (.inr (.inr rfl)); have p5:=HK1.out _ _ hk6 _ _ b5 (.inr (.inr rfl)); have p6:=HK1.out _ _ hk6 _ _ b6 (.inr (.inr rfl)); have p7:=HK1.out _ _ hk6 _ _ b7 (.inr (.inr rfl)); have p8:=HK1.out _ _ hk6 _ _ b8 (.inr (.inr rfl)); obtain ⟨C6,Y6,HO6,HSe,HK7⟩:=HAF.out W5 w6 v vh' L' HB5.out hv6 hr6 hl6 hk6 hg6; clear hv6 hr6 hl6 hk6 hg6)|(go_at_call 122; (with_reducible refine HSe.mono ?_); rintro e w7 ⟨rfl,ho7,hk7⟩; have r0:=HK7 _ hk7 _ _ q0 (.inl rfl); have r1:=HK7 _ hk7 _ _ q1 (.inr (.inl rfl)); have s0:=HK7 _ hk7 _ _ p0 (.inr (.inr rfl)); have s1:=HK7 _ hk7 _ _ p1 (.inr (.inr rfl)); have s2:=HK7 _ hk7 _ _ p2 (.inr (.inr rfl)); have s3:=HK7 _ hk7 _ _ p3 (.inr (.inr rfl)); have s4:=HK7 _ hk7 _ _ p4 (.inr (.inr rfl)); have s5:=HK7 _ hk7 _ _ p5 (.inr (.inr rfl)); have s6:=HK7 _ hk7 _ _ p6 (.inr (.inr rfl)); have s7:=HK7 _ hk7 _ _ p7 (.inr (.inr rfl)); have s8:=HK7 _ hk7 _ _ p8 (.inr (.inr rfl)); have HO7:=hid ho7; clear ho7 hk7))
      go_wp2_with fail
      go_ret
      refine ⟨rfl,?_⟩
      rw [HDX.out,HSx.out]
      refine ROut.step HKY.out (HK4.out.trans (Kept.of_below HB5.out.drew)) HC3.out ?_
      exact (ROut.step HO6.1 HO6.2.1 HO6.2.2 HO7.out).mono (by omega)
     ·go_wp2_with fail
      go_quiet (fail)
      rename Nat=>nq2
      obtain ⟨W5,HW5⟩:∃ W5,Hid (W4.drewN nq2=W5):=⟨_,rfl⟩
      have HB5:Hid (Below W4.heap.size W4 W5):=by rw [← HW5.out]; exact below_drewN (Below.refl _ _) nq2
      have hW5:=HW5.out
      rw [hW5]
      clear hW5
      have b0:=cell_later HB5.out b0
      have b1:=cell_later HB5.out b1
      have b2:=cell_later HB5.out b2
      have b3:=cell_later HB5.out b3
      have b4:=cell_later HB5.out b4
      have b5:=cell_later HB5.out b5
      have b6:=cell_later HB5.out b6
      have b7:=cell_later HB5.out b7
      have b8:=cell_later HB5.out b8
      have d2:=cell_later HB5.out d2
      have hlead:=cell_later HB5.out hlead
      go_wp2_with fail
      have hd0:(0:Int)≤(d:Int):=by omega
      have hd6:(d:Int)<6:=by omega
      have hd7:¬ ((d:Int)<0):=by omega
      go_region_held3 (fun V=>V.cell? ⟨(Y1.K i).nd,2,none⟩=some (.slice (some ⟨(Y1.K i).ls,0,none⟩) 6 6)∧V.cell? ⟨(Y1.K i).ls,d,none⟩=some (.pointer (some ⟨(Y1.K i).lb d,0,none⟩))∧V.cell? ⟨w1.heap.size,0,none⟩=some (.int .i64 (f:Int))∧V.cell? ⟨w1.heap.size,1,none⟩=some (.int .i64 (i:Int))∧V.cell? ⟨w1.heap.size,2,none⟩=some (.int .i64 (d:Int))∧V.cell? ⟨w1.heap.size,3,none⟩=some (.int .i64 ((6:Nat):Int))∧V.cell? ⟨w1.heap.size,4,none⟩=some (.int .i64 (a:Int))∧V.cell? ⟨w1.heap.size,5,none⟩=some (.bool y)∧V.cell? ⟨w1.heap.size,6,none⟩=some (.int .i64 (ph:Int))∧V.cell? ⟨w1.heap.size,7,none⟩=some (.int .i64 (pr:Int))∧V.cell? ⟨w1.heap.size,8,none⟩=some (.int .i64 (pa:Int))) (go_keep) (first|(go_at_call 126; (with_reducible refine (HH.out 6 rfl _ HB5.out.drew).mono ?_); rintro e w6 ⟨v,vh',L',rfl,hv6,hr6,hl6,hk6,hg6⟩; have q0:=HK1.out _ _ hk6 _ _ d2 (.inl rfl); have q1:=HK1.out _ _ hk6 _ _ hlead (.inr (.inl rfl)); have p0:=HK1.out _ _ hk6 _ _ b0 (.inr (.inr rfl)); have p1:=HK1.out _ _ hk6 _ _ b1 (.inr (.inr rfl)); have p2:=HK1.out _ _ hk6 _ _ b2 (.inr (.inr rfl)); have p3:=HK1.out _ _ hk6 _ _ b3 (.inr (.inr rfl)); have p4:=HK1.out _ _ hk6 _ _ b4 (.inr (.inr rfl)); have p5:=HK1.out _ _ hk6 _ _ b5 (.inr (.inr rfl)); have p6:=HK1.out _ _ hk6 _ _ b6 (.inr (.inr rfl)); have p7:=HK1.out _ _ hk6 _ _ b7 (.inr (.inr rfl)); have p8:=HK1.out _ _ hk6 _ _ b8 (.inr (.inr rfl)); obtain ⟨C6,Y6,HO6,HSe,HK7⟩:=HAF.out W5 w6 v vh' L' HB5.out hv6 hr6 hl6 hk6 hg6; clear hv6 hr6 hl6 hk6 hg6)|(go_at_call 122; (with_reducible refine HSe.mono ?_); rintro e w7 ⟨rfl,ho7,hk7⟩; have r0:=HK7 _ hk7 _ _ q0 (.inl rfl); have r1:=HK7 _ hk7 _ _ q1 (.inr (.inl rfl)); have s0:=HK7 _ hk7 _ _ p0 (.inr (.inr rfl)); have s1:=HK7 _ hk7 _ _ p1 (.inr (.inr rfl)); have s2:=HK7 _ hk7 _ _ p2 (.inr (.inr rfl)); have s3:=HK7 _ hk7 _ _ p3 (.inr (.inr rfl)); have s4:=HK7 _ hk7 _ _ p4 (.inr (.inr rfl)); have s5:=HK7 _ hk7 _ _ p5 (.inr (.inr rfl)); have s6:=HK7 _ hk7 _ _ p6 (.inr (.inr rfl)); have s7:=HK7 _ hk7 _ _ p7 (.inr (.inr rfl)); have s8:=HK7 _ hk7 _ _ p8 (.inr (.inr rfl)); have HO7:=hid ho7; clear ho7 hk7))
      go_wp2_with fail
      go_ret
      refine ⟨rfl,?_⟩
      rw [HDX.out,HSx.out]
      refine ROut.step HKY.out (HK4.out.trans (Kept.of_below HB5.out.drew)) HC3.out ?_
      exact (ROut.step HO6.1 HO6.2.1 HO6.2.2 HO7.out).mono (by omega)
   ·have HA:Hid (arriveX zs (takeX V j) F=hearX (takeX V j) i F∧arriveO zs (takeX V j) F=ansN i ((takeX V j).nd i) F):=by
     have e1:¬ isAns F.k=true:=by rw [HF0.out]; unfold isAns; show ¬ decide ((k:Int)=2 ∨ (k:Int)=4 ∨ (k:Int)=6)=true; rw [decide_eq_false (by omega)]; decide
     have e2:F.t.toNat=i:=by rw [HF0.out]; exact Int.toNat_natCast i
     unfold arriveX arriveO
     rw [if_neg e1,if_neg e1,e2]
     exact ⟨rfl,rfl⟩
    have hup:((takeX V j).nd i).l≠-2:=by have:=HU2.out; unfold upN at this; simpa using this
    have HAO:=hid (arriveO_fi (F:=F) H4.out.inv (by rw [HF0.out]; exact hup) HFI.out hm)
    rw [HA.out.2] at HAO
    have HHe:=hid (rwhear_any f d k a ph pr pa y F HF0.out H4.out HII.out HU2.out HFI.out (by omega))
    rw [HXB.out] at HHe
    have HH:=hid (hearN_hf (H4.out.inv.nd i HII.out) hup HFI.out (by omega))
    obtain ⟨b,HBb⟩:∃ b,Hid (upN (hearN ((takeX V j).nd i) F)=b):=⟨_,rfl⟩
    rw [HBb.out] at HHe
    have k2:((k:Int) == 2)=false:=beq_eq_false_iff_ne.2 (by omega)
    have k4:((k:Int) == 4)=false:=beq_eq_false_iff_ne.2 (by omega)
    have k6:((k:Int) == 6)=false:=beq_eq_false_iff_ne.2 (by omega)
    clear hup hk3 hlead d2
    go_wp2_with fail
    refine HHe.out.mono ?_
    rintro e w5 ⟨v,rfl,C5,Y5,g1,g2,g3,g4,g5⟩
    have HSe:=hid (rsend_any v _ g1 g5.fr HAO.out.1 (Nat.le_trans HAO.out.2 (by decide)) (by omega))
    rw [rkey_xb g2,HXB.out] at HSe
    have HG5:=hid (And.intro g1 (And.intro g2 (And.intro g3 g4)))
    clear g1 g2 g3 g4 g5 b0 b1 b2 b3 b4 b5 b6 b7 b8 d0
    cases b with
    | true =>
     go_wp2_with fail
     refine HSe.out.mono ?_
     rintro e w6 ⟨rfl,ho6⟩
     have HO6:=hid ho6
     clear ho6
     go_wp2_with fail
     go_ret
     refine ⟨rfl,?_⟩
     rw [HDX.out,HA.out.1,HA.out.2]
     refine ROut.step HKY.out HK4.out HC3.out ?_
     exact (ROut.step HG5.out.2.1 HG5.out.2.2.1 HG5.out.2.2.2 HO6.out).mono (by omega)
    | false =>
     have hn:ansN i ((takeX V j).nd i) F=[]:=by
      have h1:=HH.out.up
      rw [HBb.out] at h1
      unfold ansN
      rw [if_neg (fun q=>by rw [decide_eq_true q.1] at h1; cases h1)]
     have HNn:=hid hn
     clear hn
     go_wp2_with fail
     go_ret
     refine ⟨rfl,?_⟩
     rw [HDX.out,HA.out.1,HA.out.2,HNn.out,sendX_nil]
     refine ROut.step HKY.out HK4.out HC3.out ?_
     exact ROut.mono ⟨C5,Y5,HG5.out.1,HG5.out.2.1,HG5.out.2.2.1,HG5.out.2.2.2⟩ (by omega)
end
end Go.Proofs.YtadhpkopkkjmfaaGreatDoor
