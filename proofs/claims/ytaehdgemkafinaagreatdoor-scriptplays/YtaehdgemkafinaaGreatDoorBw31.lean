/-
  On the way to SPlaysProof: XU XM.
-/
import Derived.Test.YtaehdgemkafinaaGreatDoorBw27
import Derived.Test.YtaehdgemkafinaaGreatDoorBw29
set_option maxHeartbeats 8000000
set_option maxRecDepth 100000
namespace Go.Proofs.YtaehdgemkafinaaGreatDoor
open Go.RowKit
section
variable {zs:List Int} {id:Nat} {deal att:Int} {L:LSt} {f:F9}
theorem lhear_yes (h:forL zs.length id deal att L f∧(fromL L.hs f.f).isSome=false) (hy:f.y=true) :
  yesR zs id deal att (stB L.stt) f.k (L.hs ++ [f]) L.ph=(outL id deal att zs.length (lhear zs id deal att L f).2,stB (lhear zs id deal att L f).1.stt,(lhear zs id deal att L f).1.wait,(lhear zs id deal att L f).1.hs,(lhear zs id deal att L f).1.ph)∧(lhear zs id deal att L f).1.seen=seenL L f:=by
 have hy':¬ f.y=false:=by rw [hy]; decide
 have hw:L.wait=f.k:=h.1.2.1.symm
 unfold yesR
 by_cases h2:f.k=2
 ·by_cases hall:(L.hs ++ [f]).length=zs.length
  ·rw [lhear_all h hy' h2 hall,if_pos h2,if_pos hall]
   exact ⟨by simp only [outL,sent_to],rfl⟩
  ·rw [lhear_some h hy' h2 hall,if_pos h2,if_neg hall]
   exact ⟨by simp only [outL,hw],rfl⟩
 ·by_cases hen:enoughB zs (setTo (L.hs ++ [f]) zs.length)=false
  ·rw [lhear_few h hy' h2 hen,if_neg h2,if_pos hen]
   exact ⟨by simp only [outL,hw],rfl⟩
  ·by_cases h6:f.k=6
   ·rw [lhear_ack h hy' h2 hen h6,if_neg h2,if_neg hen,if_pos h6]
    exact ⟨by simp only [outL,sent_to],rfl⟩
   ·cases hc:refL (toldTo (L.hs ++ [f]) zs.length) with
    | mk p b =>
     cases b with
     | true =>
      rw [lhear_fin h hy' h2 hen h6 hc,if_neg h2,if_neg hen,if_neg h6]
      exact ⟨by simp [outL,sent_to],rfl⟩
     | false =>
      rw [lhear_pre h hy' h2 hen h6 hc,if_neg h2,if_neg hen,if_neg h6]
      exact ⟨by simp [outL,sent_to],rfl⟩
end
section
variable {w:World} {zs:List Int} {lb id cap vb vo:Nat} {deal att:Int} {vh:Value} {P:PL} {L:LSt} {f:F9}
def f9V (f:F9):Value:=frV f.f f.t f.d f.k f.a f.y f.ph f.pr f.pa
theorem rlhear_all (f:F9) (h:RLd w lb id zs.length cap deal att (some ⟨vb,vo,none⟩) (stB L.stt) L.wait vh L.hs L.ph L.seen) (hr:Rel zs.length att P L) (h0:0≤att) (hp:f.k≠2→0≤f.pr) (he:errW zs=0) (hvc:∀ i,i<zs.length→w.cell? ⟨vb,vo+i,none⟩=some (.int .i64 (zs.getD i 0))) (hvl:vb≠lb) (hvh:vh.ownBlock≠some vb) :
  Calls Tryz.prog 88 #[.pointer (some ⟨lb,0,none⟩),f9V f] w fun e w'=>∃ v vh' L',e=.returned v∧IsFr w' v (outL id deal att zs.length (phear zs id deal att P f).2)∧Rel zs.length att (phear zs id deal att P f).1 L'∧RLd w' lb id zs.length cap deal att (some ⟨vb,vo,none⟩) (stB L'.stt) L'.wait vh' L'.hs L'.ph L'.seen∧Kept (InH lb vh) w w'∧∀ g,vh'.ownBlock=some g→vh.ownBlock=some g ∨ w.heap.size≤g:=by
 have hn7:zs.length≤7:=(errW_zero he).2.1
 obtain ⟨s1,s2⟩:=hr.step (id:=id) (deal:=deal) (f:=f) h0 hn7 hp
 rw [s1]
 have hst:∀ (_:L.wait≠0),L.hs.length≤60:=fun hw=>by
  have:P.stt≤1:=by
   have:=hr.wait
   rcases Nat.lt_or_ge 1 P.stt with g|g
   ·rw [if_neg (by omega),if_neg (by omega)] at this; exact absurd this hw
   ·exact g
  rw [hr.cnt this]
  have:=cntTo_le L.hs zs.length
  omega
 by_cases hfor:forL zs.length id deal att L f
 ·obtain ⟨w1,w2,w3,w4,w5,r1,r2⟩:=hfor
  have hfor:forL zs.length id deal att L f:=⟨w1,w2,w3,w4,w5,r1,r2⟩
  have hl:=hst w1
  obtain ⟨ff,hff⟩:=Int.eq_ofNat_of_zero_le r1
  have hk:f.k=2 ∨ f.k=4 ∨ f.k=6:=by
   have:=hr.wait
   rw [w2]
   rw [this] at w1 ⊢
   split
   ·split
    ·exact .inl rfl
    ·exact .inr (.inl rfl)
   ·split
    ·exact .inr (.inr rfl)
    ·rename_i g1 g2
     rw [if_neg g1,if_neg g2] at w1; exact absurd rfl w1
  have hv:f9V f=frV (ff:Int) (id:Int) deal f.k att f.y f.ph f.pr f.pa:=by unfold f9V; rw [hff,w5,w3,w4]
  rw [← w2] at h
  rw [hv]
  cases hx:fromL L.hs (ff:Int) with
  | some x =>
   have hq:¬ (forL zs.length id deal att L f∧(fromL L.hs f.f).isSome=false):=fun g=>by
    have:=g.2
    rw [hff,hx] at this
    cases this
   rw [lhear_pass hq] at s2 ⊢
   refine (rlhear_again ff f.k f.y f.ph f.pr f.pa x h (by omega) (by rw [w2]; exact w1) (by omega) hx).mono ?_
   rintro e w' ⟨rfl,hb⟩
   rw [w2] at h
   exact ⟨_,vh,L,rfl,IsFr.zero _,s2,h.later hb,Kept.of_below hb,fun g hg=>.inl hg⟩
  | none =>
   have hq:forL zs.length id deal att L f∧(fromL L.hs f.f).isSome=false:=⟨hfor,by rw [hff,hx]; rfl⟩
   cases hy:f.y with
   | false =>
    refine (rlhear_no ff f.k f.ph f.pr f.pa (seenL L f) h (by omega) hk (by omega) hx hn7 rfl).mono ?_
    rintro e w' ⟨v,rfl,hv2,hr2,hk2⟩
    by_cases h2:f.k=2
    ·rw [lhear_no2 hq hy h2] at s2 ⊢
     rw [if_pos h2,sent_to] at hv2
     rw [if_pos h2] at hr2
     exact ⟨v,vh,_,rfl,hv2,s2,hr2,hk2.mono (fun x hx=>.inl hx),fun g hg=>.inl hg⟩
    ·rw [lhear_no hq hy h2] at s2 ⊢
     rw [if_neg h2] at hv2 hr2
     exact ⟨v,vh,_,rfl,hv2,s2,hr2,hk2.mono (fun x hx=>.inl hx),fun g hg=>.inl hg⟩
   | true =>
    obtain ⟨y1,y2⟩:=lhear_yes hq hy
    have hff9:f=⟨ff,id,deal,f.k,att,true,f.ph,f.pr,f.pa⟩:=by
     cases f
     simp only at hff w5 w3 w4 hy
     simp only [hff,w5,w3,w4,hy]
    refine (rlhear_yes vb vo zs ff f.k f.ph f.pr f.pa (seenL L f) _ (L.hs ++ [f]) (by rw [← hff9]) h hl hk (by omega) hx rfl he hvc hvl hvh rfl y1).mono ?_
    rintro e w' ⟨v,vh',rfl,hv2,hr2,hk2,hg2⟩
    refine ⟨v,vh',_,rfl,hv2,s2,?_,hk2,hg2⟩
    rw [y2]
    exact hr2
 ·have hq:¬ (forL zs.length id deal att L f∧(fromL L.hs f.f).isSome=false):=fun g=>hfor g.1
  rw [lhear_pass hq] at s2 ⊢
  refine (rlhear_not f.f f.t f.d f.k f.a f.y f.ph f.pr f.pa h hfor).mono ?_
  rintro e w' ⟨rfl,hb⟩
  exact ⟨_,vh,L,rfl,IsFr.zero _,s2,h.later hb,Kept.of_below hb,fun g hg=>.inl hg⟩
end
section
variable {w0 w w':World} {C C':Nat→Nat} {Y:YB} {aw:Option Addr} {cap m m':Nat} {zs:List Int} {V V':PX}
theorem rlink_no (a b:Int) (whole:Bool) (h:RW w0 w C Y aw cap zs V m) (hs:¬ ((0≤a∧a<zs.length)∧0≤b∧b<zs.length)) :
  Calls Tryz.prog 30 #[.pointer (some ⟨Y.xb,0,none⟩),.int .i64 a,.int .i64 b,.bool whole] w fun e w'=>e=.returned (.int .i64 2)∧w'=w:=by
 obtain ⟨-,c1,-,-,-⟩:=h.cells
 have n7:=h.n7
 obtain ⟨z,hz⟩:∃ z,Hid (zs.length=z):=⟨_,rfl⟩
 rw [hz.out] at c1 n7 hs
 clear h
 by_cases h1:a<0
 ·clear hs
  go_enter Tryz.func30,Tryz.ntmps30
  go_wp2_with fail
  go_ret
  exact ⟨rfl,rfl⟩
 ·by_cases h2:(z:Int)≤a
  ·clear hs
   go_enter Tryz.func30,Tryz.ntmps30
   go_wp2_with fail
   go_ret
   exact ⟨rfl,rfl⟩
  ·by_cases h3:b<0
   ·clear hs
    go_enter Tryz.func30,Tryz.ntmps30
    go_wp2_with fail
    go_ret
    exact ⟨rfl,rfl⟩
   ·have h4:(z:Int)≤b:=by omega
    clear hs
    go_enter Tryz.func30,Tryz.ntmps30
    go_wp2_with fail
    go_ret
    exact ⟨rfl,rfl⟩
end
end Go.Proofs.YtaehdgemkafinaaGreatDoor
