/-
  On the way to WStepsProof, WCommitsProof, WAgreesProof, WEndsProof, WWaitsProof, JTampersProof, PAgreesProof, PAgainProof: YF UB YE.
-/
import Derived.Test.YtadhpkopkkjmfaaGreatDoorBz51
set_option maxHeartbeats 8000000
set_option maxRecDepth 100000
namespace Go.Proofs.YtadhpkopkkjmfaaGreatDoor
open Go.RowKit
def Stp (zs:List Int) (V V':PX):Prop :=
 V'=V ∨ (∃ s d:Nat,s<zs.length∧d<6∧cBeg zs.length V (s:Int) (d:Int)=0∧V'=beginX zs V s d) ∨ (∃ s d,s<zs.length∧upN (V.nd s)=true∧V'=refuseX V s d) ∨ (∃ s,s<zs.length∧upN (V.nd s)=true∧V'=tickX zs s 6 0 V) ∨
 (∃ s,s<zs.length∧upN (V.nd s)=true∧V'=downX V s) ∨ (∃ s,s<zs.length∧upN (V.nd s)=false∧V'=upX V s) ∨ (∃ k,V'=takeX V k) ∨ (∃ k f,f∈V.fly∧V'=twiceX V k f) ∨ (∃ a b x,V'=linkX V a b x) ∨ (∃ s n,s<zs.length∧V'=cutX V s n) ∨ (∃ k f,V.fly[k]? = some f∧V'=deliverX zs V k f)
section
variable {zs:List Int} {V:PX}
theorem Stp.same:Stp zs V V:=.inl rfl
theorem Stp.begin (s d:Nat) (hs:s<zs.length) (hd:d<6) (hc:cBeg zs.length V s d=0):Stp zs V (beginX zs V s d):=.inr (.inl ⟨s,d,hs,hd,hc,rfl⟩)
theorem Stp.refuse (s d:Nat) (hs:s<zs.length) (hu:upN (V.nd s)=true):Stp zs V (refuseX V s d):=.inr (.inr (.inl ⟨s,d,hs,hu,rfl⟩))
theorem Stp.tick (s:Nat) (hs:s<zs.length) (hu:upN (V.nd s)=true):Stp zs V (tickX zs s 6 0 V):=.inr (.inr (.inr (.inl ⟨s,hs,hu,rfl⟩)))
theorem Stp.down (s:Nat) (hs:s<zs.length) (hu:upN (V.nd s)=true):Stp zs V (downX V s):=.inr (.inr (.inr (.inr (.inl ⟨s,hs,hu,rfl⟩))))
theorem Stp.wake (s:Nat) (hs:s<zs.length) (hu:upN (V.nd s)=false):Stp zs V (upX V s):=.inr (.inr (.inr (.inr (.inr (.inl ⟨s,hs,hu,rfl⟩)))))
theorem Stp.take (k:Nat):Stp zs V (takeX V k):=.inr (.inr (.inr (.inr (.inr (.inr (.inl ⟨k,rfl⟩))))))
theorem Stp.twice (k:Nat) (f:F9) (hf:f∈V.fly):Stp zs V (twiceX V k f):=.inr (.inr (.inr (.inr (.inr (.inr (.inr (.inl ⟨k,f,hf,rfl⟩)))))))
theorem Stp.link (a b:Nat) (x:Bool):Stp zs V (linkX V a b x):=.inr (.inr (.inr (.inr (.inr (.inr (.inr (.inr (.inl ⟨a,b,x,rfl⟩))))))))
theorem Stp.cut (s:Nat) (n:Int) (hs:s<zs.length):Stp zs V (cutX V s n):=.inr (.inr (.inr (.inr (.inr (.inr (.inr (.inr (.inr (.inl ⟨s,n,hs,rfl⟩)))))))))
theorem Stp.deliver (k:Nat) (f:F9) (hk:V.fly[k]? = some f):Stp zs V (deliverX zs V k f):=.inr (.inr (.inr (.inr (.inr (.inr (.inr (.inr (.inr (.inr ⟨k,f,hk,rfl⟩)))))))))
end
theorem nd_keep {V:PX} {s:Nat} {N:PN} (hst:∀ d,stN N d=stN (V.nd s) d):∀ i d,stN ((setNd V s N).nd i) d=stN (V.nd i) d:=by
 intro i d
 by_cases e:i=s
 ·subst e; rw [nd_at]; exact hst d
 ·rw [nd_ne _ _ _ e]
theorem ld_keep {V:PX} {s:Nat} {N:PN} (hld:∀ d x,N.ld d=some x→(V.nd s).ld d=some x):∀ i d x,((setNd V s N).nd i).ld d=some x→(V.nd i).ld d=some x:=by
 intro i d x
 by_cases e:i=s
 ·subst e; rw [nd_at]; exact hld d x
 ·rw [nd_ne _ _ _ e]; exact id
theorem Stp.ax {zs:List Int} {V V':PX} {m:Nat} (h:Stp zs V V') (hA:AX zs V) (hX:XI zs V m) (hm:m<900000):AX zs V'∧Mo zs V V':=by
 rcases h with rfl|⟨s,d,hs,hd,hc,rfl⟩|⟨s,d,hs,hu,rfl⟩|⟨s,hs,hu,rfl⟩|⟨s,hs,hu,rfl⟩|⟨s,hs,hu,rfl⟩|⟨k,rfl⟩|⟨k,f,hf,rfl⟩|⟨a,b,x,rfl⟩|⟨s,n,hs,rfl⟩|⟨k,f,hk,rfl⟩
 ·exact ⟨hA,Mo.same hX fun _ _=>rfl⟩
 ·exact hA.begin hX
 ·exact ⟨hA.quiet (nd_keep fun _=>rfl) (fun i e x _=>ld_keep (V:=V) (s:=s) (N:={ V.nd s with R:=updR (V.nd s).R d }) (fun _ _ y=>y) i e x) (fun _ y=>y) rfl,Mo.same hX (nd_keep fun _=>rfl)⟩
 ·exact AX.tick hs 6 0 V m (by decide) hA hX (by unfold upN at hu; simpa using hu) (by omega)
 ·exact ⟨hA.quiet (nd_keep fun _=>rfl) (fun i d x _=>ld_keep (fun _ _ y=>by cases y) i d x) (fun _ y=>y) rfl,Mo.same hX (nd_keep fun _=>rfl)⟩
 ·exact ⟨hA.quiet (nd_keep fun _=>rfl) (fun i d x _=>ld_keep (V:=V) (s:=s) (N:={ V.nd s with l:=-1,over:=false,R:=fun _=>false }) (fun _ _ y=>y) i d x) (fun _ y=>y) rfl,Mo.same hX (nd_keep fun _=>rfl)⟩
 ·exact ⟨hA.take k,Mo.same hX fun _ _=>rfl⟩
 ·
  refine ⟨hA.quiet (fun _ _=>rfl) (fun _ _ _ _ y=>y) (fun g hg=>?_) rfl,Mo.same hX fun _ _=>rfl⟩
  have hg2:g∈V.fly.take k ++ f :: V.fly.drop k:=hg
  rcases List.mem_append.1 hg2 with y|y
  ·exact List.mem_of_mem_take y
  ·rcases List.mem_cons.1 y with rfl|y
   ·exact hf
   ·exact List.mem_of_mem_drop y
 ·exact ⟨hA.quiet (fun _ _=>rfl) (fun _ _ _ _ y=>y) (fun _ y=>y) rfl,Mo.same hX fun _ _=>rfl⟩
 ·exact ⟨hA.quiet (nd_keep fun _=>rfl) (fun i d x _=>ld_keep (V:=V) (s:=s) (N:={ V.nd s with l:=cL (V.nd s).l n }) (fun _ _ y=>y) i d x) (fun _ y=>y) rfl,Mo.same hX (nd_keep fun _=>rfl)⟩
 ·exact hA.deliver hX (by omega) (List.mem_iff_getElem?.2 ⟨k,hk⟩)
section
variable {w0 w:World} {C:Nat→Nat} {X:XB} {m:Nat} {zs:List Int} {V:PX} {A:Nat→Addr}
def StpOut (w0 w w':World) (C:Nat→Nat) (X:XB) (zs:List Int) (V:PX) (m:Nat):Prop:=∃ V',Stp zs V V'∧WOut w0 w w' C X zs V' (m+42)
theorem StpOut.back {W w':World} (hb:Below w.heap.size w W) (h:StpOut w0 W w' C X zs V m):StpOut w0 w w' C X zs V m:=by
 obtain ⟨V',h1,h2⟩:=h
 exact ⟨V',h1,WOut.step (C1:=C) (X1:=X) rfl (Kept.of_below hb) (fun _ _=>rfl) h2⟩
theorem cUp_zero {n:Nat} {V:PX} {s:Int} (h:cUp n V s=0):s.toNat<n∧upN (V.nd s.toNat)=true:=by
 unfold cUp at h
 split at h
 ·rename_i h1
  split at h
  ·rename_i h2; exact ⟨by omega,h2⟩
  ·cases h
 ·cases h
theorem s_begin (s d:Int) (h:WD w0 w C X zs V m) (hE:Held9 w0 A) (hm:m<800000):Calls Tryz.prog 18 #[.pointer (some ⟨X.xb,0,none⟩),.int .i64 s,.int .i64 d] w fun e w'=>(∃ v,e=.returned v)∧StpOut w0 w w' C X zs V m:=by
 refine (begin_any s d _ h hE (by omega) rfl).mono ?_
 rintro e w' ⟨rfl,ho⟩
 refine ⟨⟨_,rfl⟩,?_⟩
 by_cases hc:cBeg zs.length V s d=0
 ·rw [if_pos hc] at ho
  refine ⟨_,?_,ho.mono (by omega)⟩
  have h1:(0≤s∧s<zs.length)∧0≤d∧d<6:=by
   unfold cBeg at hc
   split at hc
   ·assumption
   ·cases hc
  refine .begin s.toNat d.toNat (by omega) (by omega) ?_
  rw [Int.toNat_of_nonneg h1.1.1,Int.toNat_of_nonneg h1.2.1]
  exact hc
 ·rw [if_neg hc] at ho
  exact ⟨V,.same,ho.mono (by omega)⟩
theorem s_refuse (s d:Int) (h:WD w0 w C X zs V m) (hE:Held9 w0 A) (hm:m<800000):Calls Tryz.prog 17 #[.pointer (some ⟨X.xb,0,none⟩),.int .i64 s,.int .i64 d] w fun e w'=>(∃ v,e=.returned v)∧StpOut w0 w w' C X zs V m:=by
 refine (refuse_any s d _ h hE (by omega) rfl).mono ?_
 rintro e w' ⟨rfl,ho⟩
 refine ⟨⟨_,rfl⟩,?_⟩
 by_cases hc:cRef zs.length V s d=0
 ·rw [if_pos hc] at ho
  refine ⟨_,?_,ho.mono (by omega)⟩
  unfold cRef at hc
  split at hc
  ·rename_i h1
   split at hc
   ·rename_i h2; exact .refuse s.toNat d.toNat (by omega) h2
   ·cases hc
  ·cases hc
 ·rw [if_neg hc] at ho
  exact ⟨V,.same,ho.mono (by omega)⟩
theorem s_tick (s:Int) (h:WD w0 w C X zs V m) (hE:Held9 w0 A) (hm:m<800000):Calls Tryz.prog 67 #[.pointer (some ⟨X.xb,0,none⟩),.int .i64 s] w fun e w'=>(∃ v,e=.returned v)∧StpOut w0 w w' C X zs V m:=by
 refine (tick_any s _ h hE (by omega) rfl).mono ?_
 rintro e w' ⟨rfl,ho⟩
 refine ⟨⟨_,rfl⟩,?_⟩
 by_cases hc:cUp zs.length V s=0
 ·rw [if_pos hc] at ho
  exact ⟨_,.tick s.toNat (cUp_zero hc).1 (cUp_zero hc).2,ho⟩
 ·rw [if_neg hc] at ho
  exact ⟨V,.same,ho⟩
theorem s_down (s:Int) (h:WD w0 w C X zs V m) (hE:Held9 w0 A):Calls Tryz.prog 34 #[.pointer (some ⟨X.xb,0,none⟩),.int .i64 s] w fun e w'=>(∃ v,e=.returned v)∧StpOut w0 w w' C X zs V m:=by
 refine (down_any s _ h hE rfl).mono ?_
 rintro e w' ⟨rfl,ho⟩
 refine ⟨⟨_,rfl⟩,?_⟩
 by_cases hc:cUp zs.length V s=0
 ·rw [if_pos hc] at ho
  exact ⟨_,.down s.toNat (cUp_zero hc).1 (cUp_zero hc).2,ho.mono (by omega)⟩
 ·rw [if_neg hc] at ho
  exact ⟨V,.same,ho.mono (by omega)⟩
theorem s_wake (s:Int) (h:WD w0 w C X zs V m) (hE:Held9 w0 A):Calls Tryz.prog 35 #[.pointer (some ⟨X.xb,0,none⟩),.int .i64 s] w fun e w'=>(∃ v,e=.returned v)∧StpOut w0 w w' C X zs V m:=by
 refine (wake_any s _ h hE rfl).mono ?_
 rintro e w' ⟨rfl,ho⟩
 refine ⟨⟨_,rfl⟩,?_⟩
 by_cases hc:cWake zs.length V s=0
 ·rw [if_pos hc] at ho
  refine ⟨_,?_,ho.mono (by omega)⟩
  unfold cWake at hc
  split at hc
  ·rename_i h1
   split at hc
   ·cases hc
   ·rename_i h2
    refine .wake s.toNat (by omega) ?_
    cases hu:upN (V.nd s.toNat) with
    | false=>rfl
    | true=>exact absurd hu h2
  ·cases hc
 ·rw [if_neg hc] at ho
  exact ⟨V,.same,ho.mono (by omega)⟩
theorem s_drop (n:Int) (h:WD w0 w C X zs V m) (hE:Held9 w0 A) (hm:m<800000):Calls Tryz.prog 38 #[.pointer (some ⟨X.xb,0,none⟩),.int .i64 n] w fun e w'=>(∃ v,e=.returned v)∧StpOut w0 w w' C X zs V m:=by
 by_cases hn:0≤n∧n<V.fly.length
 ·obtain ⟨k,rfl⟩:=Int.eq_ofNat_of_zero_le hn.1
  refine (drop_ok k h (by omega) (by omega)).mono ?_
  rintro e w' ⟨rfl,ho⟩
  exact ⟨⟨_,rfl⟩,_,.take k,ho.mono (by omega)⟩
 ·refine (drop_no n h hE hn).mono ?_
  rintro e w' ⟨rfl,rfl⟩
  exact ⟨⟨_,rfl⟩,V,.same,h.out (Below.refl _ _) (by omega)⟩
theorem s_twice (n:Int) (h:WD w0 w C X zs V m) (hE:Held9 w0 A) (hm:m<800000):Calls Tryz.prog 68 #[.pointer (some ⟨X.xb,0,none⟩),.int .i64 n] w fun e w'=>(∃ v,e=.returned v)∧StpOut w0 w w' C X zs V m:=by
 by_cases hn:0≤n∧n<V.fly.length
 ·obtain ⟨k,rfl⟩:=Int.eq_ofNat_of_zero_le hn.1
  have hk:k<V.fly.length:=by omega
  refine (twice_ok k _ h hk rfl (by omega)).mono ?_
  rintro e w' ⟨rfl,ho⟩
  exact ⟨⟨_,rfl⟩,_,.twice k _ (List.getElem_mem hk),ho.mono (by omega)⟩
 ·refine (twice_no n h hE hn).mono ?_
  rintro e w' ⟨rfl,rfl⟩
  exact ⟨⟨_,rfl⟩,V,.same,h.out (Below.refl _ _) (by omega)⟩
theorem s_deliver (n:Int) (h:WD w0 w C X zs V m) (hE:Held9 w0 A) (hm:m<800000):Calls Tryz.prog 20 #[.pointer (some ⟨X.xb,0,none⟩),.int .i64 n] w fun e w'=>(∃ v,e=.returned v)∧StpOut w0 w w' C X zs V m:=by
 by_cases hn:0≤n∧n<V.fly.length
 ·obtain ⟨k,rfl⟩:=Int.eq_ofNat_of_zero_le hn.1
  have hk:k<V.fly.length:=by omega
  refine (deliver_ok k _ h hE hk rfl (by omega)).mono ?_
  rintro e w' ⟨rfl,ho⟩
  exact ⟨⟨_,rfl⟩,_,.deliver k _ (List.getElem?_eq_getElem hk),ho.mono (by omega)⟩
 ·refine (deliver_no n h hE hn).mono ?_
  rintro e w' ⟨rfl,rfl⟩
  exact ⟨⟨_,rfl⟩,V,.same,h.out (Below.refl _ _) (by omega)⟩
theorem s_link (a b:Int) (x:Bool) (h:WD w0 w C X zs V m) (hE:Held9 w0 A) (hm:m<800000):Calls Tryz.prog 33 #[.pointer (some ⟨X.xb,0,none⟩),.int .i64 a,.int .i64 b,.bool x] w fun e w'=>(∃ v,e=.returned v)∧StpOut w0 w w' C X zs V m:=by
 by_cases hn:(0≤a∧a<zs.length)∧0≤b∧b<zs.length
 ·obtain ⟨k,rfl⟩:=Int.eq_ofNat_of_zero_le hn.1.1
  obtain ⟨l,rfl⟩:=Int.eq_ofNat_of_zero_le hn.2.1
  refine (link_ok k l x h (by omega) (by omega) (by omega)).mono ?_
  rintro e w' ⟨rfl,ho⟩
  exact ⟨⟨_,rfl⟩,_,.link k l x,ho.mono (by omega)⟩
 ·refine (link_no a b x h hE hn).mono ?_
  rintro e w' ⟨rfl,rfl⟩
  exact ⟨⟨_,rfl⟩,V,.same,h.out (Below.refl _ _) (by omega)⟩
theorem s_cut (s n:Int) (h:WD w0 w C X zs V m) (hE:Held9 w0 A) (hn:n≤9223372036854775807):Calls Tryz.prog 69 #[.pointer (some ⟨X.xb,0,none⟩),.int .i64 s,.int .i64 n] w fun e w'=>(∃ v,e=.returned v)∧StpOut w0 w w' C X zs V m:=by
 refine (cut_any s n _ h hE hn rfl).mono ?_
 rintro e w' ⟨rfl,ho⟩
 refine ⟨⟨_,rfl⟩,?_⟩
 by_cases hs:0≤s∧s<zs.length
 ·rw [if_pos hs] at ho
  exact ⟨_,.cut s.toNat n (by omega),ho.mono (by omega)⟩
 ·rw [if_neg hs] at ho
  exact ⟨V,.same,ho.mono (by omega)⟩
end
def ptrsTo (K:Nat→NB) (k:Nat):List Value:=(List.range k).map fun i=>.pointer (some ⟨(K i).nd,0,none⟩)
theorem ptrsTo_succ (K:Nat→NB) (k:Nat):ptrsTo K (k+1)=ptrsTo K k ++ [.pointer (some ⟨(K k).nd,0,none⟩)]:=by simp [ptrsTo,List.range_succ]
theorem ptrsTo_same {K L:Nat→NB} {k:Nat} (h:∀ i,i<k→(K i).nd=(L i).nd):ptrsTo K k=ptrsTo L k:=by
 unfold ptrsTo
 refine List.map_congr_left fun i hi=>?_
 rw [h i (List.mem_range.1 hi)]
theorem Tryz.infoPN:(Tryz.prog.info? 91).map (fun i=>(i.zero,i.size,i.bytes))=some (some (.pointer none),1,8):=by kernel_rfl
structure WN (w0 w:World) (C:Nat→Nat) (xb wb wc mb:Nat) (nv:Value) (K:Nat→NB) (zs:List Int) (k:Nat):Prop where
 bel:Below w0.heap.size w0 w
 row:w.heap[xb]? = some (.cells #[.slice (some ⟨wb,0,none⟩) zs.length wc,nv,.map (some mb),.slice none 0 0,.slice none 0 0] 84 (0,0))
 ws:∀ i,i<zs.length→w.cell? ⟨wb,0+i,none⟩=some (.int .i64 (zs.getD i 0))
 ns:w.ownsRow w0.heap.size 91 1 nv k (ptrsTo K k)
 nds:∀ i,i<k→ND w0 w C (K i) i zs (newN 512) 0
 brk:w.ownsMap Tryz.prog 124 (unitElem (H:=Unit)) mb 0 (.map [])
 cx:C xb=1001
 cw:C wb=1002
 cm:C mb=1004
 cn:∀ g,nv.ownBlock=some g→C g=1003
 lt:∀ x,C x<2000→x<w.heap.size
 low:∀ x,C x<2000→w0.heap.size≤x
section
variable {w0 w w':World} {C C':Nat→Nat} {xb wb wc mb k:Nat} {nv:Value} {K:Nat→NB} {zs:List Int} {A:Nat→Addr}
theorem WN.later (h:WN w0 w C xb wb wc mb nv K zs k) (hb:Below w.heap.size w w'):WN w0 w' C xb wb wc mb nv K zs k:=by
 have kk:Kept (fun _=>False) w w':=Kept.of_below hb
 exact ⟨h.bel.trans (hb.mono h.bel.size),kk.row h.row (fun x=>x),fun i hi=>cell_kept (h.ws i hi) kk (fun x=>x),own_kept h.ns kk (fun _ _ x=>x),fun i hi=>(h.nds i hi).later hb,ownsMap_kept h.brk kk (fun x=>x),h.cx,h.cw,h.cm,h.cn,fun x hx=>Nat.lt_of_lt_of_le (h.lt x hx) hb.size,h.low⟩
theorem WN.recolor (h:WN w0 w C xb wb wc mb nv K zs k) (hk:k≤9) (hC:∀ x,C x<2000→C' x=C x) (hl:∀ x,C' x<2000→x<w.heap.size) (hw:∀ x,C' x<2000→w0.heap.size≤x):WN w0 w C' xb wb wc mb nv K zs k:=by
 have e1:=h.cx; have e2:=h.cw; have e4:=h.cm
 exact ⟨h.bel,h.row,h.ws,h.ns,fun i hi=>(h.nds i hi).recolor (by omega) hC,h.brk,(hC _ (by omega)).trans e1,(hC _ (by omega)).trans e2,(hC _ (by omega)).trans e4,fun g hg=>(hC g (by have:=h.cn g hg; omega)).trans (h.cn g hg),hl,hw⟩
theorem newN_ni (n:Nat):NI n (newN 512) 0:=by
 have h:=well_zero 512 (by decide)
 exact ⟨h.good,h.num,zeroB_size 512,fun _=>rfl,by show (-2:Int)≤-1; omega,by show (-1:Int)≤_; omega,fun d x hx=>by cases hx⟩
theorem WN.done (h:WN w0 w C xb wb wc mb nv K zs zs.length) (he:errW zs=0):∃ nb nc,nv=.slice (some ⟨nb,0,none⟩) zs.length nc∧WD w0 w C ⟨xb,wb,wc,nb,nc,mb,.slice none 0 0,.slice none 0 0,K⟩ zs newX 0:=by
 have n1:=(errW_zero he).1
 rcases h.ns.2 with ⟨-,h0⟩|⟨g,cap,cur,e,h2,h3,h4,h5,h6,h7⟩
 ·omega
 ·subst e
  refine ⟨g,cap,rfl,⟨h.bel,h.row,h.ws,fun i hi=>?_,h.nds,⟨_,h.brk,fun a b _ _ l _=>rfl⟩,.inl ⟨rfl,rfl⟩,World.ownsRow_nil _ _ _ _,h.cx,h.cw,h.cn g rfl,h.cm,fun y hy=>(by cases hy),fun y hy=>(by cases hy),h.lt,h.low,⟨he,fun i _=>newN_ni _,fun f hf=>(by cases hf),Nat.zero_le _,Nat.zero_le _⟩⟩⟩
  have:=h.ns.cellAt i (by omega)
  rw [this]
  unfold ptrsTo
  rw [List.getElem?_map,List.getElem?_range hi]
  rfl
def newK (nd s j mb p q:Nat):NB:=⟨nd,s,j,mb,p,q,fun _=>0,fun _=>0,fun _=>0⟩
def addK (K:Nat→NB) (k:Nat) (x:NB):Nat→NB:=fun e=>if e=k then x else K e
theorem WN.add {W4 w5:World} {nd s j mb' p q:Nat} {nv':Value} (h:WN w0 w C xb wb wc mb nv K zs k) (hk:k<7) (hb:Below w.heap.size w W4) (hrow:W4.heap[nd]? = some (.cells #[.pointer (some ⟨s,0,none⟩),.pointer none,.pointer none,.pointer none,.pointer none,.pointer none,.pointer none] 95 (0,0)))
  (hsp:SP w0 W4 s j mb' p q k (fun _=>false) 0 (dealL (zeroB 512).data.toList) false (zeroB 512) (-1)) (hq:w.heap.size≤q) (hqp:q<p) (hpj:p<j) (hjm:j<mb') (hms:mb'<s) (hsn:s<nd)
  (hown:w5.ownsRow w0.heap.size 91 1 nv' (k+1) (ptrsTo K k ++ [.pointer (some ⟨nd,0,none⟩)])) (hg:W4.grownBy w5 nv.ownBlock) (ho:nv'.ownBlock=nv.ownBlock ∨ nv'.ownBlock=some W4.heap.size) :
  ∃ C',WN w0 (w5.setCell ⟨xb,1,none⟩ nv') C' xb wb wc mb nv' (addK K k (newK nd s j mb' p q)) zs (k+1):=by
 have hnd:=row_ltJ hrow
 have hw0:=h.bel.size
 obtain ⟨C1,hC1⟩:∃ C1,C1=paint (paint (paint (paint (paint (paint C q (100 * k+6)) p (100 * k+5)) j (100 * k+3)) mb' (100 * k+4)) s (100 * k+2)) nd (100 * k+1):=⟨_,rfl⟩
 have cnd:C1 nd=100 * k+1:=by rw [hC1,paint_at]
 have cs:C1 s=100 * k+2:=by rw [hC1,paint_ne (by omega),paint_at]
 have cmb:C1 mb'=100 * k+4:=by rw [hC1,paint_ne (by omega),paint_ne (by omega),paint_at]
 have cj:C1 j=100 * k+3:=by rw [hC1,paint_ne (by omega),paint_ne (by omega),paint_ne (by omega),paint_at]
 have cp:C1 p=100 * k+5:=by rw [hC1,paint_ne (by omega),paint_ne (by omega),paint_ne (by omega),paint_ne (by omega),paint_at]
 have cq:C1 q=100 * k+6:=by rw [hC1,paint_ne (by omega),paint_ne (by omega),paint_ne (by omega),paint_ne (by omega),paint_ne (by omega),paint_at]
 have hCo:∀ x,x<w.heap.size→C1 x=C x:=fun x hx=>by rw [hC1,paint_ne (by omega),paint_ne (by omega),paint_ne (by omega),paint_ne (by omega),paint_ne (by omega),paint_ne (by omega)]
 have hcase:∀ x,C1 x<2000→x<w.heap.size ∨ (q≤x∧x≤nd):=fun x hx=>by
  by_cases a1:x=nd
  ·right; omega
  ·by_cases a2:x=s
   ·right; omega
   ·by_cases a3:x=mb'
    ·right; omega
    ·by_cases a4:x=j
     ·right; omega
     ·by_cases a5:x=p
      ·right; omega
      ·by_cases a6:x=q
       ·right; omega
       ·rw [hC1,paint_ne a1,paint_ne a2,paint_ne a3,paint_ne a4,paint_ne a5,paint_ne a6] at hx
        exact .inl (h.lt x hx)
 have h1:=(h.later hb).recolor (C':=C1) (by omega) (fun x hx=>hCo x (h.lt x hx)) (fun x hx=>by have:=hb.size; rcases hcase x hx with g|g <;> omega) (fun x hx=>by
  rcases hcase x hx with g|g
  ·exact h.low x (by rw [← hCo x g]; exact hx)
  ·omega)
 have hN:ND w0 W4 C1 (newK nd s j mb' p q) k zs (newN 512) 0:=⟨hrow,hsp,fun d hd x hx=>(by cases hx),cnd,cs,cj,cmb,cp,cq,fun d hd x hx=>(by cases hx),by show w0.heap.size≤nd; omega⟩
 have hkk:=grown_kept hg
 have cx1:=h1.cx; have cw1:=h1.cw; have cm1:=h1.cm
 obtain ⟨C2,hC2,hlt2,hlow2,hcn2⟩:∃ C2:Nat→Nat,(∀ x,C1 x<2000→C2 x=C1 x)∧(∀ x,C2 x<2000→x<w5.heap.size)∧(∀ x,C2 x<2000→w0.heap.size≤x)∧∀ g,nv'.ownBlock=some g→C2 g=1003:=by
  rcases ho with o|o
  ·refine ⟨C1,fun _ _=>rfl,fun x hx=>Nat.lt_of_lt_of_le (h1.lt x hx) hg.size,h1.low,fun g hgg=>h1.cn g (by rw [← o]; exact hgg)⟩
  ·have hsz:W4.heap.size<w5.heap.size:=own_lt hown o
   refine ⟨paint C1 W4.heap.size 1003,fun x hx=>paint_ne (by have:=h1.lt x hx; omega),fun x hx=>?_,fun x hx=>?_,fun g hgg=>?_⟩
   ·by_cases e:x=W4.heap.size
    ·rw [e]; exact hsz
    ·rw [paint_ne e] at hx; exact Nat.lt_of_lt_of_le (h1.lt x hx) hg.size
   ·by_cases e:x=W4.heap.size
    ·rw [e]; have:=hb.size; omega
    ·rw [paint_ne e] at hx; exact h1.low x hx
   ·rw [o] at hgg
    obtain rfl:=Option.some.inj hgg
    exact paint_at _ _ _
 have hK:Kept (fun x=>nv.ownBlock=some x ∨ x=xb) W4 (w5.setCell ⟨xb,1,none⟩ nv'):=(hkk.mono (fun x hx=>.inl hx)).setCell (.inr rfl) _
 have hS:∀ x,(nv.ownBlock=some x ∨ x=xb)→C1 x=1003 ∨ C1 x=1001:=fun x hx=>by
  rcases hx with hx|rfl
  ·exact .inl (h1.cn x hx)
  ·exact .inr h1.cx
 have nS:∀ x,C1 x≠1003→C1 x≠1001→¬ (nv.ownBlock=some x ∨ x=xb):=fun x n1 n2 hx=>by rcases hS x hx with g|g <;> omega
 have hlow:∀ x,(nv.ownBlock=some x ∨ x=xb)→w0.heap.size≤x:=fun x hx=>h1.low x (by rcases hS x hx with g|g <;> omega)
 have hND:∀ (x:NB) (e:Nat),e≤9→ND w0 W4 C1 x e zs (newN 512) 0→ND w0 (w5.setCell ⟨xb,1,none⟩ nv') C2 x e zs (newN 512) 0:=fun x e he hx=>(hx.kept hK (fun y _ hy=>nS y (by omega) (by omega)) hlow).recolor he hC2
 refine ⟨C2,⟨hK.below h1.bel.size hlow h1.bel,?_,fun e he=>cell_kept (h1.ws e he) hK (nS _ (by show C1 wb≠_; omega) (by show C1 wb≠_; omega)),?_,fun e he=>?_,ownsMap_kept h1.brk hK (nS _ (by omega) (by omega)),(hC2 _ (by omega)).trans cx1,(hC2 _ (by omega)).trans cw1,(hC2 _ (by omega)).trans cm1,hcn2,fun x hx=>?_,hlow2⟩⟩
 ·have hr5:=hkk.row h1.row (fun e=>by have:=h1.cn _ e; omega)
  rw [heap_setCell_same w5 xb 1 _ _ _ hr5]; rfl
 ·have e1:ptrsTo (addK K k (newK nd s j mb' p q)) (k+1)=ptrsTo K k ++ [.pointer (some ⟨nd,0,none⟩)]:=by
   rw [ptrsTo_succ,ptrsTo_same (L:=K) (fun i hi=>by unfold addK; rw [if_neg (by omega)])]
   unfold addK newK
   rw [if_pos rfl]
  rw [e1]
  refine own_kept hown ((Kept.refl (In1 xb) w5).set1 1 nv') (fun y hy e=>?_)
  have h3:=hcn2 y hy
  rw [show y=xb from e,hC2 _ (by omega)] at h3
  omega
 ·by_cases g:e=k
  ·subst g
   have:=hND _ e (by omega) hN
   unfold addK
   rw [if_pos rfl]
   exact this
  ·have:=hND _ e (by omega) (h1.nds e (by omega))
   unfold addK
   rw [if_neg g]
   exact this
 ·have:=hlt2 x hx
  simpa using this
theorem wnew_err (v:Value) (c:Nat) (hv:IsSl w v zs) (hE:Held9 w A) (he:errW zs=c+1) :
  Calls Tryz.prog 14 #[v] w fun e w'=>e=.returned (.tuple #[.pointer none,.iface 276 (.pointer (some (A c)))])∧w'=w:=by
 have HC:Hid (Calls Tryz.prog 48 #[v] w fun e w'=>e=.returned (.iface 276 (.pointer (some (A c))))∧w'=w):=by
  have:=check_any A v zs w hv hE.to3
  rw [he] at this
  exact this
 obtain ⟨a,cap0,rfl,-,-,-⟩:=hv
 clear hE he
 go_enter Tryz.func14,Tryz.ntmps14
 go_wp2_with fail
 refine HC.out.mono ?_
 rintro e w1 ⟨rfl,hx⟩
 subst w1
 go_wp2_with fail
 go_ret2
 exact ⟨rfl,rfl⟩
theorem wpList_append_node {w:World} {ops:Array Oper} {rest:List Oper} {o:Oper} {a:Act} {Q:Exit→Act→World→Prop} (hgd:o.guard=none) (s x:Operand)
  (ho:o.op=.call { callee:=.builtin .append,args:=#[s,x],argTypes:=#[82,82] })
  (base n:Nat) (v:Value) (ad:Addr) (c:Nat) (xs:List Value) (u:Value) (hu1:u.oneCell'=true) (hs:a.eval s=v) (hx:a.eval x=.slice (some ad) 1 c) (hown:w.ownsRow base 91 1 v n xs) (hu:w.cell? (ad.add 0)=some u) (hn:n≤1000000) (hb:base≤w.heap.size)
  (h:∀ ad' cap' w',w'.ownsRow base 91 1 (.slice ad' (n+1) cap') (n+1) (xs ++ [u])→w.grownBy w' v.ownBlock→((Value.slice ad' (n+1) cap').ownBlock=v.ownBlock ∨ (Value.slice ad' (n+1) cap').ownBlock=some w.heap.size)→wpList Tryz.prog ops Q rest (a.put o.dst (.slice ad' (n+1) cap')) w') :
  wpList Tryz.prog ops Q (o :: rest) a w:=by
 obtain ⟨i0,hi0,hz0,hz1,hz2⟩:=info_parts Tryz.infoPN
 refine wpList_append_own_at w hgd s x 82 ho base 91 i0 _ 1 8 Tryz.underlying82 hi0 hz0 hz1 hz2 rfl (by decide) v n xs hs hown ad 1 c [u] hx rfl (fun j y hj=>?_) (fun y hy=>by rw [List.mem_singleton.1 hy]; exact hu1) (by unfold maxLen; omega) (by omega) hb ?_
 ·cases j with
  | zero=>rw [← Option.some.inj hj]; exact hu
  | succ j=>simp at hj
 ·intro v' w' h2 h3 _ h5
  obtain ⟨ad',cap',rfl⟩:∃ ad' cap',v'=.slice ad' (n+1) cap':=by
   rcases h2.2 with ⟨e,h0⟩|⟨g,cap,cur,e,-⟩
   ·omega
   ·exact ⟨_,_,e⟩
  exact h ad' cap' w' h2 h3 h5
theorem wnew_ok (v:Value) (hv:IsSl w v zs) (hE:Held9 w A) (he:errW zs=0) :
  Calls Tryz.prog 14 #[v] w fun e w'=>∃ C X,e=.returned (.tuple #[.pointer (some ⟨X.xb,0,none⟩),.nilIface])∧WD w w' C X zs newX 0:=by
 have hn:=errW_zero he
 have HCk:=hid (check_ok A v zs w hv hE.to3 he)
 have HCl:Hid (Calls Tryz.prog 49 #[v] w fun e w'=>∃ wb wc,e=.returned (.slice (some ⟨wb,0,none⟩) zs.length wc)∧w'.ownsRow w.heap.size 3 1 (.slice (some ⟨wb,0,none⟩) zs.length wc) zs.length (zs.map (Value.int .i64))∧Below w.heap.size w w'):=by
  refine (clone_any v zs w hv hn.1 (by omega)).mono ?_
  rintro e w' ⟨v',he',ho,hb⟩
  obtain ⟨g,cp,rfl,-⟩:=ho.form (by omega)
  exact ⟨g,cp,he',ho,hb⟩
 have HE:=hid hE
 have HZ:=hid he
 obtain ⟨n,hnn⟩:∃ n,Hid (zs.length=n):=⟨_,rfl⟩
 obtain ⟨a,cap0,rfl,hml,-,-⟩:=hv
 have n7:=hn.2.1
 have n1:=hn.1
 have hmm:=@run_makeMap Tryz.prog
 rw [hnn.out] at HCk HCl n7 n1 hml ⊢
 clear hE he hn
 go_enter Tryz.func14,Tryz.ntmps14
 go_wp2_with fail
 refine HCk.out.mono ?_
 rintro e w1 ⟨rfl,hx⟩
 subst w1
 go_wp2_with fail
 refine HCl.out.mono ?_
 rintro e w1 ⟨wb,wc,rfl,ho1,hb1⟩
 have hwb:=(ho1.lt wb rfl)
 obtain ⟨W2,HW2⟩:∃ W2,Hid ((w1.alloc (.map #[] 0)).alloc (.cells #[.slice (some ⟨wb,0,none⟩) n wc,.slice none 0 0,.map (some w1.heap.size),.slice none 0 0,.slice none 0 0] 84)=W2):=⟨_,rfl⟩
 have hW2:=HW2.out
 have HWN:Hid (∃ C,WN w W2 C (w1.heap.size+1) wb wc w1.heap.size (.slice none 0 0) (fun _=>newK 0 0 0 0 0 0) zs 0):=by
  have hb2:Below w1.heap.size w1 W2:=by rw [← HW2.out]; exact ((Below.refl _ _).alloc (Nat.le_refl _) _).alloc (by simp) _
  have hsz:W2.heap.size=w1.heap.size+2:=by rw [← HW2.out]; simp
  obtain ⟨C0,hC0⟩:∃ C0,C0=paint (paint (paint (fun _=>5000) (w1.heap.size+1) 1001) wb 1002) w1.heap.size 1004:=⟨_,rfl⟩
  have k1:C0 (w1.heap.size+1)=1001:=by rw [hC0,paint_ne (by omega),paint_ne (by omega),paint_at]
  have k2:C0 wb=1002:=by rw [hC0,paint_ne (by omega),paint_at]
  have k3:C0 w1.heap.size=1004:=by rw [hC0,paint_at]
  have hcase:∀ x,C0 x<2000→x=w1.heap.size+1 ∨ x=wb ∨ x=w1.heap.size:=fun x hx=>by
   by_cases a1:x=w1.heap.size
   ·exact .inr (.inr a1)
   ·by_cases a2:x=wb
    ·exact .inr (.inl a2)
    ·by_cases a3:x=w1.heap.size+1
     ·exact .inl a3
     ·rw [hC0,paint_ne a1,paint_ne a2,paint_ne a3] at hx; omega
  refine ⟨C0,⟨hb1.trans (hb2.mono hb1.size),?_,fun i hi=>?_,World.ownsRow_nil _ _ _ _,fun i hi=>absurd hi (Nat.not_lt_zero _),?_,k1,k2,k3,fun g hg=>(by cases hg),fun x hx=>?_,fun x hx=>?_⟩⟩
  ·have hs1:(w1.alloc (.map #[] 0)).heap.size=w1.heap.size+1:=by simp
   rw [← HW2.out,← hs1,hnn.out]
   exact heap_alloc_new _ _
  ·have:=ho1.cellAt i (by rw [← hnn.out]; omega)
   rw [Nat.zero_add]
   refine cell_later hb2 (this.trans ?_)
   rw [List.getElem?_map,List.getElem?_eq_getElem hi,getD_lt zs i hi]
   rfl
  ·rw [← HW2.out]
   exact (World.ownsMap_made w1 _ _ _).alloc _
  ·rcases hcase x hx with g|g|g <;> omega
  ·have:=hb1.size
   rcases hcase x hx with g|g|g <;> omega
 have hxlt:w1.heap.size+1<W2.heap.size:=by rw [← HW2.out]; simp
 clear ho1 hb1 hwb
 go_wp2_with fail
 go_loopw [22] (fun v wr=>∃ k:Nat,k≤n∧v=.int .i64 (k:Int)∧∃ C nv K,WN w wr C (w1.heap.size+1) wb wc w1.heap.size nv K zs k) (fun v _=>n - (intOf v).toNat)
 case atStart =>
  obtain ⟨C,hC⟩:=HWN.out
  exact ⟨0,Nat.zero_le _,rfl,C,_,_,hC⟩
 case round =>
  obtain ⟨k,hk,rfl,C,nv,K,hN⟩:=hrel
  have HN:=hid hN
  obtain ⟨ad,cp,hnv⟩:∃ ad cp,Hid (nv=.slice ad k cp):=by
   rcases hN.ns.2 with ⟨e,h0⟩|⟨g,cap,cur,e,-⟩
   ·exact ⟨none,0,by rw [e,h0]; exact rfl⟩
   ·exact ⟨_,_,e⟩
  clear hN
  by_cases hlt:k<n
  ·go_wp2_with fail
   refine (pnew_ok 512 wr (by decide)).mono ?_
   rintro e w3 ⟨rfl,hp3,hb3,hsz3⟩
   have HN3:=hid (HN.out.later hb3)
   have HP3:=hid hp3
   have HB3:=hid hb3
   have HE3:=hid (HE.out.later HN3.out.bel)
   clear hp3 hb3
   go_wp2_with fail
   refine (snew_ok A (k:Int) _ _ _ (-1) w3 HP3.out HE3.out.toE (by rw [zeroB_size]; decide) (by rw [zeroB_size]; decide) (by decide) (by omega) (by omega)).mono ?_
   rintro e w4 ⟨s',j',mb',rfl,hj,hs4,hb4,hj0,hjm,hms⟩
   have HSP:=hid (sp_new (w0:=w) HN3.out.bel HP3.out (by have:=HN.out.bel.size; omega) (HN.out.bel.size) hj hs4 hb4 hj0 hjm hms (by decide) (by decide) (by rw [zeroB_size]; decide) (by rw [zeroB_size]; decide))
   have HN4:=hid (HN3.out.later hb4)
   have c1:w4.cell? ⟨w1.heap.size+1,1,none⟩=some nv:=by rw [cell_of_row _ _ _ _ _ _ HN4.out.row]; rfl
   rw [hnv.out] at c1
   obtain ⟨W5,HW5⟩:∃ W5,Hid (w4.alloc (.cells #[.pointer (some ⟨s',0,none⟩),.pointer none,.pointer none,.pointer none,.pointer none,.pointer none,.pointer none] 95)=W5):=⟨_,rfl⟩
   obtain ⟨W6,HW6⟩:∃ W6,Hid (W5.alloc (.cells #[.pointer (some ⟨w4.heap.size,0,none⟩)] 91)=W6):=⟨_,rfl⟩
   have hs5:W5.heap.size=w4.heap.size+1:=by rw [← HW5.out]; simp
   have HB5:Hid (Below w4.heap.size w4 W5):=by rw [← HW5.out]; exact (Below.refl _ _).alloc (Nat.le_refl _) _
   have HB6:Hid (Below W5.heap.size W5 W6):=by rw [← HW6.out]; exact (Below.refl _ _).alloc (Nat.le_refl _) _
   have HB46:Hid (Below w4.heap.size w4 W6):=HB5.out.trans (HB6.out.mono HB5.out.size)
   have HRn:Hid (W6.heap[w4.heap.size]? = some (.cells #[.pointer (some ⟨s',0,none⟩),.pointer none,.pointer none,.pointer none,.pointer none,.pointer none,.pointer none] 95 (0,0))):=by
    have h5:W5.heap[w4.heap.size]? = some (.cells #[.pointer (some ⟨s',0,none⟩),.pointer none,.pointer none,.pointer none,.pointer none,.pointer none,.pointer none] 95 (0,0)):=by rw [← HW5.out]; exact heap_alloc_new w4 _
    exact (HB6.out.block _ (row_ltJ h5)).trans h5
   have HLt:Hid (W6.cell? ((⟨w4.heap.size+1,0,none⟩:Addr).add 0)=some (.pointer (some ⟨w4.heap.size,0,none⟩))):=by
    rw [addr_add,← hs5,← HW6.out,cell_of_row _ _ _ _ _ _ (heap_alloc_new W5 _)]
    rfl
   have HOw:Hid (W6.ownsRow w.heap.size 91 1 (.slice ad k cp) k (ptrsTo K k)):=by have:=(HN4.out.later HB46.out).ns; rw [hnv.out] at this; exact this
   have HX:Hid (∀ w',W6.grownBy w' (Value.slice ad k cp).ownBlock→w'.cell? ⟨w1.heap.size+1,1,none⟩=some (.slice ad k cp)∧w'.frozen? ⟨w1.heap.size+1,1,none⟩=false):=by
    intro w' hg
    have hr:=(grown_kept hg).row (HN4.out.later HB46.out).row (fun e=>by rw [← hnv.out] at e; have h1:=HN4.out.cn _ e; have h2:=HN4.out.cx; omega)
    exact ⟨by rw [cell_of_row _ _ _ _ _ _ hr,← hnv.out]; rfl,frozen_of_row _ _ _ _ _ hr⟩
   have hb06:w.heap.size≤W6.heap.size:=(HN4.out.later HB46.out).bel.size
   have HBr:Hid (Below wr.heap.size wr W6):=HB3.out.trans ((hb4.trans (HB46.out.mono hb4.size)).mono HB3.out.size)
   have HSP6:=hid (HSP.out.later HB46.out)
   have hsl:=HSP.out.lts
   have hW5:=HW5.out
   have hW6:=HW6.out
   clear hj hs4 hb4
   go_wp2_with (at_builtin; refine wpList_append_node rfl _ _ rfl w.heap.size k (.slice ad k cp) ⟨w4.heap.size+1,0,none⟩ 1 (ptrsTo K k) (.pointer (some ⟨w4.heap.size,0,none⟩)) rfl rfl rfl HOw.out HLt.out (by omega) hb06 ?_; intro ad' cap' w' hown hg ho; obtain ⟨c1',z1'⟩:=HX.out w' hg; have HS:=hid (And.intro hown (And.intro hg ho)); clear hown hg ho)
   go_roundw
   case rel =>
    rw [← hnv.out] at HS
    obtain ⟨C',hC'⟩:=HN.out.add (by omega) HBr.out HRn.out HSP6.out (by omega) (by omega) (by omega) hjm hms hsl.1 HS.out.1 HS.out.2.1 HS.out.2.2
    exact ⟨k+1,by omega,by go_num,C',_,_,hC'⟩
   case measure=>simp [intOf]; omega
  ·obtain rfl:k=n:=by omega
   go_wp2_with fail
   go_ret2
   have hN:=HN.out
   rw [← hnn.out] at hN
   obtain ⟨nb,nc,-,hWD⟩:=hN.done HZ.out
   exact ⟨C,_,rfl,hWD⟩
end
theorem stN_new (i d:Nat) (hd:d<6):stN (newX.nd i) d=⟨0,0,0⟩:=by
 show (dealL (zeroB 512).data.toList d).2=_
 rw [deal_zero 512 d (by omega)]
 rfl
theorem held_new (n d:Nat) (hd:d<6):heldX n newX d=false:=by
 unfold heldX
 rw [List.any_eq_false]
 intro i _
 rw [stN_new i d hd]
 show ¬ ((false || !decide (0=0∧0=0∧0=0))=true)
 decide
theorem beg_new:cBeg 3 newX 1 0=0:=by
 unfold cBeg
 rw [if_pos (by decide),if_pos (by decide),if_neg (by rw [held_new 3 _ (by decide)]; decide)]
theorem beg_held (zs:List Int):cBeg 3 (beginX zs newX 1 0) 0 0=8:=by
 unfold cBeg
 rw [if_pos (by decide),if_pos (by rfl),if_pos ?_]
 unfold heldX
 rw [List.any_eq_true]
 exact ⟨1,by decide,rfl⟩
theorem born_any (A:Nat→Addr) (w:World) (hE:Held9 w A):Calls Tryz.prog 11 #[] w fun e w'=>e=.returned (.bool true)∧Below w.heap.size w w':=by
 obtain ⟨W,HW⟩:∃ W,Hid (w.alloc (.cells #[.int .i64 1,.int .i64 1,.int .i64 1] 3)=W):=⟨_,rfl⟩
 have hW:=HW.out
 have HB:Hid (Below w.heap.size w W):=by rw [← HW.out]; exact (Below.refl _ _).alloc (Nat.le_refl _) _
 have HE:=hid (hE.later HB.out)
 have HR:=hid (heap_alloc_new w (.cells #[.int .i64 1,.int .i64 1,.int .i64 1] 3))
 rw [HW.out] at HR
 have HSl:Hid (IsSl W (.slice (some ⟨w.heap.size,0,none⟩) 3 3) [1,1,1]):=by
  refine ⟨_,3,rfl,by decide,(fun x=>by cases x),fun _=>⟨w.heap.size,0,rfl,fun i hi=>?_⟩⟩
  have h3:i=0 ∨ i=1 ∨ i=2:=by have:i<3:=hi; omega
  rcases h3 with rfl|rfl|rfl <;> rw [cell_of_row _ _ _ _ _ _ HR.out] <;> rfl
 clear hE
 go_enter Tryz.func11,Tryz.ntmps11
 go_wp2_with fail
 refine (wnew_ok _ HSl.out HE.out (by decide)).mono ?_
 rintro e w1 ⟨C,X,rfl,h1⟩
 have H1:=hid h1
 clear h1
 go_wp2_with fail
 refine (begin_any 1 0 0 H1.out HE.out (by decide) beg_new).mono ?_
 rintro e w2 ⟨rfl,C2,X2,g1,g2,g3,g4⟩
 rw [if_pos rfl,show ((1:Int).toNat)=1 from rfl,show ((0:Int).toNat)=0 from rfl] at g1
 rw [show ev A 0=.nilIface from rfl]
 have H2:=hid g1
 have HX2:=hid (key_xb g2)
 clear g1 g2 g3 g4
 have HLd:=hid (lead_ok 1 0 H2.out (by decide) (by decide))
 have HFl:=hid (flying_any H2.out (by decide))
 rw [HX2.out] at HLd HFl
 rw [show ((1:Nat):Int)=1 from rfl,show ((0:Nat):Int)=0 from rfl,show leadT ((beginX [1,1,1] newX 1 0).nd 1) 0=⟨#[97,115,107,105,110,103]⟩ from rfl] at HLd
 go_wp2_with fail
 refine HLd.out.mono ?_
 rintro e w3 ⟨rfl,hx⟩
 subst w3
 go_wp2_with fail
 refine HFl.out.mono ?_
 rintro e w3 ⟨v3,rfl,ho3,hb3⟩
 obtain ⟨ad,cap,rfl⟩:∃ ad cap,v3=.slice ad 3 cap:=by
  rcases ho3.2 with ⟨_,h0⟩|⟨g,cap,cur,e,-⟩
  ·cases h0
  ·exact ⟨_,_,e⟩
 have H3:=hid (H2.out.later hb3)
 have HBg:=hid (begin_any 0 0 8 H3.out HE.out (by decide) (beg_held [1,1,1]))
 rw [HX2.out,show ev A 8=.iface 276 (.pointer (some (A 7))) from rfl] at HBg
 clear ho3 hb3
 go_wp2_with fail
 refine HBg.out.mono ?_
 rintro e w4 ⟨rfl,C4,X4,g1,-,-,-⟩
 have H4:=hid g1
 clear g1
 go_wp2_with fail
 refine (coded_at A 7 8 w4 (H4.out.held HE.out) (by decide)).mono ?_
 rintro e w5 ⟨rfl,hb5⟩
 have HB5:=hid (below_trans (below_trans HB.out H4.out.bel) hb5)
 clear hb5
 rw [show (((7:Nat):Int)+1 == 8)=true from rfl]
 go_wp2_with fail
 go_ret
 exact ⟨rfl,HB5.out⟩
end Go.Proofs.YtadhpkopkkjmfaaGreatDoor
