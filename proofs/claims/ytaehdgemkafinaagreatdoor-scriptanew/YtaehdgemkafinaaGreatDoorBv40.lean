/-
  On the way to SAnewProof: UB.
-/
import Derived.Test.YtaehdgemkafinaaGreatDoorBv38
set_option maxHeartbeats 8000000
set_option maxRecDepth 100000
namespace Go.Proofs.YtaehdgemkafinaaGreatDoor
open Go.RowKit
def ptrsTo (K:Nat→NB) (k:Nat):List Value:=(List.range k).map fun i=>.pointer (some ⟨(K i).nd,0,none⟩)
theorem ptrsTo_succ (K:Nat→NB) (k:Nat):ptrsTo K (k+1)=ptrsTo K k ++ [.pointer (some ⟨(K k).nd,0,none⟩)]:=by simp [ptrsTo,List.range_succ]
theorem ptrsTo_same {K L:Nat→NB} {k:Nat} (h:∀ i,i<k→(K i).nd=(L i).nd):ptrsTo K k=ptrsTo L k:=by
 unfold ptrsTo
 refine List.map_congr_left fun i hi=>?_
 rw [h i (List.mem_range.1 hi)]
theorem Tryz.infoPN:(Tryz.prog.info? 138).map (fun i=>(i.zero,i.size,i.bytes))=some (some (.pointer none),1,8):=by kernel_rfl
structure WN (w0 w:World) (C:Nat→Nat) (xb wb wc mb:Nat) (nv:Value) (K:Nat→NB) (zs:List Int) (k:Nat):Prop where
 bel:Below w0.heap.size w0 w
 row:w.heap[xb]? = some (.cells #[.slice (some ⟨wb,0,none⟩) zs.length wc,nv,.map (some mb),.slice none 0 0,.slice none 0 0] 148 (0,0))
 ws:∀ i,i<zs.length→w.cell? ⟨wb,0+i,none⟩=some (.int .i64 (zs.getD i 0))
 ns:w.ownsRow w0.heap.size 138 1 nv k (ptrsTo K k)
 nds:∀ i,i<k→ND w0 w C (K i) i zs (newN 512) 0
 brk:w.ownsMap Tryz.prog 172 (unitElem (H:=Unit)) mb 0 (.map [])
 cx:C xb=1001
 cw:C wb=1002
 cm:C mb=1004
 cn:∀ g,nv.ownBlock=some g→C g=1003
 lt:∀ x,C x<2000→x<w.heap.size
 low:∀ x,C x<2000→w0.heap.size≤x
section
variable {w0 w w':World} {C C':Nat→Nat} {xb wb wc mb k:Nat} {nv:Value} {K:Nat→NB} {zs:List Int} {A:Nat→Addr}
theorem WN.later (h:WN w0 w C xb wb wc mb nv K zs k) (hb:Below w.heap.size w w'):WN w0 w' C xb wb wc mb nv K zs k:=by
 have kk:Kept (fun _=>False) w w':=Kept.of_below hb
 exact ⟨h.bel.trans (hb.mono h.bel.size),kk.row h.row (fun x=>x),fun i hi=>cell_kept (h.ws i hi) kk (fun x=>x),own_kept h.ns kk (fun _ _ x=>x),fun i hi=>(h.nds i hi).later hb,ownsMap_kept h.brk kk (fun x=>x),h.cx,h.cw,h.cm,h.cn,fun x hx=>Nat.lt_of_lt_of_le (h.lt x hx) hb.size,h.low⟩
theorem WN.recolor (h:WN w0 w C xb wb wc mb nv K zs k) (hk:k≤9) (hC:∀ x,C x<2000→C' x=C x) (hl:∀ x,C' x<2000→x<w.heap.size) (hw:∀ x,C' x<2000→w0.heap.size≤x):WN w0 w C' xb wb wc mb nv K zs k:=by
 have e1:=h.cx; have e2:=h.cw; have e4:=h.cm
 exact ⟨h.bel,h.row,h.ws,h.ns,fun i hi=>(h.nds i hi).recolor (by omega) hC,h.brk,(hC _ (by omega)).trans e1,(hC _ (by omega)).trans e2,(hC _ (by omega)).trans e4,fun g hg=>(hC g (by have:=h.cn g hg; omega)).trans (h.cn g hg),hl,hw⟩
theorem newN_ni (n:Nat):NI n (newN 512) 0:=by
 have h:=well_zero 512 (by decide)
 exact ⟨h.good,h.num,zeroB_size 512,fun _=>rfl,by show (-2:Int)≤-1; omega,by show (-1:Int)≤_; omega,fun d x hx=>by cases hx⟩
theorem WN.done (h:WN w0 w C xb wb wc mb nv K zs zs.length) (he:errW zs=0):∃ nb nc,nv=.slice (some ⟨nb,0,none⟩) zs.length nc∧WD w0 w C ⟨xb,wb,wc,nb,nc,mb,.slice none 0 0,.slice none 0 0,K⟩ zs newX 0:=by
 have n1:=(errW_zero he).1
 rcases h.ns.2 with ⟨-,h0⟩|⟨g,cap,cur,e,h2,h3,h4,h5,h6,h7⟩
 ·omega
 ·subst e
  refine ⟨g,cap,rfl,⟨h.bel,h.row,h.ws,fun i hi=>?_,h.nds,⟨_,h.brk,fun a b _ _ l _=>rfl⟩,.inl ⟨rfl,rfl⟩,World.ownsRow_nil _ _ _ _,h.cx,h.cw,h.cn g rfl,h.cm,fun y hy=>(by cases hy),fun y hy=>(by cases hy),h.lt,h.low,⟨he,fun i _=>newN_ni _,fun f hf=>(by cases hf),Nat.zero_le _,Nat.zero_le _⟩⟩⟩
  have:=h.ns.cellAt i (by omega)
  rw [this]
  unfold ptrsTo
  rw [List.getElem?_map,List.getElem?_range hi]
  rfl
def newK (nd s j mb p q:Nat):NB:=⟨nd,s,j,mb,p,q,fun _=>0,fun _=>0,fun _=>0⟩
def addK (K:Nat→NB) (k:Nat) (x:NB):Nat→NB:=fun e=>if e=k then x else K e
theorem WN.add {W4 w5:World} {nd s j mb' p q:Nat} {nv':Value} (h:WN w0 w C xb wb wc mb nv K zs k) (hk:k<7) (hb:Below w.heap.size w W4) (hrow:W4.heap[nd]? = some (.cells #[.pointer (some ⟨s,0,none⟩),.pointer none,.pointer none,.pointer none,.pointer none,.pointer none,.pointer none] 152 (0,0)))
  (hsp:SP w0 W4 s j mb' p q k (fun _=>false) 0 (dealL (zeroB 512).data.toList) false (zeroB 512) (-1)) (hq:w.heap.size≤q) (hqp:q<p) (hpj:p<j) (hjm:j<mb') (hms:mb'<s) (hsn:s<nd)
  (hown:w5.ownsRow w0.heap.size 138 1 nv' (k+1) (ptrsTo K k ++ [.pointer (some ⟨nd,0,none⟩)])) (hg:W4.grownBy w5 nv.ownBlock) (ho:nv'.ownBlock=nv.ownBlock ∨ nv'.ownBlock=some W4.heap.size) :
  ∃ C',WN w0 (w5.setCell ⟨xb,1,none⟩ nv') C' xb wb wc mb nv' (addK K k (newK nd s j mb' p q)) zs (k+1):=by
 have hnd:=row_ltJ hrow
 have hw0:=h.bel.size
 obtain ⟨C1,hC1⟩:∃ C1,C1=paint (paint (paint (paint (paint (paint C q (100 * k+6)) p (100 * k+5)) j (100 * k+3)) mb' (100 * k+4)) s (100 * k+2)) nd (100 * k+1):=⟨_,rfl⟩
 have cnd:C1 nd=100 * k+1:=by rw [hC1,paint_at]
 have cs:C1 s=100 * k+2:=by rw [hC1,paint_ne (by omega),paint_at]
 have cmb:C1 mb'=100 * k+4:=by rw [hC1,paint_ne (by omega),paint_ne (by omega),paint_at]
 have cj:C1 j=100 * k+3:=by rw [hC1,paint_ne (by omega),paint_ne (by omega),paint_ne (by omega),paint_at]
 have cp:C1 p=100 * k+5:=by rw [hC1,paint_ne (by omega),paint_ne (by omega),paint_ne (by omega),paint_ne (by omega),paint_at]
 have cq:C1 q=100 * k+6:=by rw [hC1,paint_ne (by omega),paint_ne (by omega),paint_ne (by omega),paint_ne (by omega),paint_ne (by omega),paint_at]
 have hCo:∀ x,x<w.heap.size→C1 x=C x:=fun x hx=>by rw [hC1,paint_ne (by omega),paint_ne (by omega),paint_ne (by omega),paint_ne (by omega),paint_ne (by omega),paint_ne (by omega)]
 have hcase:∀ x,C1 x<2000→x<w.heap.size ∨ (q≤x∧x≤nd):=fun x hx=>by
  by_cases a1:x=nd
  ·right; omega
  ·by_cases a2:x=s
   ·right; omega
   ·by_cases a3:x=mb'
    ·right; omega
    ·by_cases a4:x=j
     ·right; omega
     ·by_cases a5:x=p
      ·right; omega
      ·by_cases a6:x=q
       ·right; omega
       ·rw [hC1,paint_ne a1,paint_ne a2,paint_ne a3,paint_ne a4,paint_ne a5,paint_ne a6] at hx
        exact .inl (h.lt x hx)
 have h1:=(h.later hb).recolor (C':=C1) (by omega) (fun x hx=>hCo x (h.lt x hx)) (fun x hx=>by have:=hb.size; rcases hcase x hx with g|g <;> omega) (fun x hx=>by
  rcases hcase x hx with g|g
  ·exact h.low x (by rw [← hCo x g]; exact hx)
  ·omega)
 have hN:ND w0 W4 C1 (newK nd s j mb' p q) k zs (newN 512) 0:=⟨hrow,hsp,fun d hd x hx=>(by cases hx),cnd,cs,cj,cmb,cp,cq,fun d hd x hx=>(by cases hx),by show w0.heap.size≤nd; omega⟩
 have hkk:=grown_kept hg
 have cx1:=h1.cx; have cw1:=h1.cw; have cm1:=h1.cm
 obtain ⟨C2,hC2,hlt2,hlow2,hcn2⟩:∃ C2:Nat→Nat,(∀ x,C1 x<2000→C2 x=C1 x)∧(∀ x,C2 x<2000→x<w5.heap.size)∧(∀ x,C2 x<2000→w0.heap.size≤x)∧∀ g,nv'.ownBlock=some g→C2 g=1003:=by
  rcases ho with o|o
  ·refine ⟨C1,fun _ _=>rfl,fun x hx=>Nat.lt_of_lt_of_le (h1.lt x hx) hg.size,h1.low,fun g hgg=>h1.cn g (by rw [← o]; exact hgg)⟩
  ·have hsz:W4.heap.size<w5.heap.size:=own_lt hown o
   refine ⟨paint C1 W4.heap.size 1003,fun x hx=>paint_ne (by have:=h1.lt x hx; omega),fun x hx=>?_,fun x hx=>?_,fun g hgg=>?_⟩
   ·by_cases e:x=W4.heap.size
    ·rw [e]; exact hsz
    ·rw [paint_ne e] at hx; exact Nat.lt_of_lt_of_le (h1.lt x hx) hg.size
   ·by_cases e:x=W4.heap.size
    ·rw [e]; have:=hb.size; omega
    ·rw [paint_ne e] at hx; exact h1.low x hx
   ·rw [o] at hgg
    obtain rfl:=Option.some.inj hgg
    exact paint_at _ _ _
 have hK:Kept (fun x=>nv.ownBlock=some x ∨ x=xb) W4 (w5.setCell ⟨xb,1,none⟩ nv'):=(hkk.mono (fun x hx=>.inl hx)).setCell (.inr rfl) _
 have hS:∀ x,(nv.ownBlock=some x ∨ x=xb)→C1 x=1003 ∨ C1 x=1001:=fun x hx=>by
  rcases hx with hx|rfl
  ·exact .inl (h1.cn x hx)
  ·exact .inr h1.cx
 have nS:∀ x,C1 x≠1003→C1 x≠1001→¬ (nv.ownBlock=some x ∨ x=xb):=fun x n1 n2 hx=>by rcases hS x hx with g|g <;> omega
 have hlow:∀ x,(nv.ownBlock=some x ∨ x=xb)→w0.heap.size≤x:=fun x hx=>h1.low x (by rcases hS x hx with g|g <;> omega)
 have hND:∀ (x:NB) (e:Nat),e≤9→ND w0 W4 C1 x e zs (newN 512) 0→ND w0 (w5.setCell ⟨xb,1,none⟩ nv') C2 x e zs (newN 512) 0:=fun x e he hx=>(hx.kept hK (fun y _ hy=>nS y (by omega) (by omega)) hlow).recolor he hC2
 refine ⟨C2,⟨hK.below h1.bel.size hlow h1.bel,?_,fun e he=>cell_kept (h1.ws e he) hK (nS _ (by show C1 wb≠_; omega) (by show C1 wb≠_; omega)),?_,fun e he=>?_,ownsMap_kept h1.brk hK (nS _ (by omega) (by omega)),(hC2 _ (by omega)).trans cx1,(hC2 _ (by omega)).trans cw1,(hC2 _ (by omega)).trans cm1,hcn2,fun x hx=>?_,hlow2⟩⟩
 ·have hr5:=hkk.row h1.row (fun e=>by have:=h1.cn _ e; omega)
  rw [heap_setCell_same w5 xb 1 _ _ _ hr5]; rfl
 ·have e1:ptrsTo (addK K k (newK nd s j mb' p q)) (k+1)=ptrsTo K k ++ [.pointer (some ⟨nd,0,none⟩)]:=by
   rw [ptrsTo_succ,ptrsTo_same (L:=K) (fun i hi=>by unfold addK; rw [if_neg (by omega)])]
   unfold addK newK
   rw [if_pos rfl]
  rw [e1]
  refine own_kept hown ((Kept.refl (In1 xb) w5).set1 1 nv') (fun y hy e=>?_)
  have h3:=hcn2 y hy
  rw [show y=xb from e,hC2 _ (by omega)] at h3
  omega
 ·by_cases g:e=k
  ·subst g
   have:=hND _ e (by omega) hN
   unfold addK
   rw [if_pos rfl]
   exact this
  ·have:=hND _ e (by omega) (h1.nds e (by omega))
   unfold addK
   rw [if_neg g]
   exact this
 ·have:=hlt2 x hx
  simpa using this
theorem wnew_err (v:Value) (c:Nat) (hv:IsSl w v zs) (hE:Held9 w A) (he:errW zs=c+1) :
  Calls Tryz.prog 98 #[v] w fun e w'=>e=.returned (.tuple #[.pointer none,.iface 318 (.pointer (some (A c)))])∧w'=w:=by
 have HC:Hid (Calls Tryz.prog 153 #[v] w fun e w'=>e=.returned (.iface 318 (.pointer (some (A c))))∧w'=w):=by
  have:=check_any A v zs w hv hE.to3
  rw [he] at this
  exact this
 obtain ⟨a,cap0,rfl,-,-,-⟩:=hv
 clear hE he
 go_enter Tryz.func98,Tryz.ntmps98
 go_wp2_with fail
 refine HC.out.mono ?_
 rintro e w1 ⟨rfl,hx⟩
 subst w1
 go_wp2_with fail
 go_ret2
 exact ⟨rfl,rfl⟩
theorem wpList_append_node {w:World} {ops:Array Oper} {rest:List Oper} {o:Oper} {a:Act} {Q:Exit→Act→World→Prop} (hgd:o.guard=none) (s x:Operand)
  (ho:o.op=.call { callee:=.builtin .append,args:=#[s,x],argTypes:=#[145,145] })
  (base n:Nat) (v:Value) (ad:Addr) (c:Nat) (xs:List Value) (u:Value) (hu1:u.oneCell'=true) (hs:a.eval s=v) (hx:a.eval x=.slice (some ad) 1 c) (hown:w.ownsRow base 138 1 v n xs) (hu:w.cell? (ad.add 0)=some u) (hn:n≤1000000) (hb:base≤w.heap.size)
  (h:∀ ad' cap' w',w'.ownsRow base 138 1 (.slice ad' (n+1) cap') (n+1) (xs ++ [u])→w.grownBy w' v.ownBlock→((Value.slice ad' (n+1) cap').ownBlock=v.ownBlock ∨ (Value.slice ad' (n+1) cap').ownBlock=some w.heap.size)→wpList Tryz.prog ops Q rest (a.put o.dst (.slice ad' (n+1) cap')) w') :
  wpList Tryz.prog ops Q (o :: rest) a w:=by
 obtain ⟨i0,hi0,hz0,hz1,hz2⟩:=info_parts Tryz.infoPN
 refine wpList_append_own_at w hgd s x 145 ho base 138 i0 _ 1 8 Tryz.underlying145 hi0 hz0 hz1 hz2 rfl (by decide) v n xs hs hown ad 1 c [u] hx rfl (fun j y hj=>?_) (fun y hy=>by rw [List.mem_singleton.1 hy]; exact hu1) (by unfold maxLen; omega) (by omega) hb ?_
 ·cases j with
  | zero=>rw [← Option.some.inj hj]; exact hu
  | succ j=>simp at hj
 ·intro v' w' h2 h3 _ h5
  obtain ⟨ad',cap',rfl⟩:∃ ad' cap',v'=.slice ad' (n+1) cap':=by
   rcases h2.2 with ⟨e,h0⟩|⟨g,cap,cur,e,-⟩
   ·omega
   ·exact ⟨_,_,e⟩
  exact h ad' cap' w' h2 h3 h5
theorem wnew_ok (v:Value) (hv:IsSl w v zs) (hE:Held9 w A) (he:errW zs=0) :
  Calls Tryz.prog 98 #[v] w fun e w'=>∃ C X,e=.returned (.tuple #[.pointer (some ⟨X.xb,0,none⟩),.nilIface])∧WD w w' C X zs newX 0:=by
 have hn:=errW_zero he
 have HCk:=hid (check_ok A v zs w hv hE.to3 he)
 have HCl:Hid (Calls Tryz.prog 154 #[v] w fun e w'=>∃ wb wc,e=.returned (.slice (some ⟨wb,0,none⟩) zs.length wc)∧w'.ownsRow w.heap.size 3 1 (.slice (some ⟨wb,0,none⟩) zs.length wc) zs.length (zs.map (Value.int .i64))∧Below w.heap.size w w'):=by
  refine (clone_any v zs w hv hn.1 (by omega)).mono ?_
  rintro e w' ⟨v',he',ho,hb⟩
  obtain ⟨g,cp,rfl,-⟩:=ho.form (by omega)
  exact ⟨g,cp,he',ho,hb⟩
 have HE:=hid hE
 have HZ:=hid he
 obtain ⟨n,hnn⟩:∃ n,Hid (zs.length=n):=⟨_,rfl⟩
 obtain ⟨a,cap0,rfl,hml,-,-⟩:=hv
 have n7:=hn.2.1
 have n1:=hn.1
 have hmm:=@run_makeMap Tryz.prog
 rw [hnn.out] at HCk HCl n7 n1 hml ⊢
 clear hE he hn
 go_enter Tryz.func98,Tryz.ntmps98
 go_wp2_with fail
 refine HCk.out.mono ?_
 rintro e w1 ⟨rfl,hx⟩
 subst w1
 go_wp2_with fail
 refine HCl.out.mono ?_
 rintro e w1 ⟨wb,wc,rfl,ho1,hb1⟩
 have hwb:=(ho1.lt wb rfl)
 obtain ⟨W2,HW2⟩:∃ W2,Hid ((w1.alloc (.map #[] 0)).alloc (.cells #[.slice (some ⟨wb,0,none⟩) n wc,.slice none 0 0,.map (some w1.heap.size),.slice none 0 0,.slice none 0 0] 148)=W2):=⟨_,rfl⟩
 have hW2:=HW2.out
 have HWN:Hid (∃ C,WN w W2 C (w1.heap.size+1) wb wc w1.heap.size (.slice none 0 0) (fun _=>newK 0 0 0 0 0 0) zs 0):=by
  have hb2:Below w1.heap.size w1 W2:=by rw [← HW2.out]; exact ((Below.refl _ _).alloc (Nat.le_refl _) _).alloc (by simp) _
  have hsz:W2.heap.size=w1.heap.size+2:=by rw [← HW2.out]; simp
  obtain ⟨C0,hC0⟩:∃ C0,C0=paint (paint (paint (fun _=>5000) (w1.heap.size+1) 1001) wb 1002) w1.heap.size 1004:=⟨_,rfl⟩
  have k1:C0 (w1.heap.size+1)=1001:=by rw [hC0,paint_ne (by omega),paint_ne (by omega),paint_at]
  have k2:C0 wb=1002:=by rw [hC0,paint_ne (by omega),paint_at]
  have k3:C0 w1.heap.size=1004:=by rw [hC0,paint_at]
  have hcase:∀ x,C0 x<2000→x=w1.heap.size+1 ∨ x=wb ∨ x=w1.heap.size:=fun x hx=>by
   by_cases a1:x=w1.heap.size
   ·exact .inr (.inr a1)
   ·by_cases a2:x=wb
    ·exact .inr (.inl a2)
    ·by_cases a3:x=w1.heap.size+1
     ·exact .inl a3
     ·rw [hC0,paint_ne a1,paint_ne a2,paint_ne a3] at hx; omega
  refine ⟨C0,⟨hb1.trans (hb2.mono hb1.size),?_,fun i hi=>?_,World.ownsRow_nil _ _ _ _,fun i hi=>absurd hi (Nat.not_lt_zero _),?_,k1,k2,k3,fun g hg=>(by cases hg),fun x hx=>?_,fun x hx=>?_⟩⟩
  ·have hs1:(w1.alloc (.map #[] 0)).heap.size=w1.heap.size+1:=by simp
   rw [← HW2.out,← hs1,hnn.out]
   exact heap_alloc_new _ _
  ·have:=ho1.cellAt i (by rw [← hnn.out]; omega)
   rw [Nat.zero_add]
   refine cell_later hb2 (this.trans ?_)
   rw [List.getElem?_map,List.getElem?_eq_getElem hi,getD_lt zs i hi]
   rfl
  ·rw [← HW2.out]
   exact (World.ownsMap_made w1 _ _ _).alloc _
  ·rcases hcase x hx with g|g|g <;> omega
  ·have:=hb1.size
   rcases hcase x hx with g|g|g <;> omega
 have hxlt:w1.heap.size+1<W2.heap.size:=by rw [← HW2.out]; simp
 clear ho1 hb1 hwb
 go_wp2_with fail
 go_loopw [22] (fun v wr=>∃ k:Nat,k≤n∧v=.int .i64 (k:Int)∧∃ C nv K,WN w wr C (w1.heap.size+1) wb wc w1.heap.size nv K zs k) (fun v _=>n - (intOf v).toNat)
 case atStart =>
  obtain ⟨C,hC⟩:=HWN.out
  exact ⟨0,Nat.zero_le _,rfl,C,_,_,hC⟩
 case round =>
  obtain ⟨k,hk,rfl,C,nv,K,hN⟩:=hrel
  have HN:=hid hN
  obtain ⟨ad,cp,hnv⟩:∃ ad cp,Hid (nv=.slice ad k cp):=by
   rcases hN.ns.2 with ⟨e,h0⟩|⟨g,cap,cur,e,-⟩
   ·exact ⟨none,0,by rw [e,h0]; exact rfl⟩
   ·exact ⟨_,_,e⟩
  clear hN
  by_cases hlt:k<n
  ·go_wp2_with fail
   refine (pnew_ok 512 wr (by decide)).mono ?_
   rintro e w3 ⟨rfl,hp3,hb3,hsz3⟩
   have HN3:=hid (HN.out.later hb3)
   have HP3:=hid hp3
   have HB3:=hid hb3
   have HE3:=hid (HE.out.later HN3.out.bel)
   clear hp3 hb3
   go_wp2_with fail
   refine (snew_ok A (k:Int) _ _ _ (-1) w3 HP3.out HE3.out.toE (by rw [zeroB_size]; decide) (by rw [zeroB_size]; decide) (by decide) (by omega) (by omega)).mono ?_
   rintro e w4 ⟨s',j',mb',rfl,hj,hs4,hb4,hj0,hjm,hms⟩
   have HSP:=hid (sp_new (w0:=w) HN3.out.bel HP3.out (by have:=HN.out.bel.size; omega) (HN.out.bel.size) hj hs4 hb4 hj0 hjm hms (by decide) (by decide) (by rw [zeroB_size]; decide) (by rw [zeroB_size]; decide))
   have HN4:=hid (HN3.out.later hb4)
   have c1:w4.cell? ⟨w1.heap.size+1,1,none⟩=some nv:=by rw [cell_of_row _ _ _ _ _ _ HN4.out.row]; rfl
   rw [hnv.out] at c1
   obtain ⟨W5,HW5⟩:∃ W5,Hid (w4.alloc (.cells #[.pointer (some ⟨s',0,none⟩),.pointer none,.pointer none,.pointer none,.pointer none,.pointer none,.pointer none] 152)=W5):=⟨_,rfl⟩
   obtain ⟨W6,HW6⟩:∃ W6,Hid (W5.alloc (.cells #[.pointer (some ⟨w4.heap.size,0,none⟩)] 138)=W6):=⟨_,rfl⟩
   have hs5:W5.heap.size=w4.heap.size+1:=by rw [← HW5.out]; simp
   have HB5:Hid (Below w4.heap.size w4 W5):=by rw [← HW5.out]; exact (Below.refl _ _).alloc (Nat.le_refl _) _
   have HB6:Hid (Below W5.heap.size W5 W6):=by rw [← HW6.out]; exact (Below.refl _ _).alloc (Nat.le_refl _) _
   have HB46:Hid (Below w4.heap.size w4 W6):=HB5.out.trans (HB6.out.mono HB5.out.size)
   have HRn:Hid (W6.heap[w4.heap.size]? = some (.cells #[.pointer (some ⟨s',0,none⟩),.pointer none,.pointer none,.pointer none,.pointer none,.pointer none,.pointer none] 152 (0,0))):=by
    have h5:W5.heap[w4.heap.size]? = some (.cells #[.pointer (some ⟨s',0,none⟩),.pointer none,.pointer none,.pointer none,.pointer none,.pointer none,.pointer none] 152 (0,0)):=by rw [← HW5.out]; exact heap_alloc_new w4 _
    exact (HB6.out.block _ (row_ltJ h5)).trans h5
   have HLt:Hid (W6.cell? ((⟨w4.heap.size+1,0,none⟩:Addr).add 0)=some (.pointer (some ⟨w4.heap.size,0,none⟩))):=by
    rw [addr_add,← hs5,← HW6.out,cell_of_row _ _ _ _ _ _ (heap_alloc_new W5 _)]
    rfl
   have HOw:Hid (W6.ownsRow w.heap.size 138 1 (.slice ad k cp) k (ptrsTo K k)):=by have:=(HN4.out.later HB46.out).ns; rw [hnv.out] at this; exact this
   have HX:Hid (∀ w',W6.grownBy w' (Value.slice ad k cp).ownBlock→w'.cell? ⟨w1.heap.size+1,1,none⟩=some (.slice ad k cp)∧w'.frozen? ⟨w1.heap.size+1,1,none⟩=false):=by
    intro w' hg
    have hr:=(grown_kept hg).row (HN4.out.later HB46.out).row (fun e=>by rw [← hnv.out] at e; have h1:=HN4.out.cn _ e; have h2:=HN4.out.cx; omega)
    exact ⟨by rw [cell_of_row _ _ _ _ _ _ hr,← hnv.out]; rfl,frozen_of_row _ _ _ _ _ hr⟩
   have hb06:w.heap.size≤W6.heap.size:=(HN4.out.later HB46.out).bel.size
   have HBr:Hid (Below wr.heap.size wr W6):=HB3.out.trans ((hb4.trans (HB46.out.mono hb4.size)).mono HB3.out.size)
   have HSP6:=hid (HSP.out.later HB46.out)
   have hsl:=HSP.out.lts
   have hW5:=HW5.out
   have hW6:=HW6.out
   clear hj hs4 hb4
   go_wp2_with (at_builtin; refine wpList_append_node rfl _ _ rfl w.heap.size k (.slice ad k cp) ⟨w4.heap.size+1,0,none⟩ 1 (ptrsTo K k) (.pointer (some ⟨w4.heap.size,0,none⟩)) rfl rfl rfl HOw.out HLt.out (by omega) hb06 ?_; intro ad' cap' w' hown hg ho; obtain ⟨c1',z1'⟩:=HX.out w' hg; have HS:=hid (And.intro hown (And.intro hg ho)); clear hown hg ho)
   go_roundw
   case rel =>
    rw [← hnv.out] at HS
    obtain ⟨C',hC'⟩:=HN.out.add (by omega) HBr.out HRn.out HSP6.out (by omega) (by omega) (by omega) hjm hms hsl.1 HS.out.1 HS.out.2.1 HS.out.2.2
    exact ⟨k+1,by omega,by go_num,C',_,_,hC'⟩
   case measure=>simp [intOf]; omega
  ·obtain rfl:k=n:=by omega
   go_wp2_with fail
   go_ret2
   have hN:=HN.out
   rw [← hnn.out] at hN
   obtain ⟨nb,nc,-,hWD⟩:=hN.done HZ.out
   exact ⟨C,_,rfl,hWD⟩
end
end Go.Proofs.YtaehdgemkafinaaGreatDoor
