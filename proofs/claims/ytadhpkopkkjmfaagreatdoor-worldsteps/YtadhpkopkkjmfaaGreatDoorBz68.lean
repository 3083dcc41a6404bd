/-
  On the way to WStepsProof: X6 X6B X6C.
-/
import Derived.Test.YtadhpkopkkjmfaaGreatDoorBz64
import Derived.Test.YtadhpkopkkjmfaaGreatDoorBz55
set_option maxHeartbeats 8000000
set_option maxRecDepth 100000
namespace Go.Proofs.YtadhpkopkkjmfaaGreatDoor
open Go.RowKit
structure Dis9 (nd t mm gn gs gb r ls dn:Nat):Prop where
 d01:t≠nd
 d02:mm≠nd
 d12:mm≠t
 d03:gn≠nd
 d13:gn≠t
 d23:gn≠mm
 d04:gs≠nd
 d14:gs≠t
 d24:gs≠mm
 d34:gs≠gn
 d05:gb≠nd
 d15:gb≠t
 d25:gb≠mm
 d35:gb≠gn
 d45:gb≠gs
 d06:r≠nd
 d16:r≠t
 d26:r≠mm
 d36:r≠gn
 d46:r≠gs
 d56:r≠gb
 d07:ls≠nd
 d17:ls≠t
 d27:ls≠mm
 d37:ls≠gn
 d47:ls≠gs
 d57:ls≠gb
 d67:ls≠r
 d08:dn≠nd
 d18:dn≠t
 d28:dn≠mm
 d38:dn≠gn
 d48:dn≠gs
 d58:dn≠gb
 d68:dn≠r
 d78:dn≠ls
def col9 (C:Nat→Nat) (k nd t mm gn gs gb r ls dn:Nat):Nat→Nat:=fun x=>if x=nd then 100 * k+1 else if x=t then 100 * k+2 else if x=mm then 100 * k+3 else if x=gn then 100 * k+4 else if x=gs then 100 * k+5 else if x=gb then 100 * k+6 else if x=r then 100 * k+7 else if x=ls then 100 * k+8 else if x=dn then 100 * k+9 else C x
section
variable {C:Nat→Nat} {k nd t mm gn gs gb r ls dn:Nat}
theorem col9_0 (_h:Dis9 nd t mm gn gs gb r ls dn):col9 C k nd t mm gn gs gb r ls dn nd=100 * k+1:=by
 unfold col9
 rw [if_pos rfl]
theorem col9_1 (h:Dis9 nd t mm gn gs gb r ls dn):col9 C k nd t mm gn gs gb r ls dn t=100 * k+2:=by
 unfold col9
 rw [if_neg h.d01,if_pos rfl]
theorem col9_2 (h:Dis9 nd t mm gn gs gb r ls dn):col9 C k nd t mm gn gs gb r ls dn mm=100 * k+3:=by
 unfold col9
 rw [if_neg h.d02,if_neg h.d12,if_pos rfl]
theorem col9_3 (h:Dis9 nd t mm gn gs gb r ls dn):col9 C k nd t mm gn gs gb r ls dn gn=100 * k+4:=by
 unfold col9
 rw [if_neg h.d03,if_neg h.d13,if_neg h.d23,if_pos rfl]
theorem col9_4 (h:Dis9 nd t mm gn gs gb r ls dn):col9 C k nd t mm gn gs gb r ls dn gs=100 * k+5:=by
 unfold col9
 rw [if_neg h.d04,if_neg h.d14,if_neg h.d24,if_neg h.d34,if_pos rfl]
theorem col9_5 (h:Dis9 nd t mm gn gs gb r ls dn):col9 C k nd t mm gn gs gb r ls dn gb=100 * k+6:=by
 unfold col9
 rw [if_neg h.d05,if_neg h.d15,if_neg h.d25,if_neg h.d35,if_neg h.d45,if_pos rfl]
theorem col9_6 (h:Dis9 nd t mm gn gs gb r ls dn):col9 C k nd t mm gn gs gb r ls dn r=100 * k+7:=by
 unfold col9
 rw [if_neg h.d06,if_neg h.d16,if_neg h.d26,if_neg h.d36,if_neg h.d46,if_neg h.d56,if_pos rfl]
theorem col9_7 (h:Dis9 nd t mm gn gs gb r ls dn):col9 C k nd t mm gn gs gb r ls dn ls=100 * k+8:=by
 unfold col9
 rw [if_neg h.d07,if_neg h.d17,if_neg h.d27,if_neg h.d37,if_neg h.d47,if_neg h.d57,if_neg h.d67,if_pos rfl]
theorem col9_8 (h:Dis9 nd t mm gn gs gb r ls dn):col9 C k nd t mm gn gs gb r ls dn dn=100 * k+9:=by
 unfold col9
 rw [if_neg h.d08,if_neg h.d18,if_neg h.d28,if_neg h.d38,if_neg h.d48,if_neg h.d58,if_neg h.d68,if_neg h.d78,if_pos rfl]
theorem col9_old {x b:Nat} (h:b≤nd∧b≤t∧b≤mm∧b≤gn∧b≤gs∧b≤gb∧b≤r∧b≤ls∧b≤dn) (hx:x<b):col9 C k nd t mm gn gs gb r ls dn x=C x:=by
 unfold col9
 rw [if_neg (by omega),if_neg (by omega),if_neg (by omega),if_neg (by omega),if_neg (by omega),if_neg (by omega),if_neg (by omega),if_neg (by omega),if_neg (by omega)]
theorem col9_in {x:Nat} (h:col9 C k nd t mm gn gs gb r ls dn x<2000):C x<2000 ∨ x=nd ∨ x=t ∨ x=mm ∨ x=gn ∨ x=gs ∨ x=gb ∨ x=r ∨ x=ls ∨ x=dn:=by
 unfold col9 at h
 by_cases e0:x=nd
 ·omega
 ·rw [if_neg e0] at h
  by_cases e1:x=t
  ·omega
  ·rw [if_neg e1] at h
   by_cases e2:x=mm
   ·omega
   ·rw [if_neg e2] at h
    by_cases e3:x=gn
    ·omega
    ·rw [if_neg e3] at h
     by_cases e4:x=gs
     ·omega
     ·rw [if_neg e4] at h
      by_cases e5:x=gb
      ·omega
      ·rw [if_neg e5] at h
       by_cases e6:x=r
       ·omega
       ·rw [if_neg e6] at h
        by_cases e7:x=ls
        ·omega
        ·rw [if_neg e7] at h
         by_cases e8:x=dn
         ·omega
         ·rw [if_neg e8] at h
          exact .inl h
end
def rptrs (K:Nat→RB) (k:Nat):List Value:=(List.range k).map fun i=>.pointer (some ⟨(K i).nd,0,none⟩)
theorem rptrs_succ (K:Nat→RB) (k:Nat):rptrs K (k+1)=rptrs K k ++ [.pointer (some ⟨(K k).nd,0,none⟩)]:=by simp [rptrs,List.range_succ]
theorem rptrs_same {K L:Nat→RB} {k:Nat} (h:∀ i,i<k→(K i).nd=(L i).nd):rptrs K k=rptrs L k:=by
 unfold rptrs
 refine List.map_congr_left fun i hi=>?_
 rw [h i (List.mem_range.1 hi)]
theorem Tryz.infoPRN:(Tryz.prog.info? 152).map (fun i=>(i.zero,i.size,i.bytes))=some (some (.pointer none),1,8):=by kernel_rfl
structure RWN (w0 w:World) (C:Nat→Nat) (xb:Nat) (nv:Value) (K:Nat→RB) (aw:Option Addr) (cap:Nat) (zs:List Int) (k:Nat):Prop where
 bel:Below w0.heap.size w0 w
 row:w.heap[xb]? = some (.cells #[.slice aw zs.length cap,nv,.slice none 0 0,.slice none 0 0,.slice none 0 0] 147 (0,0))
 ns:w.ownsRow w0.heap.size 152 1 nv k (rptrs K k)
 nds:∀ i,i<k→RN w C (K i) i zs.length cap aw (newN 512)
 cx:C xb=1001
 cn:∀ g,nv.ownBlock=some g→C g=1003
 lt:∀ x,C x<2000→x<w.heap.size
 low:∀ x,C x<2000→w0.heap.size≤x
structure RNew (w:World) (k nd t mm gn gs gb r ls dn:Nat):Prop where
 row:w.heap[nd]? = some (.cells #[.pointer (some ⟨t,0,none⟩),.pointer (some ⟨r,0,none⟩),.slice (some ⟨ls,0,none⟩) 6 6,.slice (some ⟨dn,0,none⟩) 6 6] 157 (0,0))
 rp:RP w r (zeroB 512) false 0 false
 rj:RJ w mm gn gs r (dealL (zeroB 512).data.toList) false
 rs:RSt w t mm gb (k:Int) (fun _=>false)
 lr:w.heap[ls]? = some (.cells #[.pointer none,.pointer none,.pointer none,.pointer none,.pointer none,.pointer none] 188 (0,0))
 dr:VR w dn (fun _=>false)
def newRK (nd t mm gn gs gb r ls dn:Nat):RB:=⟨nd,t,mm,gn,gs,gb,r,ls,dn,fun _=>0,fun _=>.slice none 0 0⟩
def addRK (K:Nat→RB) (k:Nat) (x:RB):Nat→RB:=fun e=>if e=k then x else K e
section
variable {w0 w W4 w5:World} {C C':Nat→Nat} {xb k cap:Nat} {aw:Option Addr} {nv nv':Value} {K:Nat→RB} {zs:List Int} {nd t mm gn gs gb r ls dn:Nat}
theorem newN_fin (d:Nat) (hd:d<6):finB (stN (newN 512) d).ph=false:=by
 show finB (dealL (zeroB 512).data.toList d).2.ph=false
 rw [deal_zero 512 d (by omega)]
 rfl
theorem RNew.rn (h:RNew w k nd t mm gn gs gb r ls dn) (c:Dis9 nd t mm gn gs gb r ls dn) (n:Nat):RN w (col9 C k nd t mm gn gs gb r ls dn) (newRK nd t mm gn gs gb r ls dn) k n cap aw (newN 512):=by
 have hz:(zeroB 512).size=512:=zeroB_size 512
 have h7:∀ x,x=r→True:=fun _ _=>trivial
 refine ⟨h.row,⟨false,0,false,h.rp,.inr (.inl ⟨rfl,rfl,rfl⟩)⟩,fun _=>⟨⟨h.rj,⟨false,0,false,h.rp,.inr (.inl ⟨rfl,rfl,rfl⟩)⟩,c.d26,c.d36,c.d46,by show (zeroB 512).size≤1000; omega,by show 216≤(zeroB 512).size; omega⟩,h.rs⟩,h.lr,?_,fun d hd x hx=>(by cases hx),col9_0 c,col9_6 c,col9_7 c,col9_8 c,fun _=>⟨col9_1 c,col9_2 c,col9_3 c,col9_4 c,col9_5 c⟩,fun d hd x hx=>(by cases hx)⟩
 have:=h.dr
 unfold VR at this ⊢
 show w.heap[dn]? = _
 rw [this]
 simp only [newN_fin 0 (by omega),newN_fin 1 (by omega),newN_fin 2 (by omega),newN_fin 3 (by omega),newN_fin 4 (by omega),newN_fin 5 (by omega)]
theorem RWN.add (h:RWN w0 w C xb nv K aw cap zs k) (hk:k<7) (hb:Below w.heap.size w W4) (hn:RNew W4 k nd t mm gn gs gb r ls dn) (c:Dis9 nd t mm gn gs gb r ls dn) (hlo:w.heap.size≤nd∧w.heap.size≤t∧w.heap.size≤mm∧w.heap.size≤gn∧w.heap.size≤gs∧w.heap.size≤gb∧w.heap.size≤r∧w.heap.size≤ls∧w.heap.size≤dn) (hhi:nd<W4.heap.size∧t<W4.heap.size∧mm<W4.heap.size∧gn<W4.heap.size∧gs<W4.heap.size∧gb<W4.heap.size∧r<W4.heap.size∧ls<W4.heap.size∧dn<W4.heap.size)
  (hown:w5.ownsRow w0.heap.size 152 1 nv' (k+1) (rptrs K k ++ [.pointer (some ⟨nd,0,none⟩)])) (hg:W4.grownBy w5 nv.ownBlock) (ho:nv'.ownBlock=nv.ownBlock ∨ nv'.ownBlock=some W4.heap.size) :
  ∃ C' K',RWN w0 (w5.setCell ⟨xb,1,none⟩ nv') C' xb nv' K' aw cap zs (k+1):=by
 have hw0:=h.bel.size
 have hbs:=hb.size
 have hold:∀ x,x<w.heap.size→col9 C k nd t mm gn gs gb r ls dn x=C x:=fun x hx=>col9_old hlo hx
 have hcase:∀ x,col9 C k nd t mm gn gs gb r ls dn x<2000→(x<w.heap.size∧C x<2000) ∨ (w.heap.size≤x∧x<W4.heap.size):=fun x hx=>by
  rcases col9_in hx with q|q|q|q|q|q|q|q|q|q
  ·exact .inl ⟨h.lt x q,q⟩
  all_goals (right; omega)
 have hlt1:∀ x,col9 C k nd t mm gn gs gb r ls dn x<2000→x<W4.heap.size:=fun x hx=>by rcases hcase x hx with q|q <;> omega
 have hlow1:∀ x,col9 C k nd t mm gn gs gb r ls dn x<2000→w0.heap.size≤x:=fun x hx=>by
  rcases hcase x hx with q|q
  ·exact h.low x q.2
  ·omega
 have hkk:=grown_kept hg
 have cx0:=h.cx
 have cx1:col9 C k nd t mm gn gs gb r ls dn xb=1001:=(hold xb (h.lt xb (by omega))).trans cx0
 have cn1:∀ g,nv.ownBlock=some g→col9 C k nd t mm gn gs gb r ls dn g=1003:=fun g hgg=>by
  have:=h.cn g hgg
  exact (hold g (h.lt g (by omega))).trans this
 obtain ⟨C2,hC2,hlt2,hlow2,hcn2⟩:∃ C2:Nat→Nat,(∀ x,x<W4.heap.size→C2 x=col9 C k nd t mm gn gs gb r ls dn x)∧(∀ x,C2 x<2000→x<w5.heap.size)∧(∀ x,C2 x<2000→w0.heap.size≤x)∧∀ g,nv'.ownBlock=some g→C2 g=1003:=by
  rcases ho with o|o
  ·exact ⟨col9 C k nd t mm gn gs gb r ls dn,fun _ _=>rfl,fun x hx=>Nat.lt_of_lt_of_le (hlt1 x hx) hg.size,hlow1,fun g hgg=>cn1 g (by rw [← o]; exact hgg)⟩
  ·have hsz:W4.heap.size<w5.heap.size:=own_lt hown o
   refine ⟨paint (col9 C k nd t mm gn gs gb r ls dn) W4.heap.size 1003,fun x hx=>paint_ne (by omega),fun x hx=>?_,fun x hx=>?_,fun g hgg=>?_⟩
   ·by_cases e:x=W4.heap.size
    ·rw [e]; exact hsz
    ·rw [paint_ne e] at hx; exact Nat.lt_of_lt_of_le (hlt1 x hx) hg.size
   ·by_cases e:x=W4.heap.size
    ·rw [e]; omega
    ·rw [paint_ne e] at hx; exact hlow1 x hx
   ·rw [o] at hgg
    obtain rfl:=Option.some.inj hgg
    exact paint_at _ _ _
 have hK:Kept (fun x=>nv.ownBlock=some x ∨ x=xb) W4 (w5.setCell ⟨xb,1,none⟩ nv'):=(hkk.mono (fun x hx=>.inl hx)).setCell (.inr rfl) _
 have hS:∀ x,(nv.ownBlock=some x ∨ x=xb)→col9 C k nd t mm gn gs gb r ls dn x=1003 ∨ col9 C k nd t mm gn gs gb r ls dn x=1001:=fun x hx=>by
  rcases hx with hx|rfl
  ·exact .inl (cn1 x hx)
  ·exact .inr cx1
 have hlow:∀ x,(nv.ownBlock=some x ∨ x=xb)→w0.heap.size≤x:=fun x hx=>hlow1 x (by rcases hS x hx with g|g <;> omega)
 have hRN:∀ (x:RB) (e:Nat),e≤9→RN W4 (col9 C k nd t mm gn gs gb r ls dn) x e zs.length cap aw (newN 512)→RN (w5.setCell ⟨xb,1,none⟩ nv') C2 x e zs.length cap aw (newN 512):=fun x e he hx=>by
  have:=hx.col (C':=C2) hC2
  refine this.kept (S:=fun y=>(nv.ownBlock=some y ∨ y=xb)∧y<W4.heap.size) ⟨hK.os,hK.tape,hK.output,hK.size,fun y hy hn=>hK.block y hy (fun q=>hn ⟨q,hy⟩)⟩ (fun y hy hq=>?_)
  rcases hS y hq.1 with g|g <;> (rw [hC2 y hq.2] at hy; omega)
 refine ⟨C2,addRK K k (newRK nd t mm gn gs gb r ls dn),⟨hK.below (Nat.le_trans hw0 hbs) hlow (h.bel.trans (hb.mono hw0)),?_,?_,fun e he=>?_,?_,hcn2,fun x hx=>?_,hlow2⟩⟩
 ·have hr4:W4.heap[xb]? = _:=(hb.block _ (row_ltJ h.row)).trans h.row
  have hr5:=hkk.row hr4 (fun e=>by have:=cn1 _ e; omega)
  rw [heap_setCell_same w5 xb 1 _ _ _ hr5]; rfl
 ·have e1:rptrs (addRK K k (newRK nd t mm gn gs gb r ls dn)) (k+1)=rptrs K k ++ [.pointer (some ⟨nd,0,none⟩)]:=by
   rw [rptrs_succ,rptrs_same (L:=K) (fun i hi=>by unfold addRK; rw [if_neg (by omega)])]
   unfold addRK newRK
   rw [if_pos rfl]
  rw [e1]
  refine own_kept hown ((Kept.refl (In1 xb) w5).set1 1 nv') (fun y hy e=>?_)
  have h3:=hcn2 y hy
  rw [show y=xb from e,hC2 _ (hlt1 xb (by omega))] at h3
  omega
 ·by_cases g:e=k
  ·subst g
   have:=hRN _ e (by omega) (hn.rn (C:=C) (aw:=aw) (cap:=cap) c zs.length)
   unfold addRK
   rw [if_pos rfl]
   exact this
  ·have:=hRN _ e (by omega) (((h.nds e (by omega)).col (C':=col9 C k nd t mm gn gs gb r ls dn) hold).later hb)
   unfold addRK
   rw [if_neg g]
   exact this
 ·exact (hC2 _ (hlt1 xb (by omega))).trans cx1
 ·have:=hlt2 x hx
  simpa using this
theorem RWN.done (h:RWN w0 w C xb nv K aw cap zs zs.length) (he:errW zs=0) (hs:IsSl w0 (.slice aw zs.length cap) zs):∃ Y,Y.xb=xb∧RW w0 w C Y aw cap zs newX 0:=by
 have n1:=(errW_zero he).1
 rcases h.ns.2 with ⟨-,h0⟩|⟨g,cp,cur,e,h2,h3,h4,h5,h6,h7⟩
 ·omega
 ·subst e
  refine ⟨⟨xb,g,cp,.slice none 0 0,.slice none 0 0,.slice none 0 0,K⟩,rfl,⟨h.bel,h.row,hs,fun i hi=>?_,h.nds,⟨[],World.ownsRow_nil _ _ _ _,⟨fun a b _ _ _=>?_,fun x hx=>(by cases hx)⟩,Nat.zero_le _⟩,World.ownsRow_nil _ _ _ _,World.ownsRow_nil _ _ _ _,h.cx,h.cn g rfl,fun y hy=>(by cases hy),fun y hy=>(by cases hy),fun y hy=>(by cases hy),h.lt,h.low,⟨he,fun i _=>newN_ni _,fun f hf=>(by cases hf),Nat.zero_le _,Nat.zero_le _⟩⟩⟩
  ·have:=h.ns.cellAt i (by omega)
   rw [this]
   unfold rptrs
   rw [List.getElem?_map,List.getElem?_range hi]
   rfl
  ·constructor
   ·intro q
    have:brX newX a b=false:=rfl
    rw [this] at q; cases q
   ·rintro (q|q) <;> cases q
end
theorem conv_z {w:World} {q n:Nat} (h:w.heap[q]? = some (.cells (cellsB (zeroB n)) 5 (0,0))):(convert 149 9 (.slice (some ⟨q,0,none⟩) n n)).run Tryz.prog w=.ok (.string (zeroB n)) w:=by
 have:=run_convert_bytes_back (P:=Tryz.prog) w 149 9 5 ⟨q,0,none⟩ n (zeroB n).data.toList Tryz.underlying149 Tryz.underlying5 Tryz.underlying9 (fun j hj=>by
  rw [Addr.add_lit,cell_of_row _ q (0+j) _ _ _ h,Nat.zero_add,cellsB_at hj,getB hj])
 rw [← size_list,zeroB_size] at this
 rw [this]
theorem row_alloc {X:World} {b:Nat} {o o':Obj} (h:X.heap[b]? = some o):(X.alloc o').heap[b]? = some o:=(Below.heap_alloc _ _ _ (row_ltJ h)).trans h
theorem row_below {X Y:World} {b:Nat} {o:Obj} (hb:Below X.heap.size X Y) (h:X.heap[b]? = some o):Y.heap[b]? = some o:=(hb.block b (row_ltJ h)).trans h
theorem RJ.at {w w':World} {m gn gs r:Nat} {E:Nat→Nat×St} {d:Bool} (h:RJ w m gn gs r E d) (hb:Below w.heap.size w w'):RJ w' m gn gs r E d:=h.kept (S:=fun _=>False) (Kept.of_below hb) (fun x=>x) (fun x=>x) (fun x=>x)
theorem RWN.fin {w wr W W3:World} {C:Nat→Nat} {aw:Option Addr} {cap k:Nat} {nv:Value} {K:Nat→RB} {zs:List Int} (HN:Hid (RWN w wr C w.heap.size nv K aw cap zs k)) (hk:k<7) (HB:Hid (Below wr.heap.size wr W)) (HRP:Hid (RP W W3.heap.size (zeroB 512) false 0 false)) (HS3:Hid (W3.heap.size=wr.heap.size+1∧W.heap.size=wr.heap.size+2)) :
  ∀ (X4 w1 w5:World) (t mm gn gs gb ls dn nd g5 c5:Nat),Below W.heap.size W w1→Below w1.heap.size w1 X4→RJ w1 mm gn gs W3.heap.size (dealL (zeroB 512).data.toList) false→RSt w1 t mm gb (k:Int) (fun _=>false)→(W.heap.size≤t∧W.heap.size≤mm∧W.heap.size≤gn∧W.heap.size≤gs∧W.heap.size≤gb)→(t≠mm∧t≠gn∧t≠gs∧t≠gb)→(gb≠mm∧gb≠gn∧gb≠gs)→(ls≠t∧ls≠mm∧ls≠gn∧ls≠gs∧ls≠gb)→(dn≠t∧dn≠mm∧dn≠gn∧dn≠gs∧dn≠gb)→(W.heap.size≤ls∧W.heap.size≤dn∧ls≠dn∧ls<nd∧dn<nd∧w1.heap.size≤nd) →
  X4.heap[nd]? = some (.cells #[.pointer (some ⟨t,0,none⟩),.pointer (some ⟨W3.heap.size,0,none⟩),.slice (some ⟨ls,0,none⟩) 6 6,.slice (some ⟨dn,0,none⟩) 6 6] 157 (0,0))→X4.heap[ls]? = some (.cells #[.pointer none,.pointer none,.pointer none,.pointer none,.pointer none,.pointer none] 188 (0,0))→X4.heap[dn]? = some (.cells #[.bool false,.bool false,.bool false,.bool false,.bool false,.bool false] 4 (0,0)) →
  w5.ownsRow w.heap.size 152 1 (.slice (some ⟨g5,0,none⟩) (k+1) c5) (k+1) (rptrs K k ++ [.pointer (some ⟨nd,0,none⟩)])→X4.grownBy w5 nv.ownBlock→(nv.ownBlock=some g5 ∨ g5=X4.heap.size) →
  ∃ C' K',RWN w (w5.setCell ⟨w.heap.size,1,none⟩ (.slice (some ⟨g5,0,none⟩) (k+1) c5)) C' w.heap.size (.slice (some ⟨g5,0,none⟩) (k+1) c5) K' aw cap zs (k+1):=by
 intro X4 w1 w5 t mm gn gs gb ls dn nd g5 c5 hbW hb4 hrj hrs lo ht hg hl hd hx r1 r2 r3 hown hgr hat
 obtain ⟨s1,s2⟩:=HS3.out
 obtain ⟨j1,j2,j3⟩:=hrj.lts
 have j4:=row_ltJ hrs.row
 have j5:=row_ltJ hrs.refs
 have z1:=hbW.size
 have z2:=hb4.size
 have y1:=row_ltJ r1; have y2:=row_ltJ r2; have y3:=row_ltJ r3
 have m1:=hrj.mn; have m2:=hrj.ms; have m3:=hrj.ns
 have hRN:RNew X4 k nd t mm gn gs gb W3.heap.size ls dn:=⟨r1,HRP.out.kept (S:=fun _=>False) (Kept.of_below (hbW.trans (hb4.mono hbW.size))) (fun x=>x),hrj.at hb4,hrs.later hb4,r2,r3⟩
 have hD:Dis9 nd t mm gn gs gb W3.heap.size ls dn:=⟨by omega,by omega,by omega,by omega,by omega,by omega,by omega,by omega,by omega,by omega,by omega,by omega,by omega,by omega,by omega,by omega,by omega,by omega,by omega,by omega,by omega,by omega,by omega,by omega,by omega,by omega,by omega,by omega,by omega,by omega,by omega,by omega,by omega,by omega,by omega,by omega⟩
 exact HN.out.add hk ((HB.out.trans ((hbW.trans (hb4.mono hbW.size)).mono HB.out.size))) hRN hD ⟨by omega,by omega,by omega,by omega,by omega,by omega,by omega,by omega,by omega⟩ ⟨by omega,by omega,by omega,by omega,by omega,by omega,by omega,by omega,by omega⟩ hown hgr (by
  rcases hat with q|q
  ·exact .inl q.symm
  ·exact .inr (by rw [q]; rfl))
abbrev nwOps:Array Oper:=#[{ dst:=some 19,op:=Op.move (Operand.tmp 3),type:=69,pos:= "world.go:231",after:=#[],guard:=none },
 { dst:=some 20,op:=Op.move (Operand.tmp 3),type:=69,pos:= "world.go:231",after:=#[],guard:=none },
 { dst:=some 21,op:=Op.nilCheck (Operand.tmp 20),type:=0,pos:= "world.go:231",after:=#[{ on:=1,ground:=Ground.data }],guard:=none },
 { dst:=some 22,op:=Op.fieldAddr 147 (Operand.tmp 21) 1,type:=0,pos:= "world.go:231",after:=#[{ on:=2,ground:=Ground.data }],guard:=none },
 { dst:=some 23,op:=Op.load 144 (Operand.tmp 22),type:=144,pos:= "world.go:231",after:=#[{ on:=3,ground:=Ground.data }],guard:=none },
 { dst:=some 24,op:=Op.move (Operand.tmp 4),type:=3,pos:= "world.go:231",after:=#[],guard:=none },
 { dst:=some 25,op:=Op.move (Operand.tmp 5),type:=148,pos:= "world.go:231",after:=#[],guard:=none },
 { dst:=some 26,op:=Op.call { callee:=Callee.value (Operand.func 87),args:=#[Operand.tmp 24,Operand.tmp 25],argTypes:=#[3,148] },type:=153,pos:= "world.go:231",after:=#[{ on:=5,ground:=Ground.data },{ on:=6,ground:=Ground.data }],guard:=none },
 { dst:=some 27,op:=Op.move (Operand.tmp 5),type:=148,pos:= "world.go:231",after:=#[],guard:=none },
 { dst:=some 28,op:=Op.makeSlice 155 (Operand.const (Value.int IntKind.i64 6)) (Operand.const (Value.int IntKind.i64 6)),type:=155,pos:= "world.go:231",after:=#[],guard:=none },
 { dst:=some 29,op:=Op.makeSlice 67 (Operand.const (Value.int IntKind.i64 6)) (Operand.const (Value.int IntKind.i64 6)),type:=67,pos:= "world.go:231",after:=#[],guard:=none },
 { dst:=some 30,op:=Op.build 157 #[(0,Operand.tmp 26),(1,Operand.tmp 27),(2,Operand.tmp 28),(3,Operand.tmp 29)],type:=157,pos:= "world.go:231",after:=#[{ on:=7,ground:=Ground.data },{ on:=8,ground:=Ground.data },{ on:=9,ground:=Ground.data },{ on:=10,ground:=Ground.data }],guard:=none },
 { dst:=some 31,op:=Op.box 157 (Operand.tmp 30),type:=152,pos:= "world.go:231",after:=#[{ on:=11,ground:=Ground.data }],guard:=none },
 { dst:=some 32,op:=Op.buildSlice 144 1 #[(0,Operand.tmp 31)],type:=144,pos:= "world.go:231",after:=#[{ on:=12,ground:=Ground.data }],guard:=none },
 { dst:=some 33,op:=Op.call { callee:=Callee.builtin Builtin.append,args:=#[Operand.tmp 23,Operand.tmp 32],argTypes:=#[144,144] },type:=144,pos:= "world.go:231",after:=#[{ on:=4,ground:=Ground.data },{ on:=13,ground:=Ground.data },{ on:=7,ground:=Ground.chain }],guard:=none },
 { dst:=some 34,op:=Op.nilCheck (Operand.tmp 19),type:=0,pos:= "world.go:231",after:=#[{ on:=0,ground:=Ground.data },{ on:=0,ground:=Ground.phase },{ on:=1,ground:=Ground.phase },{ on:=2,ground:=Ground.phase },{ on:=3,ground:=Ground.phase },{ on:=4,ground:=Ground.phase },{ on:=5,ground:=Ground.phase },{ on:=6,ground:=Ground.phase },{ on:=7,ground:=Ground.phase },{ on:=8,ground:=Ground.phase },{ on:=9,ground:=Ground.phase },{ on:=10,ground:=Ground.phase },{ on:=11,ground:=Ground.phase },{ on:=12,ground:=Ground.phase },{ on:=13,ground:=Ground.phase },{ on:=14,ground:=Ground.phase }],guard:=none },
 { dst:=some 35,op:=Op.fieldAddr 147 (Operand.tmp 34) 1,type:=0,pos:= "world.go:231",after:=#[{ on:=15,ground:=Ground.data },{ on:=0,ground:=Ground.phase },{ on:=1,ground:=Ground.phase },{ on:=2,ground:=Ground.phase },{ on:=3,ground:=Ground.phase },{ on:=4,ground:=Ground.phase },{ on:=5,ground:=Ground.phase },{ on:=6,ground:=Ground.phase },{ on:=7,ground:=Ground.phase },{ on:=8,ground:=Ground.phase },{ on:=9,ground:=Ground.phase },{ on:=10,ground:=Ground.phase },{ on:=11,ground:=Ground.phase },{ on:=12,ground:=Ground.phase },{ on:=13,ground:=Ground.phase },{ on:=14,ground:=Ground.phase }],guard:=none },
 { dst:=none,op:=Op.store 144 (Operand.tmp 35) (Operand.tmp 33),type:=0,pos:= "world.go:231",after:=#[{ on:=16,ground:=Ground.data },{ on:=14,ground:=Ground.data },{ on:=14,ground:=Ground.chain },{ on:=0,ground:=Ground.phase },{ on:=1,ground:=Ground.phase },{ on:=2,ground:=Ground.phase },{ on:=3,ground:=Ground.phase },{ on:=4,ground:=Ground.phase },{ on:=5,ground:=Ground.phase },{ on:=6,ground:=Ground.phase },{ on:=7,ground:=Ground.phase },{ on:=8,ground:=Ground.phase },{ on:=9,ground:=Ground.phase },{ on:=10,ground:=Ground.phase },{ on:=11,ground:=Ground.phase },{ on:=12,ground:=Ground.phase },{ on:=13,ground:=Ground.phase },{ on:=14,ground:=Ground.phase }],guard:=none }]
def Sm (a0 a:Act):Prop:=a.tmps.size=a0.tmps.size∧a.defers=a0.defers∧∀ i:Nat,(i<19 ∨ i=36)→a.eval (.tmp i)=a0.eval (.tmp i)
theorem Sm.put {a0 a:Act} {d:Nat} {v:Value} (h:Sm a0 a) (h1:19≤d) (h2:d≤35):Sm a0 (a.put (some d) v) :=
 ⟨(Act.size_put _ _ _).trans h.1,(Act.defers_put' _ _ _).trans h.2.1,fun i hi=>(Act.eval_put_ne a d i v (show d≠i by omega)).trans (h.2.2 i hi)⟩
structure NwI (a0:Act) (W w:World) (a:Act) (nv:Value) (xb k r:Nat) (ld cl lL lD:Bool) (t mm gn gs gb ls dn:Nat):Prop where
 sm:Sm a0 a
 sz:a0.tmps.size=37
 e19:a.eval (.tmp 19)=.pointer (some ⟨xb,0,none⟩)
 e22:a.eval (.tmp 22)=.pointer (some ⟨xb,1,none⟩)
 e24:a.eval (.tmp 24)=.int .i64 (k:Int)
 e25:a.eval (.tmp 25)=.pointer (some ⟨r,0,none⟩)
 e27:a.eval (.tmp 27)=.pointer (some ⟨r,0,none⟩)
 bel:Below W.heap.size W w
 e23:ld=true→a.eval (.tmp 23)=nv
 site:cl=true→a.eval (.tmp 26)=.pointer (some ⟨t,0,none⟩)∧RJ w mm gn gs r (dealL (zeroB 512).data.toList) false∧RSt w t mm gb (k:Int) (fun _=>false)∧(W.heap.size≤t∧W.heap.size≤mm∧W.heap.size≤gn∧W.heap.size≤gs∧W.heap.size≤gb)∧(t≠mm∧t≠gn∧t≠gs∧t≠gb)∧(gb≠mm∧gb≠gn∧gb≠gs)
 leads:lL=true→a.eval (.tmp 28)=.slice (some ⟨ls,0,none⟩) 6 6∧w.heap[ls]? = some (.cells #[.pointer none,.pointer none,.pointer none,.pointer none,.pointer none,.pointer none] 188 (0,0))∧W.heap.size≤ls
 done:lD=true→a.eval (.tmp 29)=.slice (some ⟨dn,0,none⟩) 6 6∧w.heap[dn]? = some (.cells #[.bool false,.bool false,.bool false,.bool false,.bool false,.bool false] 4 (0,0))∧W.heap.size≤dn
 xLD:lL=true→lD=true→ls≠dn
 xLS:lL=true→cl=true→ls≠t∧ls≠mm∧ls≠gn∧ls≠gs∧ls≠gb
 xDS:lD=true→cl=true→dn≠t∧dn≠mm∧dn≠gn∧dn≠gs∧dn≠gb
section
variable {Q:Exit→Act→World→Prop} {a0:Act} {W w:World} {a:Act} {nv:Value} {xb k r:Nat} {ld cl lL lD:Bool} {t mm gn gs gb ls dn:Nat} {K:Act→World→Prop}
theorem NwI.size (h:NwI a0 W w a nv xb k r ld cl lL lD t mm gn gs gb ls dn):a.tmps.size=37:=h.sm.1.trans h.sz
theorem NwI.load (h:NwI a0 W w a nv xb k r ld cl lL lD t mm gn gs gb ls dn):NwI a0 W w (a.put (some 23) nv) nv xb k r true cl lL lD t mm gn gs gb ls dn:=by
 have hz:=h.size
 have ne:∀ j,j≠23→(a.put (some 23) nv).eval (.tmp j)=a.eval (.tmp j):=fun j hj=>Act.eval_put_ne _ _ _ _ (Ne.symm hj)
 exact ⟨h.sm.put (by omega) (by omega),h.sz,(ne _ (by decide)).trans h.e19,(ne _ (by decide)).trans h.e22,(ne _ (by decide)).trans h.e24,(ne _ (by decide)).trans h.e25,(ne _ (by decide)).trans h.e27,h.bel,fun _=>Act.eval_put_same _ _ _ (by omega),fun q=>⟨(ne _ (by decide)).trans (h.site q).1,(h.site q).2⟩,fun q=>⟨(ne _ (by decide)).trans (h.leads q).1,(h.leads q).2⟩,fun q=>⟨(ne _ (by decide)).trans (h.done q).1,(h.done q).2⟩,h.xLD,h.xLS,h.xDS⟩
theorem NwI.lead (h:NwI a0 W w a nv xb k r ld cl false lD t mm gn gs gb ls dn):NwI a0 W (w.alloc (.cells #[.pointer none,.pointer none,.pointer none,.pointer none,.pointer none,.pointer none] 188)) (a.put (some 28) (.slice (some ⟨w.heap.size,0,none⟩) 6 6)) nv xb k r ld cl true lD t mm gn gs gb w.heap.size dn:=by
 have hz:=h.size
 have ne:∀ j,j≠28→(a.put (some 28) (.slice (some ⟨w.heap.size,0,none⟩) 6 6)).eval (.tmp j)=a.eval (.tmp j):=fun j hj=>Act.eval_put_ne _ _ _ _ (Ne.symm hj)
 have hb:Below w.heap.size w (w.alloc (.cells #[.pointer none,.pointer none,.pointer none,.pointer none,.pointer none,.pointer none] 188)):=(Below.refl _ _).alloc (Nat.le_refl _) _
 refine ⟨h.sm.put (by omega) (by omega),h.sz,(ne _ (by decide)).trans h.e19,(ne _ (by decide)).trans h.e22,(ne _ (by decide)).trans h.e24,(ne _ (by decide)).trans h.e25,(ne _ (by decide)).trans h.e27,h.bel.trans (hb.mono h.bel.size),fun q=>(ne _ (by decide)).trans (h.e23 q),fun q=>?_,fun _=>⟨Act.eval_put_same _ _ _ (by omega),heap_alloc_new w _,h.bel.size⟩,fun q=>⟨(ne _ (by decide)).trans (h.done q).1,row_alloc (h.done q).2.1,(h.done q).2.2⟩,fun _ q=>?_,fun _ q=>?_,h.xDS⟩
 ·obtain ⟨s1,s2,s3,s4⟩:=h.site q
  exact ⟨(ne _ (by decide)).trans s1,s2.at hb,s3.later hb,s4⟩
 ·have:=row_ltJ (h.done q).2.1; omega
 ·obtain ⟨s1,s2,s3,s4⟩:=h.site q
  obtain ⟨j1,j2,j3⟩:=s2.lts
  have j4:=row_ltJ s3.row; have j5:=row_ltJ s3.refs
  omega
theorem NwI.dn_ (h:NwI a0 W w a nv xb k r ld cl lL false t mm gn gs gb ls dn):NwI a0 W (w.alloc (.cells #[.bool false,.bool false,.bool false,.bool false,.bool false,.bool false] 4)) (a.put (some 29) (.slice (some ⟨w.heap.size,0,none⟩) 6 6)) nv xb k r ld cl lL true t mm gn gs gb ls w.heap.size:=by
 have hz:=h.size
 have ne:∀ j,j≠29→(a.put (some 29) (.slice (some ⟨w.heap.size,0,none⟩) 6 6)).eval (.tmp j)=a.eval (.tmp j):=fun j hj=>Act.eval_put_ne _ _ _ _ (Ne.symm hj)
 have hb:Below w.heap.size w (w.alloc (.cells #[.bool false,.bool false,.bool false,.bool false,.bool false,.bool false] 4)):=(Below.refl _ _).alloc (Nat.le_refl _) _
 refine ⟨h.sm.put (by omega) (by omega),h.sz,(ne _ (by decide)).trans h.e19,(ne _ (by decide)).trans h.e22,(ne _ (by decide)).trans h.e24,(ne _ (by decide)).trans h.e25,(ne _ (by decide)).trans h.e27,h.bel.trans (hb.mono h.bel.size),fun q=>(ne _ (by decide)).trans (h.e23 q),fun q=>?_,fun q=>⟨(ne _ (by decide)).trans (h.leads q).1,row_alloc (h.leads q).2.1,(h.leads q).2.2⟩,fun _=>⟨Act.eval_put_same _ _ _ (by omega),heap_alloc_new w _,h.bel.size⟩,fun q _=>?_,h.xLS,fun _ q=>?_⟩
 ·obtain ⟨s1,s2,s3,s4⟩:=h.site q
  exact ⟨(ne _ (by decide)).trans s1,s2.at hb,s3.later hb,s4⟩
 ·have:=row_ltJ (h.leads q).2.1; omega
 ·obtain ⟨s1,s2,s3,s4⟩:=h.site q
  obtain ⟨j1,j2,j3⟩:=s2.lts
  have j4:=row_ltJ s3.row; have j5:=row_ltJ s3.refs
  omega
theorem NwI.call {w1:World} {t' m' n' s' b':Nat} (h:NwI a0 W w a nv xb k r ld false lL lD t mm gn gs gb ls dn) (hj:RJ w1 m' n' s' r (dealL (zeroB 512).data.toList) false) (hs:RSt w1 t' m' b' (k:Int) (fun _=>false)) (hb:Below w.heap.size w w1) (q1:w.heap.size≤m') (q2:w.heap.size≤n') (q3:w.heap.size≤s') (q4:w.heap.size≤b') (ht:t'≠m'∧t'≠n'∧t'≠s'∧t'≠b') (q5:w.heap.size≤t') (hg:b'≠m'∧b'≠n'∧b'≠s') :
  NwI a0 W w1 (a.put (some 26) (.pointer (some ⟨t',0,none⟩))) nv xb k r ld true lL lD t' m' n' s' b' ls dn:=by
 have hz:=h.size
 have hW:=h.bel.size
 have ne:∀ j,j≠26→(a.put (some 26) (.pointer (some ⟨t',0,none⟩))).eval (.tmp j)=a.eval (.tmp j):=fun j hj=>Act.eval_put_ne _ _ _ _ (Ne.symm hj)
 refine ⟨h.sm.put (by omega) (by omega),h.sz,(ne _ (by decide)).trans h.e19,(ne _ (by decide)).trans h.e22,(ne _ (by decide)).trans h.e24,(ne _ (by decide)).trans h.e25,(ne _ (by decide)).trans h.e27,h.bel.trans (hb.mono h.bel.size),fun q=>(ne _ (by decide)).trans (h.e23 q),fun _=>⟨Act.eval_put_same _ _ _ (by omega),hj,hs,⟨by omega,by omega,by omega,by omega,by omega⟩,ht,hg⟩,fun q=>⟨(ne _ (by decide)).trans (h.leads q).1,row_below hb (h.leads q).2.1,(h.leads q).2.2⟩,fun q=>⟨(ne _ (by decide)).trans (h.done q).1,row_below hb (h.done q).2.1,(h.done q).2.2⟩,h.xLD,fun q _=>?_,fun q _=>?_⟩
 ·have:=row_ltJ (h.leads q).2.1; omega
 ·have:=row_ltJ (h.done q).2.1; omega
theorem nw_load (h:NwI a0 W w a nv xb k r ld cl lL lD t mm gn gs gb ls dn) (hc:w.cell? ⟨xb,1,none⟩=some nv) (hK:∀ a',NwI a0 W w a' nv xb k r true cl lL lD t mm gn gs gb ls dn→K a' w):wpOp Tryz.prog nwOps Q 4 K a w:=by
 refine wpOp_step (o:={ dst:=some 23,op:=Op.load 144 (Operand.tmp 22),type:=144,pos:= "world.go:231",after:=#[{ on:=3,ground:=Ground.data }],guard:=none }) rfl (fun K' hK'=>?_)
 have e0:=eval_form h.e22
 have HK:=hid (hK' _ _ (hK _ h.load))
 clear hK hK' h
 go_simp
 exact HK.out
theorem nw_lead (h:NwI a0 W w a nv xb k r ld cl false lD t mm gn gs gb ls dn) (hK:∀ a' w' ls',NwI a0 W w' a' nv xb k r ld cl true lD t mm gn gs gb ls' dn→K a' w'):wpOp Tryz.prog nwOps Q 9 K a w:=by
 refine wpOp_step (o:={ dst:=some 28,op:=Op.makeSlice 155 (Operand.const (Value.int IntKind.i64 6)) (Operand.const (Value.int IntKind.i64 6)),type:=155,pos:= "world.go:231",after:=#[],guard:=none }) rfl (fun K' hK'=>?_)
 have hm:=mkRL w
 have HK:=hid (hK' _ _ (hK _ _ _ h.lead))
 clear hK hK' h
 go_simp
 exact HK.out
theorem nw_done (h:NwI a0 W w a nv xb k r ld cl lL false t mm gn gs gb ls dn) (hK:∀ a' w' dn',NwI a0 W w' a' nv xb k r ld cl lL true t mm gn gs gb ls dn'→K a' w'):wpOp Tryz.prog nwOps Q 10 K a w:=by
 refine wpOp_step (o:={ dst:=some 29,op:=Op.makeSlice 67 (Operand.const (Value.int IntKind.i64 6)) (Operand.const (Value.int IntKind.i64 6)),type:=67,pos:= "world.go:231",after:=#[],guard:=none }) rfl (fun K' hK'=>?_)
 have hm:=mkBo w
 have HK:=hid (hK' _ _ (hK _ _ _ h.dn_))
 clear hK hK' h
 go_simp
 exact HK.out
theorem nw_call (h:NwI a0 W w a nv xb k r ld false lL lD t mm gn gs gb ls dn) (hr:RP W r (zeroB 512) false 0 false) (hK:∀ a' w' t' m' n' s' b',NwI a0 W w' a' nv xb k r ld true lL lD t' m' n' s' b' ls dn→K a' w'):wpOp Tryz.prog nwOps Q 7 K a w:=by
 refine wpOp_step (o:={ dst:=some 26,op:=Op.call { callee:=Callee.value (Operand.func 87),args:=#[Operand.tmp 24,Operand.tmp 25],argTypes:=#[3,148] },type:=153,pos:= "world.go:231",after:=#[{ on:=5,ground:=Ground.data },{ on:=6,ground:=Ground.data }],guard:=none }) rfl (fun K' hK'=>?_)
 have e0:=eval_form h.e24
 have e1:=eval_form h.e25
 have HC:=hid (rsnew_rp r (zeroB 512) false false 0 (k:Int) w (hr.kept (S:=fun _=>False) (Kept.of_below h.bel) (fun x=>x)) (by rw [zeroB_size]; omega) (by rw [zeroB_size]; omega))
 have H:=hid h
 have HK:=hid hK
 have HK':=hid hK'
 clear hK hK' h hr
 go_simp
 refine HC.out.mono ?_
 rintro e w1 ⟨t',m',n',s',b',rfl,hj,hs,hb,q1,q2,q3,q4,t1,t2,t3,t4,q5,g1,g2,g3⟩
 exact HK'.out _ _ (HK.out _ _ _ _ _ _ _ (H.out.call hj hs hb q1 q2 q3 q4 ⟨t1,t2,t3,t4⟩ q5 ⟨g1,g2,g3⟩))
end
end Go.Proofs.YtadhpkopkkjmfaaGreatDoor
