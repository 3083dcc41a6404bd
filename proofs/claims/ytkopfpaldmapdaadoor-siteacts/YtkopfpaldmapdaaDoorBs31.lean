/-
  On the way to SActsProof: SH SI SJ.
-/
import Derived.Test.YtkopfpaldmapdaaDoorBs29
import Derived.Test.YtkopfpaldmapdaaDoorBs26
import Derived.Test.YtkopfpaldmapdaaDoorBs30
import Derived.Deep.CutBlock
set_option maxHeartbeats 8000000
set_option maxRecDepth 100000
namespace Go.Proofs.YtkopfpaldmapdaaDoor
open Go.RowKit
theorem RJ.lts {w:World} {m gn gs r:Nat} {E:Nat→Nat×St} {dead:Bool} (h:RJ w m gn gs r E dead):m<w.heap.size∧gn<w.heap.size∧gs<w.heap.size:=by
 obtain ⟨⟨cn,cs,r1⟩,⟨N,n1,_⟩,⟨T,t1,_⟩,_,_,_⟩:=h
 exact ⟨row_ltJ r1,row_ltJ n1,row_ltJ t1⟩
theorem alloc_two (w:World) (o1 o2:Obj):((w.alloc o1).alloc o2).heap[w.heap.size]? = some o1∧((w.alloc o1).alloc o2).heap[w.heap.size+1]? = some o2∧Below w.heap.size w ((w.alloc o1).alloc o2):=by
 have hs:(w.alloc o1).heap.size=w.heap.size+1:=by simp
 refine ⟨?_,?_,((Below.refl _ _).alloc (Nat.le_refl _) _).alloc (by omega) _⟩
 ·rw [Below.heap_alloc _ _ _ (by omega)]; exact heap_alloc_new w _
 ·rw [← hs]; exact heap_alloc_new _ _
theorem rsnew_rp (r:Nat) (B:ByteArray) (off cuts:Bool) (l2 id:Int) (w:World) (h:RP w r B off l2 cuts) (hB:B.size≤1000) (h6:216≤B.size) :
  Calls Tryd.prog 20 #[.int .i64 id,.pointer (some ⟨r,0,none⟩)] w fun e w'=>∃ t m gn gs gb,e=.returned (.pointer (some ⟨t,0,none⟩))∧RJ w' m gn gs r (dealL B.data.toList) false∧RSt w' t m gb id (fun _=>false)∧Below w.heap.size w w'∧w.heap.size≤m∧w.heap.size≤gn∧w.heap.size≤gs∧w.heap.size≤gb ∧
   t≠m∧t≠gn∧t≠gs∧t≠gb∧w.heap.size≤t∧gb≠m∧gb≠gn∧gb≠gs:=by
 have H:=hid h
 clear h
 have hmb:=mkBo
 obtain ⟨V,HV⟩:∃ V,Hid (w.alloc (.cells #[.bool false,.bool false,.bool false,.bool false,.bool false,.bool false] 4)=V):=⟨_,rfl⟩
 have HBV:Hid (Below w.heap.size w V):=by rw [← HV.out]; exact (Below.refl _ _).alloc (Nat.le_refl _) _
 have HRV:Hid (V.heap[w.heap.size]? = some (.cells #[.bool false,.bool false,.bool false,.bool false,.bool false,.bool false] 4 (0,0))):=by rw [← HV.out]; exact heap_alloc_new w _
 have HVP:=hid (H.out.kept (S:=fun _=>False) (Kept.of_below HBV.out) (fun x=>x))
 have hV:=HV.out
 go_enter Tryd.func20,Tryd.ntmps20
 go_wp2_with fail
 go_region_held3 (fun _=>True) (trivial) (first|(go_at_call 46; (with_reducible refine (ropen_any r B off cuts l2 _ H.out.drew hB h6).mono ?_); rintro e w1 ⟨m,gn,gs,rfl,hrj,hb,b1,b2,b3⟩)|(go_at_call 46; (with_reducible refine (ropen_any r B off cuts l2 _ HVP.out.drew hB h6).mono ?_); rintro e w1 ⟨m,gn,gs,rfl,hrj,hb,b1,b2,b3⟩))
 all_goals go_wp2_with fail
 all_goals go_ret
 ·obtain ⟨q1,q2,q3⟩:=alloc_two w1 (.cells #[.bool false,.bool false,.bool false,.bool false,.bool false,.bool false] 4) (.cells #[.int .i64 id,.pointer (some ⟨m,0,none⟩),.slice (some ⟨w1.heap.size,0,none⟩) 6 6] 59)
  obtain ⟨e1,e2,e3⟩:=hrj.lts
  have hz:w.heap.size≤w1.heap.size:=hb.size
  have b1':w.heap.size≤m:=b1
  have b2':w.heap.size≤gn:=b2
  have b3':w.heap.size≤gs:=b3
  exact ⟨w1.heap.size+1,m,gn,gs,w1.heap.size,rfl,hrj.kept (S:=fun _=>False) (Kept.of_below q3) (fun x=>x) (fun x=>x) (fun x=>x),⟨q2,q1⟩,((Below.refl w.heap.size w).drew.trans hb).trans (q3.mono hz),b1',b2',b3',hz,by omega,by omega,by omega,by omega,by omega,by omega,by omega,by omega⟩
 ·obtain ⟨e1,e2,e3⟩:=hrj.lts
  have hz0:V.heap.size≤w1.heap.size:=hb.size
  have hz1:=row_ltJ HRV.out
  have hz2:=HBV.out.size
  have b1':V.heap.size≤m:=b1
  have b2':V.heap.size≤gn:=b2
  have b3':V.heap.size≤gs:=b3
  have q3:=(Below.refl w1.heap.size w1).alloc (Nat.le_refl _) (.cells #[.int .i64 id,.pointer (some ⟨m,0,none⟩),.slice (some ⟨w.heap.size,0,none⟩) 6 6] 59)
  have q1:w1.heap[w.heap.size]? = some (.cells #[.bool false,.bool false,.bool false,.bool false,.bool false,.bool false] 4 (0,0)):=(hb.block _ hz1).trans HRV.out
  have hbw:Below w.heap.size w w1:=HBV.out.drew.trans (hb.mono hz2)
  exact ⟨w1.heap.size,m,gn,gs,w.heap.size,rfl,hrj.kept (S:=fun _=>False) (Kept.of_below q3) (fun x=>x) (fun x=>x) (fun x=>x),⟨heap_alloc_new w1 _,(q3.block _ (by omega)).trans q1⟩,hbw.trans (q3.mono hbw.size),by omega,by omega,by omega,Nat.le_refl _,by omega,by omega,by omega,by omega,by omega,by omega,by omega,by omega⟩
theorem RSt.refuse {w:World} {t m gb d:Nat} {id:Int} {R:Nat→Bool} (h:RSt w t m gb id R) (hd:d<6) (ht:t≠gb):RSt (w.setCell ⟨gb,d,none⟩ (.bool true)) t m gb id (fun e=>if e=d then true else R e):=by
 refine ⟨by rw [heap_setCell_other _ _ _ _ ht]; exact h.row,?_⟩
 rw [heap_setCell_same w gb d _ _ (.bool true) h.refs]
 rcases six hd with rfl|rfl|rfl|rfl|rfl|rfl <;> rfl
def Dc (m gn gs r t gb x:Nat):Prop:=In4 m gn gs r x ∨ x=t ∨ x=gb
def Pg (j p q s mb x:Nat):Prop:=In3 j p q x ∨ x=s ∨ x=mb
structure BI (w0 w:World) (s j mb p q n t m gn gs r gb id:Nat) (R:Nat→Bool) (E:Nat→Nat×St) (over:Bool) (B:ByteArray) (l:Int):Prop where
 sp:SP w0 w s j mb p q (id:Int) R n E over B l
 rk:RK w m gn gs r E over B l
 rs:RSt w t m gb (id:Int) R
 en:∀ d,d<6→(E d).1<4294967296
 apart:∀ x,Pg j p q s mb x→¬ Dc m gn gs r t gb x
 low:∀ x,Dc m gn gs r t gb x→w0.heap.size≤x
 nt:¬ In4 m gn gs r t
 ng:¬ In4 m gn gs r gb
 tg:t≠gb
section
variable {w0 w w':World} {s j mb p q n t m gn gs r gb id:Nat} {R:Nat→Bool} {E E':Nat→Nat×St} {over over':Bool} {B B':ByteArray} {l l':Int}
theorem BI.later (h:BI w0 w s j mb p q n t m gn gs r gb id R E over B l) (hb:Below w.heap.size w w'):BI w0 w' s j mb p q n t m gn gs r gb id R E over B l :=
 ⟨h.sp.later hb,h.rk.later hb,h.rs.later hb,h.en,h.apart,h.low,h.nt,h.ng,h.tg⟩
theorem BI.drew (h:BI w0 w s j mb p q n t m gn gs r gb id R E over B l):BI w0 w.drew s j mb p q n t m gn gs r gb id R E over B l:=h.later (Below.refl _ _).drew
theorem BI.bel (h:BI w0 w s j mb p q n t m gn gs r gb id R E over B l):Below w0.heap.size w0 w:=h.sp.jp.bel
theorem BI.d34 (h:BI w0 w s j mb p q n t m gn gs r gb id R E over B l):∀ x,In3 j p q x→¬ In4 m gn gs r x:=fun x hx hy=>h.apart x (.inl hx) (.inl hy)
theorem BI.i3t (h:BI w0 w s j mb p q n t m gn gs r gb id R E over B l):¬ In3 j p q t:=fun hx=>h.apart t (.inl hx) (.inr (.inl rfl))
theorem BI.i3g (h:BI w0 w s j mb p q n t m gn gs r gb id R E over B l):¬ In3 j p q gb:=fun hx=>h.apart gb (.inl hx) (.inr (.inr rfl))
theorem BI.l4 (h:BI w0 w s j mb p q n t m gn gs r gb id R E over B l):∀ x,In4 m gn gs r x→w0.heap.size≤x:=fun x hx=>h.low x (.inl hx)
theorem BI.i4s (h:BI w0 w s j mb p q n t m gn gs r gb id R E over B l):¬ In4 m gn gs r s:=fun hx=>h.apart s (.inr (.inl rfl)) (.inl hx)
theorem BI.i4m (h:BI w0 w s j mb p q n t m gn gs r gb id R E over B l):¬ In4 m gn gs r mb:=fun hx=>h.apart mb (.inr (.inr rfl)) (.inl hx)
theorem BI.docKept (h:BI w0 w s j mb p q n t m gn gs r gb id R E over B l) (hk:Kept (In3 j p q) w w'):RK w' m gn gs r E over B l∧RSt w' t m gb (id:Int) R :=
 ⟨h.rk.far hk h.d34,h.rs.kept hk h.i3t h.i3g⟩
theorem BI.both (h:BI w0 w s j mb p q n t m gn gs r gb id R E over B l) {w1 w2:World} (hs:SP w0 w1 s j mb p q (id:Int) R n E' over' B' l') (hk1:Kept (In3 j p q) w w1) (hr:RK w2 m gn gs r E' over' B' l') (hk2:Kept (In4 m gn gs r) w1 w2) (hn:∀ d,d<6→(E' d).1<4294967296):BI w0 w2 s j mb p q n t m gn gs r gb id R E' over' B' l' :=
 ⟨hs.far hk2 h.l4 h.d34 h.i4s h.i4m,hr,(h.docKept hk1).2.kept hk2 h.nt h.ng,hn,h.apart,h.low,h.nt,h.ng,h.tg⟩
theorem BI.refuse (h:BI w0 w s j mb p q n t m gn gs r gb id R E over B l) {w1:World} {d:Nat} (hd:d<6) (hr:SR w1 s j mb (id:Int) (updR R d) (n+1)) (hk:Kept (In1 mb) w w1) :
  RSt w1 t m gb (id:Int) R∧BI w0 (w1.setCell ⟨gb,d,none⟩ (.bool true)) s j mb p q (n+1) t m gn gs r gb id (updR R d) E over B l:=by
 have a1:¬ In1 mb t:=fun e=>h.apart mb (.inr (.inr rfl)) (.inr (.inl e.symm))
 have a2:¬ In1 mb gb:=fun e=>h.apart mb (.inr (.inr rfl)) (.inr (.inr e.symm))
 have rs1:=h.rs.kept hk a1 a2
 have hk2:Kept (In1 gb) w1 (w1.setCell ⟨gb,d,none⟩ (.bool true)):=(Kept.refl _ _).set1 d _
 have sp1:=h.sp.refuse hr hk
 refine ⟨rs1,sp1.far hk2 (fun x e=>by unfold In1 at e; rw [e]; exact h.low gb (.inr (.inr rfl))) (fun x hx e=>by unfold In1 at e; subst e; exact h.i3g hx) (fun e=>h.apart s (.inr (.inl rfl)) (.inr (.inr e))) (fun e=>h.apart mb (.inr (.inr rfl)) (.inr (.inr e))),?_,rs1.refuse hd h.tg,h.en,h.apart,h.low,h.nt,h.ng,h.tg⟩
 exact (h.rk.far hk (fun x e=>by unfold In1 at e; rw [e]; exact h.i4m)).far hk2 (fun x e=>by unfold In1 at e; rw [e]; exact h.ng)
end
theorem bi_new {w0 w1 w2:World} {s j mb p q t m gn gs r gb id:Nat} {B:ByteArray} {l:Int} (hs:SP w0 w1 s j mb p q (id:Int) (fun _=>false) 0 (dealL B.data.toList) false B l) (hb:Below w1.heap.size w1 w2) (hrj:RK w2 m gn gs r (dealL B.data.toList) false B l) (hrs:RSt w2 t m gb (id:Int) (fun _=>false))
  (hr0:w0.heap.size≤r) (hr1:r<w1.heap.size) (nrj:r≠j) (nrp:r≠p) (nrq:r≠q) (nrs:r≠s) (nrm:r≠mb) (b1:w1.heap.size≤m) (b2:w1.heap.size≤gn) (b3:w1.heap.size≤gs) (b4:w1.heap.size≤gb) (b5:w1.heap.size≤t)
  (t1:t≠m) (t2:t≠gn) (t3:t≠gs) (t4:t≠gb) (g1:gb≠m) (g2:gb≠gn) (g3:gb≠gs):BI w0 w2 s j mb p q 0 t m gn gs r gb id (fun _=>false) (dealL B.data.toList) false B l:=by
 obtain ⟨e1,e2,e3,e4,e5⟩:=hs.lts
 have e6:=hs.jp.bel.size
 refine ⟨hs.later hb,hrj,hrs,fun d _=>deal_lt _ d,fun x hx hy=>?_,fun x hx=>?_,fun g=>?_,fun g=>?_,t4⟩
 ·unfold Pg In3 at hx
  unfold Dc In4 at hy
  omega
 ·unfold Dc In4 at hx
  omega
 ·unfold In4 at g; omega
 ·unfold In4 at g; omega
theorem AnsV.kept {w w':World} {v:Value} {c:Nat} {id f d a:Int} {h:HOut} {m gn gs r:Nat} {E:Nat→Nat×St} {over:Bool} {B:ByteArray} {l:Int} (x:AnsV w v c id f d a h) (hk:Kept (In4 m gn gs r) w w') (hr:RK w m gn gs r E over B l):AnsV w' v c id f d a h:=by
 unfold AnsV at *
 split
 ·rename_i hc
  rw [if_pos hc] at x
  obtain ⟨g,cap,e,row⟩:=x
  refine ⟨g,cap,e,hk.row row (fun hg=>?_)⟩
  obtain ⟨⟨⟨cn,cs,r1⟩,⟨N,n1,_⟩,⟨T,t1,_⟩,_,_,_⟩,⟨off,l',cuts,p1,_⟩,_⟩:=hr
  unfold RP at p1
  rcases hg with hg|hg|hg|hg
  ·rw [hg,r1] at row; injection row with row; injection row with _ q; exact absurd q (by decide)
  ·rw [hg,n1] at row; injection row with row; injection row with _ q; exact absurd q (by decide)
  ·rw [hg,t1] at row; injection row with row; injection row with _ q; exact absurd q (by decide)
  ·rw [hg,p1] at row; injection row with row; injection row with _ q; exact absurd q (by decide)
 ·rename_i hc
  rw [if_neg hc] at x
  exact x
theorem same_ans (w:World) (v1 v2:Value) (c:Nat) (id f d a:Int) (h:HOut) (x1:AnsV w v1 c id f d a h) (x2:AnsV w v2 c id f d a h):Calls Tryd.prog 24 #[v1,v2] w fun e w'=>e=.returned (.bool true)∧Below w.heap.size w w':=by
 unfold AnsV at x1 x2
 by_cases hc:c=0∧h.k≠0
 ·rw [if_pos hc] at x1 x2
  obtain ⟨g1,c1,rfl,r1⟩:=x1
  obtain ⟨g2,c2,rfl,r2⟩:=x2
  exact same_one g1 g2 c1 c2 id f d h.k a h.yes h.st.ph h.st.pr h.st.at_ w r1 r2
 ·rw [if_neg hc] at x1 x2
  subst x1 x2
  exact same_none w
theorem scut_is {w0 w:World} {j p q:Nat} {E:Nat→Nat×St} {over:Bool} {B:ByteArray} {l:Int} {A:Nat→Addr} (x:Int) (c:Nat) (l2:Int) (h:JP w0 w j p q E over B l) (hE:HeldE w0 A) (hx:x≤9223372036854775807) (hc:cC l x=c) (hl:cL l x=l2) :
  Calls Tryd.prog 12 #[.pointer (some ⟨p,0,none⟩),.int .i64 x] w fun e w'=>e=.returned (ev A c)∧JP w0 w' j p q E over B l2∧Kept (In3 j p q) w w':=by
 subst hc hl
 exact scut_jp x h hE hx
theorem sacts_early (A:Nat→Addr) (id:Int) (s:ByteArray) (ad:Option Addr) (n cap:Nat) (w:World) (hE:Held9 w A) (hm:n≤9223372036854775807) (hs:512<s.size ∨ 60<n) :
  Calls Tryd.prog 5 #[.int .i64 id,.string s,.slice ad n cap] w fun e w'=>e=.returned (.bool true)∧Below w.heap.size w w':=by
 have HE:=hid hE
 clear hE
 by_cases h1:512<s.size
 ·have hg:decide ((512:Int)<(s.size:Int))=true:=decide_eq_true (by omega)
  go_enter Tryd.func5,Tryd.ntmps5
  go_wp2_with fail
  refine (votes_any A w HE.out.toE).mono ?_
  rintro e w1 ⟨rfl,hb1⟩
  have HB1:=hid hb1
  clear hb1
  go_wp2_with fail
  go_ret
  exact ⟨rfl,HB1.out⟩
 ·have hg:decide ((512:Int)<(s.size:Int))=false:=decide_eq_false (by omega)
  have hg2:decide ((60:Int)<(n:Int))=true:=decide_eq_true (by omega)
  go_enter Tryd.func5,Tryd.ntmps5
  go_wp2_with fail
  refine (votes_any A w HE.out.toE).mono ?_
  rintro e w1 ⟨rfl,hb1⟩
  have HB1:=hid hb1
  clear hb1
  go_wp2_with fail
  go_ret
  exact ⟨rfl,HB1.out⟩
theorem sacts_bad (A:Nat→Addr) (id:Int) (s:ByteArray) (ad:Option Addr) (n cap:Nat) (w:World) (hE:Held9 w A) (hs:s.size≤512) (hn:n≤60) (hid0:id<0 ∨ 7≤id) :
  Calls Tryd.prog 5 #[.int .i64 id,.string s,.slice ad n cap] w fun e w'=>e=.returned (.bool true)∧Below w.heap.size w w':=by
 have HE:=hid hE
 clear hE
 have hg:decide ((512:Int)<(s.size:Int))=false:=decide_eq_false (by omega)
 have hg2:decide ((60:Int)<(n:Int))=false:=decide_eq_false (by omega)
 go_enter Tryd.func5,Tryd.ntmps5
 go_wp2_with fail
 refine (votes_any A w HE.out.toE).mono ?_
 rintro e w1 ⟨rfl,hb1⟩
 have HB1:=hid hb1
 clear hb1
 go_wp2_with fail
 refine (pfrom_ok s w1 (by omega)).mono ?_
 rintro e w2 ⟨rfl,hP,hb2,-⟩
 have HB2:=hid (HB1.out.trans (hb2.mono HB1.out.size))
 have hpq:=HB1.out.size
 obtain ⟨p,Hp⟩:∃ p,Hid (w1.heap.size+1=p):=⟨_,rfl⟩
 obtain ⟨q,Hq⟩:∃ q,Hid (w1.heap.size=q):=⟨_,rfl⟩
 have p0:w.heap.size≤p:=by rw [← Hp.out]; omega
 have q0:w.heap.size≤q:=by rw [← Hq.out]; omega
 rw [Hp.out,Hq.out] at hP
 have HP:=hid hP
 have hpp:=Hp.out
 clear hP hb2
 go_wp2_with fail
 refine (snew_bad A id _ w2 (HE.out.later HB2.out).toE hid0).mono ?_
 rintro e w3 ⟨rfl,hb3⟩
 have HB3:=hid (HB2.out.trans (hb3.mono HB2.out.size))
 clear hb3
 unfold ev
 obtain ⟨X,HXw⟩:∃ X,Hid (w3.alloc (.cells #[.string s,.bool false,.int .i64 0,.bool false] 52)=X):=⟨_,rfl⟩
 have HRX:Hid (RP X w3.heap.size s false 0 false):=by rw [← HXw.out]; exact heap_alloc_new w3 _
 have HBX:Hid (Below w.heap.size w X):=by rw [← HXw.out]; exact HB3.out.alloc HB3.out.size _
 go_wp2_with fail
 rw [HXw.out]
 refine (ropenerr_any w3.heap.size s false false 0 X HRX.out (by omega)).mono ?_
 rintro e wx ⟨rfl,hx⟩
 subst wx
 obtain ⟨ec,Hec⟩:∃ ec:Int,Hid ((if s.size<216 then 2 else if false then 6 else 0)=ec):=⟨_,rfl⟩
 rw [Hec.out]
 by_cases h0:id<0
 ·clear hid0
  go_wp2_with fail
  refine (coded_ev A 2 X (HE.out.later HBX.out) (by omega)).mono ?_
  rintro e w5 ⟨rfl,hb5⟩
  have HB5:=hid (HBX.out.trans (hb5.mono HBX.out.size))
  clear hb5
  go_wp2_with fail
  go_ret
  exact ⟨rfl,HB5.out⟩
 ·have h7:7≤id:=by omega
  clear hid0
  go_wp2_with fail
  refine (coded_ev A 2 X (HE.out.later HBX.out) (by omega)).mono ?_
  rintro e w5 ⟨rfl,hb5⟩
  have HB5:=hid (HBX.out.trans (hb5.mono HBX.out.size))
  clear hb5
  go_wp2_with fail
  go_ret
  exact ⟨rfl,HB5.out⟩
theorem sacts_short (A:Nat→Addr) (id:Int) (s:ByteArray) (ad:Option Addr) (n cap:Nat) (w:World) (hE:Held9 w A) (hs:s.size<216) (hn:n≤60) (i0:0≤id) (i7:id<7) :
  Calls Tryd.prog 5 #[.int .i64 id,.string s,.slice ad n cap] w fun e w'=>e=.returned (.bool true)∧Below w.heap.size w w':=by
 have HrC:Hid (rC s (-1) 0 216=1+1):=by unfold Hid rC; rw [if_pos (by omega)]
 have HE:=hid hE
 clear hE
 have hg:decide ((512:Int)<(s.size:Int))=false:=decide_eq_false (by omega)
 have hg2:decide ((60:Int)<(n:Int))=false:=decide_eq_false (by omega)
 go_enter Tryd.func5,Tryd.ntmps5
 go_wp2_with fail
 refine (votes_any A w HE.out.toE).mono ?_
 rintro e w1 ⟨rfl,hb1⟩
 have HB1:=hid hb1
 clear hb1
 go_wp2_with fail
 refine (pfrom_ok s w1 (by omega)).mono ?_
 rintro e w2 ⟨rfl,hP,hb2,-⟩
 have HB2:=hid (HB1.out.trans (hb2.mono HB1.out.size))
 have hpq:=HB1.out.size
 obtain ⟨p,Hp⟩:∃ p,Hid (w1.heap.size+1=p):=⟨_,rfl⟩
 obtain ⟨q,Hq⟩:∃ q,Hid (w1.heap.size=q):=⟨_,rfl⟩
 have p0:w.heap.size≤p:=by rw [← Hp.out]; omega
 have q0:w.heap.size≤q:=by rw [← Hq.out]; omega
 rw [Hp.out,Hq.out] at hP
 have HP:=hid hP
 have hpp:=Hp.out
 clear hP hb2
 go_wp2_with fail
 refine (snew_err A id p q s (-1) 1 w2 HP.out (HE.out.later HB2.out).toE (by omega) HrC.out i0 i7).mono ?_
 rintro e w3 ⟨rfl,hw3⟩
 have HB3:=HB2
 subst hw3
 obtain ⟨X,HXw⟩:∃ X,Hid (w3.alloc (.cells #[.string s,.bool false,.int .i64 0,.bool false] 52)=X):=⟨_,rfl⟩
 have HRX:Hid (RP X w3.heap.size s false 0 false):=by rw [← HXw.out]; exact heap_alloc_new w3 _
 have HBX:Hid (Below w.heap.size w X):=by rw [← HXw.out]; exact HB3.out.alloc HB3.out.size _
 go_wp2_with fail
 rw [HXw.out]
 refine (ropenerr_any w3.heap.size s false false 0 X HRX.out (by omega)).mono ?_
 rw [if_pos hs]
 rintro e wx ⟨rfl,hx⟩
 subst wx
 go_wp2_with fail
 refine (coded_ev A 2 X (HE.out.later HBX.out) (by omega)).mono ?_
 rintro e w5 ⟨rfl,hb5⟩
 have HB5:=hid (HBX.out.trans (hb5.mono HBX.out.size))
 clear hb5
 go_wp2_with fail
 go_ret
 exact ⟨rfl,HB5.out⟩
end Go.Proofs.YtkopfpaldmapdaaDoor
