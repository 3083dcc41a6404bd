/-
  On the way to SPlaysProof: O38.
-/
import Derived.Test.YtaehdgemkafinaaGreatDoorBw49
import Derived.Test.YtaehdgemkafinaaGreatDoorBw41
set_option maxHeartbeats 8000000
set_option maxRecDepth 100000
namespace Go.Proofs.YtaehdgemkafinaaGreatDoor
open Go.RowKit
section
variable {w0 w w1 U:World} {wd:ByteArray} {v:Value} {C:Nat→Nat} {Y:YB} {aw:Option Addr} {cap m M:Nat} {zs:List Int} {V V':PX}
theorem ROut.from (hb:Below w.heap.size w U) (h:ROut w0 U w1 C Y aw cap zs V M):ROut w0 w w1 C Y aw cap zs V M:=ROut.step rfl (Kept.of_below hb) (fun _ _=>rfl) h
theorem ROut.cell (h:ROut w0 U w1 C Y aw cap zs V M) {p:Addr} {u:Value} (hp:U.cell? p=some u) (hC:2000≤C p.block):w1.cell? p=some u:=by
 obtain ⟨C',Y',-,-,k,-⟩:=h
 exact cell_kept hp k (fun e=>by have h1:C p.block<2000:=e; omega)
theorem RW.newC (h:RW w0 w C Y aw cap zs V m):2000≤C w.heap.size:=by
 rcases Nat.lt_or_ge (C w.heap.size) 2000 with q|q
 ·have:=h.lt _ q; omega
 ·exact q
theorem RW.lowC (h:RW w0 w C Y aw cap zs V m) {g:Nat} (hg:g<w0.heap.size):2000≤C g:=by
 rcases Nat.lt_or_ge (C g) 2000 with q|q
 ·have:=h.low _ q; omega
 ·exact q
theorem sl_two {a b:Int} (h:IsSl w0 v [a,b]):∃ g o c,v=.slice (some ⟨g,o,none⟩) 2 c∧w0.cell? ⟨g,o,none⟩=some (.int .i64 a)∧w0.cell? ⟨g,o+1,none⟩=some (.int .i64 b)∧g<w0.heap.size:=by
 obtain ⟨ad,c,hv,-,-,hc⟩:=h
 obtain ⟨g,o,rfl,hh⟩:=hc (Nat.succ_pos _)
 have e0:=hh 0 (Nat.succ_pos _)
 have e1:=hh 1 (by simp)
 exact ⟨g,o,c,hv,e0,e1,cell_lt e0⟩
theorem sl_one {a:Int} (h:IsSl w0 v [a]):∃ g o c,v=.slice (some ⟨g,o,none⟩) 1 c∧w0.cell? ⟨g,o,none⟩=some (.int .i64 a)∧g<w0.heap.size:=by
 obtain ⟨ad,c,hv,-,-,hc⟩:=h
 obtain ⟨g,o,rfl,hh⟩:=hc (Nat.succ_pos _)
 have e0:=hh 0 (Nat.succ_pos _)
 exact ⟨g,o,c,hv,e0,cell_lt e0⟩
def AnsO (w0 w:World) (C:Nat→Nat) (Y:YB) (aw:Option Addr) (cap:Nat) (zs:List Int) (V:PX) (m i:Nat) (ns:List Int) (e:Ending) (w':World):Prop :=
 e=.returned (.string (bB (sayO (resP (some (zs,V)) i ns).1)))∧∃ V',(resP (some (zs,V)) i ns).2=some (zs,V')∧AX zs V'∧ROut w0 w w' C Y aw cap zs V' (m+9000)
theorem doc_op (i:Nat) (a b:Int) (h:RW w0 U C Y aw cap zs V m) (hm:m<900000) (ha:0≤a) (hb:0≤b) (hb9:b≤99999) :
  (i=1→Calls Tryz.prog 22 #[.pointer (some ⟨Y.xb,0,none⟩),.int .i64 a,.int .i64 b] U fun e w'=>e=.returned (.int .i64 ((opP zs V 1 a b).1:Int))∧ROut w0 U w' C Y aw cap zs (opP zs V 1 a b).2 (m+9000)) ∧
  (i=2→Calls Tryz.prog 23 #[.pointer (some ⟨Y.xb,0,none⟩),.int .i64 a,.int .i64 b] U fun e w'=>e=.returned (.int .i64 ((opP zs V 2 a b).1:Int))∧ROut w0 U w' C Y aw cap zs (opP zs V 2 a b).2 (m+9000)) ∧
  (i=3→Calls Tryz.prog 24 #[.pointer (some ⟨Y.xb,0,none⟩),.int .i64 a] U fun e w'=>e=.returned (.int .i64 ((opP zs V 3 a b).1:Int))∧ROut w0 U w' C Y aw cap zs (opP zs V 3 a b).2 (m+9000)) ∧
  (i=4→Calls Tryz.prog 27 #[.pointer (some ⟨Y.xb,0,none⟩),.int .i64 a] U fun e w'=>e=.returned (.int .i64 ((opP zs V 4 a b).1:Int))∧ROut w0 U w' C Y aw cap zs (opP zs V 4 a b).2 (m+9000)) ∧
  (i=5→Calls Tryz.prog 28 #[.pointer (some ⟨Y.xb,0,none⟩),.int .i64 a] U fun e w'=>e=.returned (.int .i64 ((opP zs V 5 a b).1:Int))∧ROut w0 U w' C Y aw cap zs (opP zs V 5 a b).2 (m+9000)) ∧
  (i=6→Calls Tryz.prog 29 #[.pointer (some ⟨Y.xb,0,none⟩),.int .i64 a] U fun e w'=>e=.returned (.int .i64 ((opP zs V 6 a b).1:Int))∧ROut w0 U w' C Y aw cap zs (opP zs V 6 a b).2 (m+9000)) ∧
  (i=7→Calls Tryz.prog 30 #[.pointer (some ⟨Y.xb,0,none⟩),.int .i64 a,.int .i64 b,.bool true] U fun e w'=>e=.returned (.int .i64 ((opP zs V 7 a b).1:Int))∧ROut w0 U w' C Y aw cap zs (opP zs V 7 a b).2 (m+9000)) ∧
  (i=8→Calls Tryz.prog 30 #[.pointer (some ⟨Y.xb,0,none⟩),.int .i64 a,.int .i64 b,.bool false] U fun e w'=>e=.returned (.int .i64 ((opP zs V 8 a b).1:Int))∧ROut w0 U w' C Y aw cap zs (opP zs V 8 a b).2 (m+9000)) ∧
  (i=9→Calls Tryz.prog 31 #[.pointer (some ⟨Y.xb,0,none⟩),.int .i64 a,.int .i64 b] U fun e w'=>e=.returned (.int .i64 ((opP zs V 9 a b).1:Int))∧ROut w0 U w' C Y aw cap zs (opP zs V 9 a b).2 (m+9000)) ∧
  (i=10→Calls Tryz.prog 25 #[.pointer (some ⟨Y.xb,0,none⟩),.int .i64 a] U fun e w'=>e=.returned (.int .i64 ((opP zs V 10 a b).1:Int))∧ROut w0 U w' C Y aw cap zs (opP zs V 10 a b).2 (m+9000)) ∧
  (i=11→Calls Tryz.prog 26 #[.pointer (some ⟨Y.xb,0,none⟩),.int .i64 a] U fun e w'=>e=.returned (.int .i64 ((opP zs V 11 a b).1:Int))∧ROut w0 U w' C Y aw cap zs (opP zs V 11 a b).2 (m+9000)):=by
 refine ⟨fun _=>?_,fun _=>?_,fun _=>?_,fun _=>?_,fun _=>?_,fun _=>?_,fun _=>?_,fun _=>?_,fun _=>?_,fun _=>?_,fun _=>?_⟩
 ·exact (rbegin_any a b _ h (by omega) rfl).mono fun e w' q=>⟨q.1,q.2.mono (by omega)⟩
 ·exact (rrefuse_any a b _ h rfl).mono fun e w' q=>⟨q.1,q.2.mono (by omega)⟩
 ·exact (rtick_any a _ h (by omega) rfl).mono fun e w' q=>⟨q.1,q.2.mono (by omega)⟩
 ·obtain ⟨k,rfl⟩:=Int.eq_ofNat_of_zero_le ha
  by_cases hk:k<V.fly.length
  ·have e1:opP zs V 4 (k:Int) b=(0,deliverX zs V k (V.fly[k]'hk)):=by
    show (match V.fly[((k:Int)).toNat]? with|some f=>(0,deliverX zs V ((k:Int)).toNat f)|none=>(4,V))=_
    rw [Int.toNat_natCast,List.getElem?_eq_getElem hk]
   rw [e1]
   exact (rdeliver_ok k _ h hk rfl (by omega)).mono fun e w' q=>⟨q.1,q.2.mono (by omega)⟩
  ·have e1:opP zs V 4 (k:Int) b=(4,V):=by
    show (match V.fly[((k:Int)).toNat]? with|some f=>(0,deliverX zs V ((k:Int)).toNat f)|none=>(4,V))=_
    rw [Int.toNat_natCast,List.getElem?_eq_none (by omega)]
   rw [e1]
   exact (rdeliver_no (k:Int) h (by omega) (by omega)).mono fun e w' q=>⟨q.1,h.out q.2 (by omega)⟩
 ·obtain ⟨k,rfl⟩:=Int.eq_ofNat_of_zero_le ha
  by_cases hk:k<V.fly.length
  ·have e1:opP zs V 5 (k:Int) b=(0,takeX V k):=by
    show (if ((k:Int)).toNat<V.fly.length then (0,takeX V ((k:Int)).toNat) else (4,V))=_
    rw [Int.toNat_natCast,if_pos hk]
   rw [e1]
   exact (rdrop_ok k h hk (by omega)).mono fun e w' q=>⟨q.1,q.2.mono (by omega)⟩
  ·have e1:opP zs V 5 (k:Int) b=(4,V):=by
    show (if ((k:Int)).toNat<V.fly.length then (0,takeX V ((k:Int)).toNat) else (4,V))=_
    rw [Int.toNat_natCast,if_neg hk]
   rw [e1]
   exact (rdrop_no (k:Int) h (by omega) (by omega)).mono fun e w' q=>⟨q.1,h.out q.2 (by omega)⟩
 ·obtain ⟨k,rfl⟩:=Int.eq_ofNat_of_zero_le ha
  by_cases hk:k<V.fly.length
  ·have e1:opP zs V 6 (k:Int) b=(0,twiceX V k (V.fly[k]'hk)):=by
    show (match V.fly[((k:Int)).toNat]? with|some f=>(0,twiceX V ((k:Int)).toNat f)|none=>(4,V))=_
    rw [Int.toNat_natCast,List.getElem?_eq_getElem hk]
   rw [e1]
   exact (rtwice_ok k _ h hk rfl (by omega)).mono fun e w' q=>⟨q.1,q.2.mono (by omega)⟩
  ·have e1:opP zs V 6 (k:Int) b=(4,V):=by
    show (match V.fly[((k:Int)).toNat]? with|some f=>(0,twiceX V ((k:Int)).toNat f)|none=>(4,V))=_
    rw [Int.toNat_natCast,List.getElem?_eq_none (by omega)]
   rw [e1]
   exact (rtwice_no (k:Int) h (by omega) (by omega)).mono fun e w' q=>⟨q.1,by rw [q.2]; exact h.out (Below.refl _ _) (by omega)⟩
 ·obtain ⟨p,rfl⟩:=Int.eq_ofNat_of_zero_le ha
  obtain ⟨q,rfl⟩:=Int.eq_ofNat_of_zero_le hb
  by_cases hk:(p:Int)<zs.length∧(q:Int)<zs.length
  ·have e1:opP zs V 7 (p:Int) (q:Int)=(0,linkX V p q true):=by
    show (if (p:Int)<zs.length∧(q:Int)<zs.length then (0,linkX V ((p:Int)).toNat ((q:Int)).toNat true) else (2,V))=_
    rw [if_pos hk,Int.toNat_natCast,Int.toNat_natCast]
   rw [e1]
   exact (rlink_ok p q true h (by omega) (by omega) (by omega)).mono fun e w' r=>⟨r.1,r.2.mono (by omega)⟩
  ·have e1:opP zs V 7 (p:Int) (q:Int)=(2,V):=by
    show (if (p:Int)<zs.length∧(q:Int)<zs.length then (0,linkX V ((p:Int)).toNat ((q:Int)).toNat true) else (2,V))=_
    rw [if_neg hk]
   rw [e1]
   exact (rlink_no (p:Int) (q:Int) true h (by omega)).mono fun e w' r=>⟨r.1,by rw [r.2]; exact h.out (Below.refl _ _) (by omega)⟩
 ·obtain ⟨p,rfl⟩:=Int.eq_ofNat_of_zero_le ha
  obtain ⟨q,rfl⟩:=Int.eq_ofNat_of_zero_le hb
  by_cases hk:(p:Int)<zs.length∧(q:Int)<zs.length
  ·have e1:opP zs V 8 (p:Int) (q:Int)=(0,linkX V p q false):=by
    show (if (p:Int)<zs.length∧(q:Int)<zs.length then (0,linkX V ((p:Int)).toNat ((q:Int)).toNat false) else (2,V))=_
    rw [if_pos hk,Int.toNat_natCast,Int.toNat_natCast]
   rw [e1]
   exact (rlink_ok p q false h (by omega) (by omega) (by omega)).mono fun e w' r=>⟨r.1,r.2.mono (by omega)⟩
  ·have e1:opP zs V 8 (p:Int) (q:Int)=(2,V):=by
    show (if (p:Int)<zs.length∧(q:Int)<zs.length then (0,linkX V ((p:Int)).toNat ((q:Int)).toNat false) else (2,V))=_
    rw [if_neg hk]
   rw [e1]
   exact (rlink_no (p:Int) (q:Int) false h (by omega)).mono fun e w' r=>⟨r.1,by rw [r.2]; exact h.out (Below.refl _ _) (by omega)⟩
 ·exact (rcut_any a b _ h (by omega) rfl).mono fun e w' q=>⟨q.1,q.2.mono (by omega)⟩
 ·exact (rdown_any a _ h rfl).mono fun e w' q=>⟨q.1,q.2.mono (by omega)⟩
 ·exact (rwake_any a _ h rfl).mono fun e w' q=>⟨q.1,q.2.mono (by omega)⟩
theorem ans1 {a b:Int} (hN:IsNm wd 1) (hR:RW w0 w C Y aw cap zs V m) (hA:AX zs V) (hm:m<800000) (hv:IsSl w0 v [a,b]) (ha:0≤a) (hb:0≤b) (hb9:b≤99999) :
  Calls Tryz.prog 16 #[.pointer (some ⟨Y.xb,0,none⟩),.agg #[.string wd,v]] w (AnsO w0 w C Y aw cap zs V m 1 [a,b]):=by
 obtain ⟨g,o,c,rfl,h0,h1,hg⟩:=sl_two hv
 have hbU:Below w.heap.size w (bxW w wd (.slice (some ⟨g,o,none⟩) 2 c)).drew:=((Below.refl _ _).alloc (Nat.le_refl _) _).drew
 have e0:=cell_later hR.bel h0
 have e1:=cell_later hR.bel h1
 have hd:=(doc_op 1 a b (hR.later hbU) (by omega) ha hb hb9).1 rfl
 have hbx:=bxL_new w wd (.slice (some ⟨g,o,none⟩) 2 c)
 refine (an1_any hN e0 e1 (cod_op zs V 1 a b).1 hd (fun W ho=>⟨⟨ho.cell (p:=⟨w.heap.size,0,none⟩) hbx.1 hR.newC,ho.cell (p:=⟨w.heap.size,1,none⟩) hbx.2 hR.newC⟩,ho.cell (p:=⟨g,o,none⟩) (cell_later hbU e0) (hR.lowC hg),ho.cell (p:=⟨g,o+1,none⟩) (cell_later hbU e1) (hR.lowC hg)⟩)).mono ?_
 rintro e w' ⟨he,w2,ho,hb2⟩
 exact ⟨he,_,rfl,((opP_stp ha hb).ax hA hR.inv (by omega)).1,(ho.from hbU).later hb2⟩
theorem ans2 {a b:Int} (hN:IsNm wd 2) (hR:RW w0 w C Y aw cap zs V m) (hA:AX zs V) (hm:m<800000) (hv:IsSl w0 v [a,b]) (ha:0≤a) (hb:0≤b) (hb9:b≤99999) :
  Calls Tryz.prog 16 #[.pointer (some ⟨Y.xb,0,none⟩),.agg #[.string wd,v]] w (AnsO w0 w C Y aw cap zs V m 2 [a,b]):=by
 obtain ⟨g,o,c,rfl,h0,h1,hg⟩:=sl_two hv
 have hbU:Below w.heap.size w (bxW w wd (.slice (some ⟨g,o,none⟩) 2 c)).drew:=((Below.refl _ _).alloc (Nat.le_refl _) _).drew
 have e0:=cell_later hR.bel h0
 have e1:=cell_later hR.bel h1
 have hd:=(doc_op 2 a b (hR.later hbU) (by omega) ha hb hb9).2.1 rfl
 have hbx:=bxL_new w wd (.slice (some ⟨g,o,none⟩) 2 c)
 refine (an2_any hN e0 e1 (cod_op zs V 2 a b).1 hd (fun W ho=>⟨⟨ho.cell (p:=⟨w.heap.size,0,none⟩) hbx.1 hR.newC,ho.cell (p:=⟨w.heap.size,1,none⟩) hbx.2 hR.newC⟩,ho.cell (p:=⟨g,o,none⟩) (cell_later hbU e0) (hR.lowC hg),ho.cell (p:=⟨g,o+1,none⟩) (cell_later hbU e1) (hR.lowC hg)⟩)).mono ?_
 rintro e w' ⟨he,w2,ho,hb2⟩
 exact ⟨he,_,rfl,((opP_stp ha hb).ax hA hR.inv (by omega)).1,(ho.from hbU).later hb2⟩
theorem ans7 {a b:Int} (hN:IsNm wd 7) (hR:RW w0 w C Y aw cap zs V m) (hA:AX zs V) (hm:m<800000) (hv:IsSl w0 v [a,b]) (ha:0≤a) (hb:0≤b) (hb9:b≤99999) :
  Calls Tryz.prog 16 #[.pointer (some ⟨Y.xb,0,none⟩),.agg #[.string wd,v]] w (AnsO w0 w C Y aw cap zs V m 7 [a,b]):=by
 obtain ⟨g,o,c,rfl,h0,h1,hg⟩:=sl_two hv
 have hbU:Below w.heap.size w (bxW w wd (.slice (some ⟨g,o,none⟩) 2 c)).drew:=((Below.refl _ _).alloc (Nat.le_refl _) _).drew
 have e0:=cell_later hR.bel h0
 have e1:=cell_later hR.bel h1
 have hd:=(doc_op 7 a b (hR.later hbU) (by omega) ha hb hb9).2.2.2.2.2.2.1 rfl
 have hbx:=bxL_new w wd (.slice (some ⟨g,o,none⟩) 2 c)
 refine (an7_any hN e0 e1 (cod_op zs V 7 a b).1 hd (fun W ho=>⟨⟨ho.cell (p:=⟨w.heap.size,0,none⟩) hbx.1 hR.newC,ho.cell (p:=⟨w.heap.size,1,none⟩) hbx.2 hR.newC⟩,ho.cell (p:=⟨g,o,none⟩) (cell_later hbU e0) (hR.lowC hg),ho.cell (p:=⟨g,o+1,none⟩) (cell_later hbU e1) (hR.lowC hg)⟩)).mono ?_
 rintro e w' ⟨he,w2,ho,hb2⟩
 exact ⟨he,_,rfl,((opP_stp ha hb).ax hA hR.inv (by omega)).1,(ho.from hbU).later hb2⟩
theorem ans8 {a b:Int} (hN:IsNm wd 8) (hR:RW w0 w C Y aw cap zs V m) (hA:AX zs V) (hm:m<800000) (hv:IsSl w0 v [a,b]) (ha:0≤a) (hb:0≤b) (hb9:b≤99999) :
  Calls Tryz.prog 16 #[.pointer (some ⟨Y.xb,0,none⟩),.agg #[.string wd,v]] w (AnsO w0 w C Y aw cap zs V m 8 [a,b]):=by
 obtain ⟨g,o,c,rfl,h0,h1,hg⟩:=sl_two hv
 have hbU:Below w.heap.size w (bxW w wd (.slice (some ⟨g,o,none⟩) 2 c)).drew:=((Below.refl _ _).alloc (Nat.le_refl _) _).drew
 have e0:=cell_later hR.bel h0
 have e1:=cell_later hR.bel h1
 have hd:=(doc_op 8 a b (hR.later hbU) (by omega) ha hb hb9).2.2.2.2.2.2.2.1 rfl
 have hbx:=bxL_new w wd (.slice (some ⟨g,o,none⟩) 2 c)
 refine (an8_any hN e0 e1 (cod_op zs V 8 a b).1 hd (fun W ho=>⟨⟨ho.cell (p:=⟨w.heap.size,0,none⟩) hbx.1 hR.newC,ho.cell (p:=⟨w.heap.size,1,none⟩) hbx.2 hR.newC⟩,ho.cell (p:=⟨g,o,none⟩) (cell_later hbU e0) (hR.lowC hg),ho.cell (p:=⟨g,o+1,none⟩) (cell_later hbU e1) (hR.lowC hg)⟩)).mono ?_
 rintro e w' ⟨he,w2,ho,hb2⟩
 exact ⟨he,_,rfl,((opP_stp ha hb).ax hA hR.inv (by omega)).1,(ho.from hbU).later hb2⟩
theorem ans9 {a b:Int} (hN:IsNm wd 9) (hR:RW w0 w C Y aw cap zs V m) (hA:AX zs V) (hm:m<800000) (hv:IsSl w0 v [a,b]) (ha:0≤a) (hb:0≤b) (hb9:b≤99999) :
  Calls Tryz.prog 16 #[.pointer (some ⟨Y.xb,0,none⟩),.agg #[.string wd,v]] w (AnsO w0 w C Y aw cap zs V m 9 [a,b]):=by
 obtain ⟨g,o,c,rfl,h0,h1,hg⟩:=sl_two hv
 have hbU:Below w.heap.size w (bxW w wd (.slice (some ⟨g,o,none⟩) 2 c)).drew:=((Below.refl _ _).alloc (Nat.le_refl _) _).drew
 have e0:=cell_later hR.bel h0
 have e1:=cell_later hR.bel h1
 have hd:=(doc_op 9 a b (hR.later hbU) (by omega) ha hb hb9).2.2.2.2.2.2.2.2.1 rfl
 have hbx:=bxL_new w wd (.slice (some ⟨g,o,none⟩) 2 c)
 refine (an9_any hN e0 e1 (cod_op zs V 9 a b).1 hd (fun W ho=>⟨⟨ho.cell (p:=⟨w.heap.size,0,none⟩) hbx.1 hR.newC,ho.cell (p:=⟨w.heap.size,1,none⟩) hbx.2 hR.newC⟩,ho.cell (p:=⟨g,o,none⟩) (cell_later hbU e0) (hR.lowC hg),ho.cell (p:=⟨g,o+1,none⟩) (cell_later hbU e1) (hR.lowC hg)⟩)).mono ?_
 rintro e w' ⟨he,w2,ho,hb2⟩
 exact ⟨he,_,rfl,((opP_stp ha hb).ax hA hR.inv (by omega)).1,(ho.from hbU).later hb2⟩
theorem ans3 {a:Int} (hN:IsNm wd 3) (hR:RW w0 w C Y aw cap zs V m) (hA:AX zs V) (hm:m<800000) (hv:IsSl w0 v [a]) (ha:0≤a) :
  Calls Tryz.prog 16 #[.pointer (some ⟨Y.xb,0,none⟩),.agg #[.string wd,v]] w (AnsO w0 w C Y aw cap zs V m 3 [a]):=by
 obtain ⟨g,o,c,rfl,h0,hg⟩:=sl_one hv
 have hbU:Below w.heap.size w (bxW w wd (.slice (some ⟨g,o,none⟩) 1 c)):=(Below.refl _ _).alloc (Nat.le_refl _) _
 have e0:=cell_later hR.bel h0
 have hd:=(doc_op 3 a 0 (hR.later hbU) (by omega) ha (by omega) (by omega)).2.2.1 rfl
 refine (an3_any hN e0 (cod_op zs V 3 a 0).1 hd).mono ?_
 rintro e w' ⟨he,w2,ho,hb2⟩
 exact ⟨he,_,rfl,((opP_stp ha (Int.le_refl 0)).ax hA hR.inv (by omega)).1,(ho.from hbU).later hb2⟩
theorem ans4 {a:Int} (hN:IsNm wd 4) (hR:RW w0 w C Y aw cap zs V m) (hA:AX zs V) (hm:m<800000) (hv:IsSl w0 v [a]) (ha:0≤a) :
  Calls Tryz.prog 16 #[.pointer (some ⟨Y.xb,0,none⟩),.agg #[.string wd,v]] w (AnsO w0 w C Y aw cap zs V m 4 [a]):=by
 obtain ⟨g,o,c,rfl,h0,hg⟩:=sl_one hv
 have hbU:Below w.heap.size w (bxW w wd (.slice (some ⟨g,o,none⟩) 1 c)):=(Below.refl _ _).alloc (Nat.le_refl _) _
 have e0:=cell_later hR.bel h0
 have hd:=(doc_op 4 a 0 (hR.later hbU) (by omega) ha (by omega) (by omega)).2.2.2.1 rfl
 refine (an4_any hN e0 (cod_op zs V 4 a 0).1 hd).mono ?_
 rintro e w' ⟨he,w2,ho,hb2⟩
 exact ⟨he,_,rfl,((opP_stp ha (Int.le_refl 0)).ax hA hR.inv (by omega)).1,(ho.from hbU).later hb2⟩
theorem ans5 {a:Int} (hN:IsNm wd 5) (hR:RW w0 w C Y aw cap zs V m) (hA:AX zs V) (hm:m<800000) (hv:IsSl w0 v [a]) (ha:0≤a) :
  Calls Tryz.prog 16 #[.pointer (some ⟨Y.xb,0,none⟩),.agg #[.string wd,v]] w (AnsO w0 w C Y aw cap zs V m 5 [a]):=by
 obtain ⟨g,o,c,rfl,h0,hg⟩:=sl_one hv
 have hbU:Below w.heap.size w (bxW w wd (.slice (some ⟨g,o,none⟩) 1 c)):=(Below.refl _ _).alloc (Nat.le_refl _) _
 have e0:=cell_later hR.bel h0
 have hd:=(doc_op 5 a 0 (hR.later hbU) (by omega) ha (by omega) (by omega)).2.2.2.2.1 rfl
 refine (an5_any hN e0 (cod_op zs V 5 a 0).1 hd).mono ?_
 rintro e w' ⟨he,w2,ho,hb2⟩
 exact ⟨he,_,rfl,((opP_stp ha (Int.le_refl 0)).ax hA hR.inv (by omega)).1,(ho.from hbU).later hb2⟩
theorem ans6 {a:Int} (hN:IsNm wd 6) (hR:RW w0 w C Y aw cap zs V m) (hA:AX zs V) (hm:m<800000) (hv:IsSl w0 v [a]) (ha:0≤a) :
  Calls Tryz.prog 16 #[.pointer (some ⟨Y.xb,0,none⟩),.agg #[.string wd,v]] w (AnsO w0 w C Y aw cap zs V m 6 [a]):=by
 obtain ⟨g,o,c,rfl,h0,hg⟩:=sl_one hv
 have hbU:Below w.heap.size w (bxW w wd (.slice (some ⟨g,o,none⟩) 1 c)):=(Below.refl _ _).alloc (Nat.le_refl _) _
 have e0:=cell_later hR.bel h0
 have hd:=(doc_op 6 a 0 (hR.later hbU) (by omega) ha (by omega) (by omega)).2.2.2.2.2.1 rfl
 refine (an6_any hN e0 (cod_op zs V 6 a 0).1 hd).mono ?_
 rintro e w' ⟨he,w2,ho,hb2⟩
 exact ⟨he,_,rfl,((opP_stp ha (Int.le_refl 0)).ax hA hR.inv (by omega)).1,(ho.from hbU).later hb2⟩
theorem ans10 {a:Int} (hN:IsNm wd 10) (hR:RW w0 w C Y aw cap zs V m) (hA:AX zs V) (hm:m<800000) (hv:IsSl w0 v [a]) (ha:0≤a) :
  Calls Tryz.prog 16 #[.pointer (some ⟨Y.xb,0,none⟩),.agg #[.string wd,v]] w (AnsO w0 w C Y aw cap zs V m 10 [a]):=by
 obtain ⟨g,o,c,rfl,h0,hg⟩:=sl_one hv
 have hbU:Below w.heap.size w (bxW w wd (.slice (some ⟨g,o,none⟩) 1 c)):=(Below.refl _ _).alloc (Nat.le_refl _) _
 have e0:=cell_later hR.bel h0
 have hd:=(doc_op 10 a 0 (hR.later hbU) (by omega) ha (by omega) (by omega)).2.2.2.2.2.2.2.2.2.1 rfl
 refine (an10_any hN e0 (cod_op zs V 10 a 0).1 hd).mono ?_
 rintro e w' ⟨he,w2,ho,hb2⟩
 exact ⟨he,_,rfl,((opP_stp ha (Int.le_refl 0)).ax hA hR.inv (by omega)).1,(ho.from hbU).later hb2⟩
theorem ans11 {a:Int} (hN:IsNm wd 11) (hR:RW w0 w C Y aw cap zs V m) (hA:AX zs V) (hm:m<800000) (hv:IsSl w0 v [a]) (ha:0≤a) :
  Calls Tryz.prog 16 #[.pointer (some ⟨Y.xb,0,none⟩),.agg #[.string wd,v]] w (AnsO w0 w C Y aw cap zs V m 11 [a]):=by
 obtain ⟨g,o,c,rfl,h0,hg⟩:=sl_one hv
 have hbU:Below w.heap.size w (bxW w wd (.slice (some ⟨g,o,none⟩) 1 c)):=(Below.refl _ _).alloc (Nat.le_refl _) _
 have e0:=cell_later hR.bel h0
 have hd:=(doc_op 11 a 0 (hR.later hbU) (by omega) ha (by omega) (by omega)).2.2.2.2.2.2.2.2.2.2 rfl
 refine (an11_any hN e0 (cod_op zs V 11 a 0).1 hd).mono ?_
 rintro e w' ⟨he,w2,ho,hb2⟩
 exact ⟨he,_,rfl,((opP_stp ha (Int.le_refl 0)).ax hA hR.inv (by omega)).1,(ho.from hbU).later hb2⟩
theorem ans12 (hN:IsNm wd 12) (hR:RW w0 w C Y aw cap zs V m) (hA:AX zs V) (_hm:m<800000):Calls Tryz.prog 16 #[.pointer (some ⟨Y.xb,0,none⟩),.agg #[.string wd,v]] w (AnsO w0 w C Y aw cap zs V m 12 []):=by
 refine (an12_any hN hR hA).mono ?_
 rintro e w' ⟨he,hb⟩
 exact ⟨he,V,rfl,hA,hR.out hb (by omega)⟩
theorem ans13 (hN:IsNm wd 13) (hR:RW w0 w C Y aw cap zs V m) (hA:AX zs V) (hm:m<800000):Calls Tryz.prog 16 #[.pointer (some ⟨Y.xb,0,none⟩),.agg #[.string wd,v]] w (AnsO w0 w C Y aw cap zs V m 13 []):=by
 refine (an13_any hN hR (by omega)).mono ?_
 rintro e w' ⟨he,ho⟩
 exact ⟨he,_,rfl,delX_ax 3000 V m hA hR.inv (by omega),ho⟩
theorem ans14 (hN:IsNm wd 14) (hR:RW w0 w C Y aw cap zs V m) (hA:AX zs V) (hm:m<800000):Calls Tryz.prog 16 #[.pointer (some ⟨Y.xb,0,none⟩),.agg #[.string wd,v]] w (AnsO w0 w C Y aw cap zs V m 14 []):=by
 refine (an14_any hN hR (by omega)).mono ?_
 rintro e w' ⟨he,hb⟩
 exact ⟨he,V,rfl,hA,hR.out hb (by omega)⟩
theorem ans18 (hN:IsNm wd 18) (hR:RW w0 w C Y aw cap zs V m) (hA:AX zs V) (_hm:m<800000):Calls Tryz.prog 16 #[.pointer (some ⟨Y.xb,0,none⟩),.agg #[.string wd,v]] w (AnsO w0 w C Y aw cap zs V m 18 []):=by
 refine (an18_any hN hR hA).mono ?_
 rintro e w' ⟨he,hb⟩
 exact ⟨he,V,rfl,hA,hR.out hb (by omega)⟩
theorem ans17 {a:Int} (hN:IsNm wd 17) (hR:RW w0 w C Y aw cap zs V m) (hA:AX zs V) (_hm:m<800000) (hv:IsSl w0 v [a]) (ha:0≤a):Calls Tryz.prog 16 #[.pointer (some ⟨Y.xb,0,none⟩),.agg #[.string wd,v]] w (AnsO w0 w C Y aw cap zs V m 17 [a]):=by
 obtain ⟨g,o,c,rfl,h0,hg⟩:=sl_one hv
 obtain ⟨s,rfl⟩:=Int.eq_ofNat_of_zero_le ha
 have e0:=cell_later hR.bel h0
 by_cases hs:(s:Int)<zs.length
 ·refine (an17_ok hN hR e0 (by omega)).mono ?_
  rintro e w' ⟨he,hb⟩
  refine ⟨?_,V,rfl,hA,hR.out hb (by omega)⟩
  rw [he]
  show Ending.returned (.string (bB (if upN (V.nd s)=true then [117,112] else [100,111,119,110])))=Ending.returned (.string (bB (sayO (if (s:Int)<zs.length then (0,if upN (V.nd ((s:Int)).toNat)=true then [117,112] else [100,111,119,110]) else (2,[])))))
  rw [if_pos hs,Int.toNat_natCast]
  rfl
 ·refine (an17_no hN hR e0 hs).mono ?_
  rintro e w' ⟨he,hb⟩
  refine ⟨?_,V,rfl,hA,hR.out hb (by omega)⟩
  rw [he]
  show Ending.returned (.string (bB (errO 2)))=Ending.returned (.string (bB (sayO (if (s:Int)<zs.length then (0,if upN (V.nd ((s:Int)).toNat)=true then [117,112] else [100,111,119,110]) else (2,[])))))
  rw [if_neg hs]
  rfl
theorem ans16 {a b:Int} (hN:IsNm wd 16) (hR:RW w0 w C Y aw cap zs V m) (hA:AX zs V) (_hm:m<800000) (hv:IsSl w0 v [a,b]) (ha:0≤a) (hb:0≤b):Calls Tryz.prog 16 #[.pointer (some ⟨Y.xb,0,none⟩),.agg #[.string wd,v]] w (AnsO w0 w C Y aw cap zs V m 16 [a,b]):=by
 obtain ⟨g,o,c,rfl,h0,h1,hg⟩:=sl_two hv
 obtain ⟨s,rfl⟩:=Int.eq_ofNat_of_zero_le ha
 obtain ⟨d,rfl⟩:=Int.eq_ofNat_of_zero_le hb
 have e0:=cell_later hR.bel h0
 have e1:=cell_later hR.bel h1
 by_cases hs:(s:Int)<zs.length
 ·by_cases hd:(d:Int)<6
  ·refine (an16_ok hN hR e0 e1 (by omega) (by omega)).mono ?_
   rintro e w' ⟨he,hb⟩
   refine ⟨?_,V,rfl,hA,hR.out hb (by omega)⟩
   rw [he]
   show Ending.returned (.string (leadT (V.nd s) d))=Ending.returned (.string (bB (sayO (if (s:Int)<zs.length∧(d:Int)<6 then (0,(leadT (V.nd ((s:Int)).toNat) ((d:Int)).toNat).data.toList) else (2,[])))))
   rw [if_pos ⟨hs,hd⟩,Int.toNat_natCast,Int.toNat_natCast]
   rfl
  ·refine (an16_far hN hR e0 e1 (by omega) hd).mono ?_
   rintro e w' ⟨he,hb⟩
   refine ⟨?_,V,rfl,hA,hR.out hb (by omega)⟩
   rw [he]
   show Ending.returned (.string (bB (errO 2)))=Ending.returned (.string (bB (sayO (if (s:Int)<zs.length∧(d:Int)<6 then (0,(leadT (V.nd ((s:Int)).toNat) ((d:Int)).toNat).data.toList) else (2,[])))))
   rw [if_neg (fun q=>hd q.2)]
   rfl
 ·refine (an16_no hN hR e0 hs).mono ?_
  rintro e w' ⟨he,hb⟩
  refine ⟨?_,V,rfl,hA,hR.out hb (by omega)⟩
  rw [he]
  show Ending.returned (.string (bB (errO 2)))=Ending.returned (.string (bB (sayO (if (s:Int)<zs.length∧(d:Int)<6 then (0,(leadT (V.nd ((s:Int)).toNat) ((d:Int)).toNat).data.toList) else (2,[])))))
  rw [if_neg (fun q=>hs q.1)]
  rfl
theorem ans15 {a b:Int} (hN:IsNm wd 15) (hR:RW w0 w C Y aw cap zs V m) (hA:AX zs V) (_hm:m<800000) (hv:IsSl w0 v [a,b]) (ha:0≤a) (hb:0≤b):Calls Tryz.prog 16 #[.pointer (some ⟨Y.xb,0,none⟩),.agg #[.string wd,v]] w (AnsO w0 w C Y aw cap zs V m 15 [a,b]):=by
 obtain ⟨g,o,c,rfl,h0,h1,hg⟩:=sl_two hv
 obtain ⟨s,rfl⟩:=Int.eq_ofNat_of_zero_le ha
 obtain ⟨d,rfl⟩:=Int.eq_ofNat_of_zero_le hb
 have e0:=cell_later hR.bel h0
 have e1:=cell_later hR.bel h1
 by_cases hs:(s:Int)<zs.length
 ·by_cases hd:(d:Int)<6
  ·refine (an15_ok hN hR e0 e1 (by omega) (by omega) (show stN (V.nd s) d=⟨(stN (V.nd s) d).ph,(stN (V.nd s) d).pr,(stN (V.nd s) d).at_⟩ from rfl)).mono ?_
   rintro e w' ⟨he,hb⟩
   refine ⟨?_,V,rfl,hA,hR.out hb (by omega)⟩
   rw [he]
   show Ending.returned (.string (bB (stateO (stN (V.nd s) d).ph (stN (V.nd s) d).pr (stN (V.nd s) d).at_)))=Ending.returned (.string (bB (sayO (if (s:Int)<zs.length∧(d:Int)<6 then (0,stateO (stN (V.nd ((s:Int)).toNat) ((d:Int)).toNat).ph (stN (V.nd ((s:Int)).toNat) ((d:Int)).toNat).pr (stN (V.nd ((s:Int)).toNat) ((d:Int)).toNat).at_) else (2,[])))))
   rw [if_pos ⟨hs,hd⟩,Int.toNat_natCast,Int.toNat_natCast]
   rfl
  ·refine (an15_far hN hR e0 e1 (by omega) hd).mono ?_
   rintro e w' ⟨he,hb⟩
   refine ⟨?_,V,rfl,hA,hR.out hb (by omega)⟩
   rw [he]
   show Ending.returned (.string (bB (errO 2)))=Ending.returned (.string (bB (sayO (if (s:Int)<zs.length∧(d:Int)<6 then (0,stateO (stN (V.nd ((s:Int)).toNat) ((d:Int)).toNat).ph (stN (V.nd ((s:Int)).toNat) ((d:Int)).toNat).pr (stN (V.nd ((s:Int)).toNat) ((d:Int)).toNat).at_) else (2,[])))))
   rw [if_neg (fun q=>hd q.2)]
   rfl
 ·refine (an15_no hN hR e0 hs).mono ?_
  rintro e w' ⟨he,hb⟩
  refine ⟨?_,V,rfl,hA,hR.out hb (by omega)⟩
  rw [he]
  show Ending.returned (.string (bB (errO 2)))=Ending.returned (.string (bB (sayO (if (s:Int)<zs.length∧(d:Int)<6 then (0,stateO (stN (V.nd ((s:Int)).toNat) ((d:Int)).toNat).ph (stN (V.nd ((s:Int)).toNat) ((d:Int)).toNat).pr (stN (V.nd ((s:Int)).toNat) ((d:Int)).toNat).at_) else (2,[])))))
  rw [if_neg (fun q=>hs q.1)]
  rfl
theorem ans_any {i:Nat} {ns:List Int} (hc:cmdO wd.data.toList=some i) (h0:i≠0) (hm0:manyO i ns) (hf:fitO (lformO.getD i []) 0 ns) (hR:RW w0 w C Y aw cap zs V m) (hA:AX zs V) (hm:m<800000) (hv:IsSl w0 v ns) :
  Calls Tryz.prog 16 #[.pointer (some ⟨Y.xb,0,none⟩),.agg #[.string wd,v]] w (AnsO w0 w C Y aw cap zs V m i ns):=by
 have hi:=(cmdO_lt hc).1
 have hN:=isNm_of hc
 unfold manyO at hm0
 rw [if_neg h0] at hm0
 have h99:∀ (f:Bs) (j:Nat),capO f j≤99999:=fun f j=>by unfold capO; split <;> omega
 have hc19:i=1 ∨ i=2 ∨ i=3 ∨ i=4 ∨ i=5 ∨ i=6 ∨ i=7 ∨ i=8 ∨ i=9 ∨ i=10 ∨ i=11 ∨ i=12 ∨ i=13 ∨ i=14 ∨ i=15 ∨ i=16 ∨ i=17 ∨ i=18:=by omega
 have two:ns.length=2→∃ a b,ns=[a,b]:=fun h=>by
  match ns,h with
  | [a,b],_=>exact ⟨a,b,rfl⟩
 have one:ns.length=1→∃ a,ns=[a]:=fun h=>by
  match ns,h with
  | [a],_=>exact ⟨a,rfl⟩
 have nil:ns.length=0→ns=[]:=fun h=>List.length_eq_zero_iff.1 h
 rcases hc19 with rfl|rfl|rfl|rfl|rfl|rfl|rfl|rfl|rfl|rfl|rfl|rfl|rfl|rfl|rfl|rfl|rfl|rfl
 ·obtain ⟨a,b,rfl⟩:=two hm0
  obtain ⟨⟨a1,-⟩,hf2⟩:=fit_cons.1 hf
  obtain ⟨⟨b1,b2⟩,-⟩:=fit_cons.1 hf2
  exact ans1 hN hR hA hm hv a1 b1 (Int.le_trans b2 (h99 _ _))
 ·obtain ⟨a,b,rfl⟩:=two hm0
  obtain ⟨⟨a1,-⟩,hf2⟩:=fit_cons.1 hf
  obtain ⟨⟨b1,b2⟩,-⟩:=fit_cons.1 hf2
  exact ans2 hN hR hA hm hv a1 b1 (Int.le_trans b2 (h99 _ _))
 ·obtain ⟨a,rfl⟩:=one hm0
  obtain ⟨⟨a1,-⟩,-⟩:=fit_cons.1 hf
  exact ans3 hN hR hA hm hv a1
 ·obtain ⟨a,rfl⟩:=one hm0
  obtain ⟨⟨a1,-⟩,-⟩:=fit_cons.1 hf
  exact ans4 hN hR hA hm hv a1
 ·obtain ⟨a,rfl⟩:=one hm0
  obtain ⟨⟨a1,-⟩,-⟩:=fit_cons.1 hf
  exact ans5 hN hR hA hm hv a1
 ·obtain ⟨a,rfl⟩:=one hm0
  obtain ⟨⟨a1,-⟩,-⟩:=fit_cons.1 hf
  exact ans6 hN hR hA hm hv a1
 ·obtain ⟨a,b,rfl⟩:=two hm0
  obtain ⟨⟨a1,-⟩,hf2⟩:=fit_cons.1 hf
  obtain ⟨⟨b1,b2⟩,-⟩:=fit_cons.1 hf2
  exact ans7 hN hR hA hm hv a1 b1 (Int.le_trans b2 (h99 _ _))
 ·obtain ⟨a,b,rfl⟩:=two hm0
  obtain ⟨⟨a1,-⟩,hf2⟩:=fit_cons.1 hf
  obtain ⟨⟨b1,b2⟩,-⟩:=fit_cons.1 hf2
  exact ans8 hN hR hA hm hv a1 b1 (Int.le_trans b2 (h99 _ _))
 ·obtain ⟨a,b,rfl⟩:=two hm0
  obtain ⟨⟨a1,-⟩,hf2⟩:=fit_cons.1 hf
  obtain ⟨⟨b1,b2⟩,-⟩:=fit_cons.1 hf2
  exact ans9 hN hR hA hm hv a1 b1 (Int.le_trans b2 (h99 _ _))
 ·obtain ⟨a,rfl⟩:=one hm0
  obtain ⟨⟨a1,-⟩,-⟩:=fit_cons.1 hf
  exact ans10 hN hR hA hm hv a1
 ·obtain ⟨a,rfl⟩:=one hm0
  obtain ⟨⟨a1,-⟩,-⟩:=fit_cons.1 hf
  exact ans11 hN hR hA hm hv a1
 ·obtain rfl:=nil hm0
  exact ans12 hN hR hA hm
 ·obtain rfl:=nil hm0
  exact ans13 hN hR hA hm
 ·obtain rfl:=nil hm0
  exact ans14 hN hR hA hm
 ·obtain ⟨a,b,rfl⟩:=two hm0
  obtain ⟨⟨a1,-⟩,hf2⟩:=fit_cons.1 hf
  obtain ⟨⟨b1,b2⟩,-⟩:=fit_cons.1 hf2
  exact ans15 hN hR hA hm hv a1 b1
 ·obtain ⟨a,b,rfl⟩:=two hm0
  obtain ⟨⟨a1,-⟩,hf2⟩:=fit_cons.1 hf
  obtain ⟨⟨b1,b2⟩,-⟩:=fit_cons.1 hf2
  exact ans16 hN hR hA hm hv a1 b1
 ·obtain ⟨a,rfl⟩:=one hm0
  obtain ⟨⟨a1,-⟩,-⟩:=fit_cons.1 hf
  exact ans17 hN hR hA hm hv a1
 ·obtain rfl:=nil hm0
  exact ans18 hN hR hA hm
end
end Go.Proofs.YtaehdgemkafinaaGreatDoor
