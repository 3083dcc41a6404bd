/-
  On the way to SActsProof: P3b P5 P8P.
-/
import Derived.Test.YtkopfpaldmapdaaDoorBs7
set_option maxHeartbeats 8000000
set_option maxRecDepth 100000
namespace Go.Proofs.YtkopfpaldmapdaaDoor
open Go.RowKit
theorem run_copy_str {P:Program} {w:World} (dT sT ty elem:TypeId) (hu:P.underlying dT=some (.slice elem)) (hsz:(P.info? elem).map (·.size)=some 1)
  (g cap:Nat) (x:ByteArray) (cur:Array Value) (t:TypeId) (hg:w.heap[g]? = some (.cells cur t (0,0))) (hfit:cur.size=x.size) :
  (Builtin.copy_ #[dT,sT] ty #[.slice (some ⟨g,0,none⟩) x.size cap,.string x]).run P w=.ok (goInt x.size) (w.setRow g (cellsB x)):=by
 have hf:=Lib.run_firstCells_string (P:=P) w 1 x
 have hst:=run_storeCells_at P g 0 t (Lib.strCells x) 0 cur w hg (by rw [Lib.strCells_length]; omega) (Lib.strCells_oneCell x)
 rw [Lib.strCells_length] at hst
 have e:cur.toList.drop (0+0+x.size)=[]:=List.drop_eq_nil_of_le (by simp; omega)
 rw [e] at hst
 simp only [Nat.add_zero,List.take_zero,List.nil_append,List.append_nil] at hst
 cases hq:P.info? elem with
 | none=>simp [hq] at hsz
 | some i =>
  have hi:i.size=1:=by simpa [hq] using hsz
  simp [Builtin.copy_,run_underlying hu,Builtin.lenOf,sizeOf,typeInfo,hq,hi,hf,hst,cellsB]
theorem byteSize:(Tryd.prog.info? 5).map (·.size)=some 1:=by kernel_rfl
theorem Pl.row_set {w:World} {p q:Nat} {B s:ByteArray} {l:Int} (h:Pl w p q B l) (hs:s.size=B.size):Pl (w.setRow q (cellsB s)) p q s l :=
 ⟨h.ne,by rw [setRow_other w q p _ h.ne,h.head,hs],setRow_heap w q _ _ _ _ h.row⟩
theorem kept_setRow {w:World} (p q:Nat) (cs:Array Value):Kept (In2 p q) w (w.setRow q cs):=⟨rfl,rfl,rfl,by simp,fun k _ hk=>setRow_other w q k cs (fun e=>hk (.inr e))⟩
theorem pfrom_ok (s:ByteArray) (w:World) (h:s.size≤512) :
  Calls Tryd.prog 17 #[.string s] w fun e w'=>e=.returned (.tuple #[.pointer (some ⟨w.heap.size+1,0,none⟩),.nilIface])∧Pl w' (w.heap.size+1) w.heap.size s (-1)∧Below w.heap.size w w'∧w'.heap.size=w.heap.size+2:=by
 go_enter Tryd.func17,Tryd.ntmps17
 go_wp2_with (go_at_call 9; refine (pnew_ok _ _ h).mono ?_; rintro e w1 ⟨rfl,hP,hb,hsz⟩; have c0:=hP.c0; rw [zeroB_size] at c0; have hcp:=fun ty=>run_copy_str (P:=Tryd.prog) 80 9 ty 5 Tryd.underlying80 byteSize w.heap.size s.size s _ _ hP.row (by rw [cellsB_size,zeroB_size]))
 go_ret2
 exact ⟨rfl,hP.row_set (zeroB_size _).symm,Kept.below (kept_setRow (w.heap.size+1) w.heap.size _) hb.size (fun k hk=>by unfold In2 at hk; omega) hb,by simpa using hsz⟩
theorem conv_cut {w:World} {p q:Nat} {B:ByteArray} {l:Int} (h:Pl w p q B l) (o n cap:Nat) (hn:o+n≤B.size) :
  (convert 80 9 (.slice (some ⟨q,o,none⟩) n cap)).run Tryd.prog w=.ok (.string (B.extract o (o+n))) w:=by
 have hl:((B.extract o (o+n)).data.toList).length=n:=by
  rw [ext_list]
  rw [size_list] at hn
  simp only [List.length_take,List.length_drop]
  omega
 have:=run_convert_bytes_back (P:=Tryd.prog) w 80 9 5 ⟨q,o,none⟩ cap (B.extract o (o+n)).data.toList Tryd.underlying80 Tryd.underlying5 Tryd.underlying9 (fun j hj=>by
  rw [hl] at hj
  rw [Addr.add_lit,h.cq (by omega),getB (by omega)]
  congr 3
  simp only [ext_list,List.getElem_take,List.getElem_drop])
 rw [hl] at this
 rw [this]
theorem conv_all {w:World} {p q:Nat} {B:ByteArray} {l:Int} (h:Pl w p q B l) :
  (convert 80 9 (.slice (some ⟨q,0,none⟩) B.size B.size)).run Tryd.prog w=.ok (.string B) w:=by
 have:=conv_cut h 0 B.size B.size (by omega)
 rw [Nat.zero_add,show B.extract 0 B.size=B by simp] at this
 exact this
theorem pbytes_any (p q:Nat) (B:ByteArray) (l:Int) (w:World) (h:Pl w p q B l) :
  Calls Tryd.prog 25 #[.pointer (some ⟨p,0,none⟩)] w fun e w'=>e=.returned (.string B)∧w'=w:=by
 have c0:=h.c0
 have hc:=conv_all h
 clear h
 go_enter Tryd.func25,Tryd.ntmps25
 go_wp2
 go_ret
 exact ⟨rfl,rfl⟩
theorem pwrite_far (A:Nat→Addr) (p q:Nat) (B s:ByteArray) (a:Nat) (l:Int) (w:World) (h:Pl w p q B l) (hE:HeldE w A) (hB:B.size≤1000) (ha:a+s.size≤B.size) (hl:(s.size:Int)≤l) (hl2:l≤9223372036854775807) :
  Calls Tryd.prog 91 #[.pointer (some ⟨p,0,none⟩),.int .i64 a,.string s] w fun e w'=>e=.returned .nilIface∧Pl w' p q (putB B a s s.size) (l - s.size)∧Kept (In2 p q) w w':=by
 have H:=hid h
 have HE:=hid hE
 have HL:Hid (¬ l=-2):=by unfold Hid; omega
 clear h hE
 go_enter Tryd.func91,Tryd.ntmps91
 go_wp2_with (go_at_call 87; refine (pcheck_in A p q B _ _ _ _ H.out HE.out hB (by omega)).mono ?_; rw [if_neg HL.out]; rintro e wx ⟨rfl,hx⟩; subst wx)
 go_loopw [19] (fun i wr=>∃ k:Nat,k≤s.size∧i=.int .i64 k∧Pl wr p q (putB B a s k) (l - k)∧Kept (In2 p q) w wr) (fun i _=>s.size - (intOf i).toNat)
 case atStart=>exact ⟨0,Nat.zero_le _,rfl,by rw [putB_zero]; simpa using H.out,Kept.refl _ _⟩
 case round =>
  obtain ⟨k,hk,rfl,hP,hK⟩:=hrel
  have HP:=hid hP
  have HK:=hid hK
  clear hP hK
  by_cases hlt:k<s.size
  ·go_wp2_with (go_at_call 106; refine (pspend_pos p q _ (l - k) _ HP.out (by omega) (by omega)).mono ?_; rintro e w1 ⟨rfl,hP1,hK1⟩; have HP1:=hid hP1; have HK1:=hid hK1; clear hP1 hK1; have c0:=HP1.out.bytes (by omega) (by omega); have cq:=HP1.out.cq (j:=a+k) (by rw [size_putB (by omega) (by omega)]; omega); have fq:=HP1.out.fq (a+k))
   go_region
   all_goals go_wp2
   all_goals go_roundw
   case rel =>
    refine ⟨k+1,by omega,by go_num,?_,((HK.out.trans HK1.out).setCell (.inr rfl) _).drew⟩
    rw [show l - ((k+1:Nat):Int)=l - k - 1 by omega]
    exact (HP1.out.put (by omega) hlt).drew
   case measure=>simp [intOf]; omega
  ·obtain rfl:k=s.size:=by omega
   go_wp2
   go_ret
   exact ⟨rfl,HP.out,HK.out⟩
theorem pwrite_near (A:Nat→Addr) (p q:Nat) (B s:ByteArray) (a l:Nat) (w:World) (h:Pl w p q B l) (hE:HeldE w A) (hB:B.size≤1000) (ha:a+s.size≤B.size) (hl:l<s.size) (hp:1≠p) (hq:1≠q) :
  Calls Tryd.prog 91 #[.pointer (some ⟨p,0,none⟩),.int .i64 a,.string s] w fun e w'=>e=.returned (.iface 189 (.pointer (some (A 5))))∧Pl w' p q (putB B a s l) (-2)∧Kept (In2 p q) w w':=by
 have H:=hid h
 have HE:=hid hE
 have HL:Hid (¬ (l:Int)=-2):=by unfold Hid; omega
 have HG:Hid (∀ wx,Kept (In2 p q) w wx→wx.cell? ⟨1,0,none⟩=some (.iface 189 (.pointer (some (A 5))))):=fun wx hk=>by
  rw [World.cell?_of_block (w:=w) (hk.block 1 (cell_lt hE.g5) (fun e=>e.elim hp hq))]
  exact hE.g5
 clear h hE
 go_enter Tryd.func91,Tryd.ntmps91
 go_wp2_with (go_at_call 87; refine (pcheck_in A p q B _ _ _ _ H.out HE.out hB (by omega)).mono ?_; rw [if_neg HL.out]; rintro e wx ⟨rfl,hx⟩; subst wx)
 go_loopw [19] (fun i wr=>∃ k:Nat,k≤l∧i=.int .i64 k∧Pl wr p q (putB B a s k) (l - k)∧Kept (In2 p q) w wr) (fun i _=>l - (intOf i).toNat)
 case atStart=>exact ⟨0,Nat.zero_le _,rfl,by rw [putB_zero]; simpa using H.out,Kept.refl _ _⟩
 case round =>
  obtain ⟨k,hk,rfl,hP,hK⟩:=hrel
  have HP:=hid hP
  have HK:=hid hK
  clear hP hK
  have hks:k<s.size:=by omega
  by_cases hlt:k<l
  ·go_wp2_with (go_at_call 106; refine (pspend_pos p q _ (l - k) _ HP.out (by omega) (by omega)).mono ?_; rintro e w1 ⟨rfl,hP1,hK1⟩; have HP1:=hid hP1; have HK1:=hid hK1; clear hP1 hK1; have c0:=HP1.out.bytes (by omega) (by omega); have cq:=HP1.out.cq (j:=a+k) (by rw [size_putB (by omega) (by omega)]; omega); have fq:=HP1.out.fq (a+k))
   go_region
   all_goals go_wp2
   all_goals go_roundw
   case rel =>
    refine ⟨k+1,by omega,by go_num,?_,((HK.out.trans HK1.out).setCell (.inr rfl) _).drew⟩
    rw [show (l:Int) - ((k+1:Nat):Int)=l - k - 1 by omega]
    exact (HP1.out.put (by omega) hks).drew
   case measure=>simp [intOf]; omega
  ·obtain rfl:k=l:=by omega
   have HP0:Hid (Pl wr p q (putB B a s k) 0):=by have:=HP.out; rw [show (k:Int) - k=0 by omega] at this; exact this
   go_wp2_with (go_at_call 106; refine (pspend_zero p q _ _ HP0.out).mono ?_; rintro e w1 ⟨rfl,hP1,hK1⟩; have g5:=HG.out _ (HK.out.trans hK1); have HP1:=hid hP1; have HK1:=hid hK1; clear hP1 hK1)
   go_ret
   exact ⟨rfl,HP1.out,HK.out.trans HK1.out⟩
theorem pread_bound (A:Nat→Addr) (p q:Nat) (B:ByteArray) (l a n:Int) (w:World) (h:Pl w p q B l) (hE:HeldE w A) (hB:B.size≤1000) (hn:n≤9223372036854775807) (hb:a<0 ∨ n<0 ∨ (B.size:Int) - n<a) :
  Calls Tryd.prog 57 #[.pointer (some ⟨p,0,none⟩),.int .i64 a,.int .i64 n] w fun e w'=>e=.returned (.tuple #[.string ⟨#[]⟩,.iface 189 (.pointer (some (A 1)))])∧w'=w:=by
 have H:=hid h
 have HE:=hid hE
 have HB:=hid hb
 clear h hE hb
 go_enter Tryd.func57,Tryd.ntmps57
 go_wp2_with (go_at_call 87; refine (pcheck_bound A p q B l _ _ _ H.out HE.out hB hn HB.out).mono ?_; rintro e w' ⟨rfl,rfl⟩)
 go_ret2
 exact ⟨rfl,rfl⟩
theorem pread_off (A:Nat→Addr) (p q:Nat) (B:ByteArray) (a n:Int) (w:World) (h:Pl w p q B (-2)) (hE:HeldE w A) (hB:B.size≤1000) (hb:¬ (a<0 ∨ n<0 ∨ (B.size:Int) - n<a)) :
  Calls Tryd.prog 57 #[.pointer (some ⟨p,0,none⟩),.int .i64 a,.int .i64 n] w fun e w'=>e=.returned (.tuple #[.string ⟨#[]⟩,.iface 189 (.pointer (some (A 5)))])∧w'=w:=by
 have H:=hid h
 have HE:=hid hE
 have HB:=hid hb
 clear h hE hb
 go_enter Tryd.func57,Tryd.ntmps57
 go_wp2_with (go_at_call 87; refine (pcheck_in A p q B _ _ _ _ H.out HE.out hB HB.out).mono ?_; rw [if_pos rfl]; rintro e w' ⟨rfl,rfl⟩)
 go_ret2
 exact ⟨rfl,rfl⟩
theorem pread_ok (A:Nat→Addr) (p q:Nat) (B:ByteArray) (l:Int) (a n:Nat) (w:World) (h:Pl w p q B l) (hE:HeldE w A) (hB:B.size≤1000) (hl:¬ l=-2) (hb:a+n≤B.size) :
  Calls Tryd.prog 57 #[.pointer (some ⟨p,0,none⟩),.int .i64 a,.int .i64 n] w fun e w'=>e=.returned (.tuple #[.string (B.extract a (a+n)),.nilIface])∧w'=w:=by
 have H:=hid h
 have HE:=hid hE
 have HL:=hid hl
 have c0:=h.c0
 by_cases hc:a<B.size
 ·have hcv:=conv_cut h a n (B.size - a) hb
  clear h hE hl
  go_enter Tryd.func57,Tryd.ntmps57
  go_wp2_with (go_at_call 87; refine (pcheck_in A p q B _ _ _ _ H.out HE.out hB (by omega)).mono ?_; rw [if_neg HL.out]; rintro e w' ⟨rfl,rfl⟩)
  go_ret2
  exact ⟨rfl,rfl⟩
 ·obtain rfl:n=0:=by omega
  have hcv:=conv_cut h 0 0 0 (by omega)
  have e1:B.extract 0 (0+0)=ByteArray.empty:=by
   apply ba_ext; rw [ext_list]; simp
  have e2:B.extract a (a+0)=ByteArray.empty:=by
   apply ba_ext; rw [ext_list]; simp
  rw [e1] at hcv
  rw [e2]
  clear h hE hl e1 e2
  go_enter Tryd.func57,Tryd.ntmps57
  go_wp2_with (go_at_call 87; refine (pcheck_in A p q B _ _ _ _ H.out HE.out hB (by omega)).mono ?_; rw [if_neg HL.out]; rintro e w' ⟨rfl,rfl⟩)
  go_ret2
  exact ⟨rfl,rfl⟩
def Lk (l:Int) (off:Bool) (l':Int) (cuts:Bool):Prop :=
 (off=true∧l=-2) ∨ (off=false∧cuts=false∧l=-1) ∨ (off=false∧cuts=true∧l=l'∧0≤l∧l≤9223372036854775807)
abbrev wBad (B s:ByteArray) (a:Int):Prop:=a<0 ∨ (B.size:Int) - s.size<a
def wC (B s:ByteArray) (l a:Int):Nat:=if wBad B s a then 2 else if l=-2 then 6 else if 0≤l∧l<s.size then 6 else 0
def wB (B s:ByteArray) (l a:Int):ByteArray:=if wBad B s a then B else if l=-2 then B else if 0≤l∧l<s.size then putB B a.toNat s l.toNat else putB B a.toNat s s.size
def wL (B s:ByteArray) (l a:Int):Int:=if wBad B s a then l else if l=-2 then -2 else if 0≤l∧l<s.size then -2 else if l<0 then l else l - s.size
theorem wC_le (B s:ByteArray) (l a:Int):wC B s l a≤9:=by
 unfold wC; repeat' split
 all_goals decide
theorem wB_size (B s:ByteArray) (l a:Int):(wB B s l a).size=B.size:=by
 unfold wB
 split
 ·rfl
 ·rename_i h
  unfold wBad at h
  split
  ·rfl
  ·split
   ·rename_i h2; exact size_putB (by omega) (by omega)
   ·exact size_putB (by omega) (by omega)
theorem write_pl (A:Nat→Addr) (p q:Nat) (B s:ByteArray) (l a:Int) (w:World) (h:Pl w p q B l) (hE:HeldE w A) (hB:B.size≤1000) (hs:s.size≤1000) (h1:-2≤l) (h2:l≤9223372036854775807) (hp:1≠p) (hq:1≠q) :
  Calls Tryd.prog 91 #[.pointer (some ⟨p,0,none⟩),.int .i64 a,.string s] w fun e w'=>e=.returned (ev A (wC B s l a))∧Pl w' p q (wB B s l a) (wL B s l a)∧Kept (In2 p q) w w':=by
 by_cases hb:wBad B s a
 ·simp only [wC,wB,wL,if_pos hb]
  refine (pwrite_bound A p q B s l a w h hE hB hs hb).mono ?_
  rintro e w' ⟨rfl,rfl⟩
  exact ⟨rfl,h,Kept.refl _ _⟩
 ·by_cases hl:l=-2
  ·subst hl
   simp only [wC,wB,wL,if_neg hb,if_pos]
   refine (pwrite_off A p q B s a w h hE hB hs hb).mono ?_
   rintro e w' ⟨rfl,rfl⟩
   exact ⟨rfl,h,Kept.refl _ _⟩
  ·have hb':=hb
   unfold wBad at hb'
   obtain ⟨a',rfl⟩:∃ a':Nat,a=a':=⟨a.toNat,by omega⟩
   by_cases hn:0≤l∧l<s.size
   ·obtain ⟨l',rfl⟩:∃ l':Nat,l=l':=⟨l.toNat,by omega⟩
    simp only [wC,wB,wL,if_neg hb,if_neg hl,if_pos hn,Int.toNat_natCast]
    exact pwrite_near A p q B s a' l' w h hE hB (by omega) (by omega) hp hq
   ·simp only [wC,wB,wL,if_neg hb,if_neg hl,if_neg hn,Int.toNat_natCast]
    by_cases hl0:l<0
    ·rw [if_pos hl0]
     exact pwrite_free A p q B s a' l w h hE hB (by omega) hl0 hl
    ·rw [if_neg hl0]
     exact pwrite_far A p q B s a' l w h hE hB (by omega) (by omega) h2
def cC (l n:Int):Nat:=if n<0 then 2 else if l=-2 then 6 else 0
def cL (l n:Int):Int:=if n<0 then l else if l=-2 then l else n
theorem cC_le (l n:Int):cC l n≤9:=by
 unfold cC; repeat' split
 all_goals decide
theorem cut_pl (A:Nat→Addr) (p q:Nat) (B:ByteArray) (l n:Int) (w:World) (h:Pl w p q B l) (hE:HeldE w A) :
  Calls Tryd.prog 12 #[.pointer (some ⟨p,0,none⟩),.int .i64 n] w fun e w'=>e=.returned (ev A (cC l n))∧Pl w' p q B (cL l n)∧Kept (In2 p q) w w':=by
 by_cases hn:n<0
 ·simp only [cC,cL,if_pos hn]
  refine (pcut_bound A _ n w hE hn).mono ?_
  rintro e w' ⟨rfl,rfl⟩
  exact ⟨rfl,h,Kept.refl _ _⟩
 ·by_cases hl:l=-2
  ·subst hl
   simp only [cC,cL,if_neg hn,if_pos]
   refine (pcut_off A p q B n w h hE hn).mono ?_
   rintro e w' ⟨rfl,rfl⟩
   exact ⟨rfl,h,Kept.refl _ _⟩
  ·simp only [cC,cL,if_neg hn,if_neg hl]
   exact pcut_ok p q B l n w h hl hn
def rC (B:ByteArray) (l a n:Int):Nat:=if a<0 ∨ n<0 ∨ (B.size:Int) - n<a then 2 else if l=-2 then 6 else 0
theorem read_bad (A:Nat→Addr) (p q:Nat) (B:ByteArray) (l a n:Int) (c:Nat) (w:World) (h:Pl w p q B l) (hE:HeldE w A) (hB:B.size≤1000) (hn9:n≤9223372036854775807) (hc:rC B l a n=c+1) :
  Calls Tryd.prog 57 #[.pointer (some ⟨p,0,none⟩),.int .i64 a,.int .i64 n] w fun e w'=>e=.returned (.tuple #[.string ⟨#[]⟩,.iface 189 (.pointer (some (A c)))])∧w'=w:=by
 unfold rC at hc
 split at hc
 ·rename_i hb
  obtain rfl:c=1:=by omega
  exact pread_bound A p q B l a n w h hE hB hn9 hb
 ·rename_i hb
  split at hc
  ·rename_i hl
   subst hl
   obtain rfl:c=5:=by omega
   exact pread_off A p q B a n w h hE hB hb
  ·omega
theorem coded_ev (A:Nat→Addr) (c:Nat) (w:World) (hE:Held9 w A) (hc:c≤9) :
  Calls Tryd.prog 19 #[ev A c,.int .i64 c] w fun e w'=>e=.returned (.bool true)∧Below w.heap.size w w':=by
 match c,hc with
 | 0,_ =>
  refine (coded_nil 0 w).mono ?_
  rintro e w' ⟨rfl,rfl⟩
  exact ⟨rfl,Below.refl _ _⟩
 | c+1,hc =>
  refine (coded_at A c _ w hE (by omega)).mono ?_
  rintro e w' ⟨rfl,hb⟩
  refine ⟨?_,hb⟩
  have:((c:Int)+1 == ((c+1:Nat):Int))=true:=by simp
  rw [this]
end Go.Proofs.YtkopfpaldmapdaaDoor
