/-
  On the way to SAnewProof: P1 P2 P3 P4 P3b P5 P8P.
-/
import Derived.Test.YtaehdgemkafinaaGreatDoorBv3
import Derived.Test.YtaehdgemkafinaaGreatDoorBv1
import Derived.Laws.CopyRow
set_option maxHeartbeats 8000000
set_option maxRecDepth 100000
namespace Go.Proofs.YtaehdgemkafinaaGreatDoor
open Go.RowKit
def cellsB (B:ByteArray):Array Value:=(Lib.strCells B).toArray
theorem cellsB_size (B:ByteArray):(cellsB B).size=B.size:=by simp [cellsB,Lib.strCells_length]
theorem cellsB_at {B:ByteArray} {j:Nat} (h:j<B.size):(cellsB B)[j]? = some (.int .u8 ((B[j]'h).toNat:Int)):=by
 unfold cellsB
 rw [List.getElem?_toArray]
 exact strCells_at h
structure Pl (w:World) (p q:Nat) (B:ByteArray) (l:Int):Prop where
 ne:p≠q
 head:w.heap[p]? = some (.cells #[.slice (some ⟨q,0,none⟩) B.size B.size,.int .i64 l] 225 (0,0))
 row:w.heap[q]? = some (.cells (cellsB B) 5 (0,0))
theorem Pl.kept {S:Nat→Prop} {w w':World} {p q:Nat} {B:ByteArray} {l:Int} (h:Pl w p q B l) (k:Kept S w w') (hp:¬ S p) (hq:¬ S q):Pl w' p q B l:=⟨h.ne,k.row h.head hp,k.row h.row hq⟩
theorem Pl.c0 {w:World} {p q:Nat} {B:ByteArray} {l:Int} (h:Pl w p q B l):w.cell? ⟨p,0,none⟩=some (.slice (some ⟨q,0,none⟩) B.size B.size):=by rw [cell_of_row w p 0 _ _ _ h.head]; rfl
theorem Pl.c1 {w:World} {p q:Nat} {B:ByteArray} {l:Int} (h:Pl w p q B l):w.cell? ⟨p,1,none⟩=some (.int .i64 l):=by rw [cell_of_row w p 1 _ _ _ h.head]; rfl
theorem Pl.f1 {w:World} {p q:Nat} {B:ByteArray} {l:Int} (h:Pl w p q B l):w.frozen? ⟨p,1,none⟩=false:=frozen_of_row w p 1 _ _ h.head
theorem Pl.set {w:World} {p q:Nat} {B:ByteArray} {l:Int} (h:Pl w p q B l) (l':Int):Pl (w.setCell ⟨p,1,none⟩ (.int .i64 l')) p q B l' :=
 ⟨h.ne,by rw [heap_setCell_same w p 1 _ _ _ h.head]; rfl,by rw [heap_setCell_other w _ q _ (Ne.symm h.ne)]; exact h.row⟩
theorem Pl.drew {w:World} {p q:Nat} {B:ByteArray} {l:Int} (h:Pl w p q B l):Pl w.drew p q B l:=⟨h.ne,h.head,h.row⟩
def In2 (p q:Nat) (k:Nat):Prop:=k=p ∨ k=q
theorem kept_set {w:World} (p q:Nat) (v:Value):Kept (In2 p q) w (w.setCell ⟨p,1,none⟩ v):=(Kept.refl _ w).setCell (.inl rfl) v
theorem power_any (p q:Nat) (B:ByteArray) (l:Int) (w:World) (h:Pl w p q B l) :
  Calls Tryz.prog 112 #[.pointer (some ⟨p,0,none⟩)] w fun e w'=>e=.returned (.bool (l != -2))∧w'=w:=by
 have c1:=h.c1
 clear h
 go_enter Tryz.func112,Tryz.ntmps112
 go_wp2
 go_ret
 exact ⟨rfl,rfl⟩
theorem pon_any (p q:Nat) (B:ByteArray) (l:Int) (w:World) (h:Pl w p q B l) :
  Calls Tryz.prog 122 #[.pointer (some ⟨p,0,none⟩)] w fun e w'=>e=.returned (.tuple #[])∧Pl w' p q B (-1)∧Kept (In2 p q) w w':=by
 have c1:=h.c1
 have f1:=h.f1
 have H:=hid (h.set (-1))
 clear h
 go_enter Tryz.func122,Tryz.ntmps122
 go_wp2
 go_end0
 exact ⟨rfl,H.out,kept_set p q _⟩
theorem poff_any (p q:Nat) (B:ByteArray) (l:Int) (w:World) (h:Pl w p q B l) :
  Calls Tryz.prog 124 #[.pointer (some ⟨p,0,none⟩)] w fun e w'=>e=.returned (.tuple #[])∧Pl w' p q B (-2)∧Kept (In2 p q) w w':=by
 have c1:=h.c1
 have f1:=h.f1
 have H:=hid (h.set (-2))
 clear h
 go_enter Tryz.func124,Tryz.ntmps124
 go_wp2
 go_end0
 exact ⟨rfl,H.out,kept_set p q _⟩
theorem Held9.g1 {w:World} {A:Nat→Addr} (h:Held9 w A):w.cell? ⟨0,0,none⟩=some (.iface 318 (.pointer (some (A 1)))):=h.var 1 (by decide)
theorem Held9.g5 {w:World} {A:Nat→Addr} (h:Held9 w A):w.cell? ⟨5,0,none⟩=some (.iface 318 (.pointer (some (A 5)))):=h.var 5 (by decide)
structure HeldE (w:World) (A:Nat→Addr):Prop where
 g1:w.cell? ⟨0,0,none⟩=some (.iface 318 (.pointer (some (A 1))))
 g2:w.cell? ⟨2,0,none⟩=some (.iface 318 (.pointer (some (A 2))))
 g4:w.cell? ⟨4,0,none⟩=some (.iface 318 (.pointer (some (A 4))))
 g5:w.cell? ⟨5,0,none⟩=some (.iface 318 (.pointer (some (A 5))))
theorem HeldE.later {w w':World} {A:Nat→Addr} (h:HeldE w A) (hb:Below w.heap.size w w'):HeldE w' A:=⟨cell_later hb h.g1,cell_later hb h.g2,cell_later hb h.g4,cell_later hb h.g5⟩
theorem Held9.toE {w:World} {A:Nat→Addr} (h:Held9 w A):HeldE w A:=⟨h.var 1 (by decide),h.var 2 (by decide),h.var 4 (by decide),h.var 5 (by decide)⟩
theorem pcheck_bound (A:Nat→Addr) (p q:Nat) (B:ByteArray) (l a n:Int) (w:World) (h:Pl w p q B l) (hE:HeldE w A) (hB:B.size≤1000) (hn:n≤9223372036854775807) (hb:a<0 ∨ n<0 ∨ (B.size:Int) - n<a) :
  Calls Tryz.prog 224 #[.pointer (some ⟨p,0,none⟩),.int .i64 a,.int .i64 n] w fun e w'=>e=.returned (.iface 318 (.pointer (some (A 1))))∧w'=w:=by
 have c0:=h.c0
 have g1:=hE.g1
 clear h hE
 by_cases h1:a<0
 ·clear hb
  go_enter Tryz.func224,Tryz.ntmps224
  go_wp2
  go_ret
  exact ⟨rfl,rfl⟩
 ·by_cases h2:n<0
  ·clear hb
   go_enter Tryz.func224,Tryz.ntmps224
   go_wp2
   go_ret
   exact ⟨rfl,rfl⟩
  ·have h3:(B.size:Int) - n<a:=by omega
   clear hb
   go_enter Tryz.func224,Tryz.ntmps224
   go_wp2
   go_ret
   exact ⟨rfl,rfl⟩
theorem pcheck_in (A:Nat→Addr) (p q:Nat) (B:ByteArray) (l a n:Int) (w:World) (h:Pl w p q B l) (hE:HeldE w A) (hB:B.size≤1000) (hb:¬ (a<0 ∨ n<0 ∨ (B.size:Int) - n<a)) :
  Calls Tryz.prog 224 #[.pointer (some ⟨p,0,none⟩),.int .i64 a,.int .i64 n] w fun e w'=>e=.returned (if l=-2 then .iface 318 (.pointer (some (A 5))) else .nilIface)∧w'=w:=by
 have H:=hid h
 have c0:=h.c0
 have g5:=hE.g5
 have h1:¬ a<0:=fun g=>hb (.inl g)
 have h2:¬ n<0:=fun g=>hb (.inr (.inl g))
 have h3:¬ (B.size:Int) - n<a:=fun g=>hb (.inr (.inr g))
 clear h hE hb
 by_cases hl:l=-2
 ·subst hl
  go_enter Tryz.func224,Tryz.ntmps224
  go_wp2_with (go_at_call 112; refine (power_any p q B _ _ H.out).mono ?_; rintro e w' ⟨rfl,rfl⟩)
  go_ret
  exact ⟨rfl,rfl⟩
 ·rw [if_neg hl]
  have hl':(l != -2)=true:=by simpa using hl
  clear hl
  go_enter Tryz.func224,Tryz.ntmps224
  go_wp2_with (go_at_call 112; refine (power_any p q B _ _ H.out).mono ?_; rintro e w' ⟨rfl,rfl⟩)
  go_ret
  exact ⟨rfl,rfl⟩
theorem pspend_zero (p q:Nat) (B:ByteArray) (w:World) (h:Pl w p q B 0) :
  Calls Tryz.prog 265 #[.pointer (some ⟨p,0,none⟩)] w fun e w'=>e=.returned (.bool false)∧Pl w' p q B (-2)∧Kept (In2 p q) w w':=by
 have H:=hid h
 have c1:=h.c1
 clear h
 go_enter Tryz.func265,Tryz.ntmps265
 go_wp2_with (go_at_call 124; refine (poff_any p q B _ _ H.out).mono ?_; rintro e w' ⟨rfl,h1,h2⟩)
 go_ret
 exact ⟨rfl,h1,h2⟩
theorem pspend_pos (p q:Nat) (B:ByteArray) (l:Int) (w:World) (h:Pl w p q B l) (h0:0<l) (h1:l≤9223372036854775807) :
  Calls Tryz.prog 265 #[.pointer (some ⟨p,0,none⟩)] w fun e w'=>e=.returned (.bool true)∧Pl w' p q B (l - 1)∧Kept (In2 p q) w w':=by
 have c1:=h.c1
 have f1:=h.f1
 have H:=hid (h.set (l - 1))
 clear h
 go_enter Tryz.func265,Tryz.ntmps265
 go_wp2
 go_ret
 exact ⟨rfl,H.out,kept_set p q _⟩
theorem pspend_neg (p q:Nat) (B:ByteArray) (l:Int) (w:World) (h:Pl w p q B l) (h0:l<0) :
  Calls Tryz.prog 265 #[.pointer (some ⟨p,0,none⟩)] w fun e w'=>e=.returned (.bool true)∧w'=w:=by
 have c1:=h.c1
 clear h
 go_enter Tryz.func265,Tryz.ntmps265
 go_wp2
 go_ret
 exact ⟨rfl,rfl⟩
theorem pcut_bound (A:Nat→Addr) (v:Value) (n:Int) (w:World) (hE:HeldE w A) (hn:n<0) :
  Calls Tryz.prog 120 #[v,.int .i64 n] w fun e w'=>e=.returned (.iface 318 (.pointer (some (A 1))))∧w'=w:=by
 have g1:=hE.g1
 clear hE
 go_enter Tryz.func120,Tryz.ntmps120
 go_wp2
 go_ret
 exact ⟨rfl,rfl⟩
theorem pcut_off (A:Nat→Addr) (p q:Nat) (B:ByteArray) (n:Int) (w:World) (h:Pl w p q B (-2)) (hE:HeldE w A) (hn:¬ n<0) :
  Calls Tryz.prog 120 #[.pointer (some ⟨p,0,none⟩),.int .i64 n] w fun e w'=>e=.returned (.iface 318 (.pointer (some (A 5))))∧w'=w:=by
 have H:=hid h
 have g5:=hE.g5
 clear hE h
 go_enter Tryz.func120,Tryz.ntmps120
 go_wp2_with (go_at_call 112; refine (power_any p q B _ _ H.out).mono ?_; rintro e w' ⟨rfl,rfl⟩)
 go_ret
 exact ⟨rfl,rfl⟩
theorem pcut_ok (p q:Nat) (B:ByteArray) (l n:Int) (w:World) (h:Pl w p q B l) (hl:¬ l=-2) (hn:¬ n<0) :
  Calls Tryz.prog 120 #[.pointer (some ⟨p,0,none⟩),.int .i64 n] w fun e w'=>e=.returned .nilIface∧Pl w' p q B n∧Kept (In2 p q) w w':=by
 have H:=hid h
 have c1:=h.c1
 have f1:=h.f1
 have H2:=hid (h.set n)
 have hl':(l != -2)=true:=by simpa using hl
 clear h hl
 go_enter Tryz.func120,Tryz.ntmps120
 go_wp2_with (go_at_call 112; refine (power_any p q B _ _ H.out).mono ?_; rintro e w' ⟨rfl,rfl⟩)
 go_ret
 exact ⟨rfl,H2.out,kept_set p q _⟩
def zeroB (n:Nat):ByteArray:=⟨(List.replicate n 0).toArray⟩
theorem zeroB_size (n:Nat):(zeroB n).size=n:=by rw [size_list]; simp [zeroB]
theorem Tryz.infoB:(Tryz.prog.info? 5).map (fun i=>(i.zero,i.size,i.bytes))=some (some (.int .u8 0),1,1):=by kernel_rfl
theorem made_zero (n:Nat):madeCells (Value.int .u8 0).cells n=cellsB (zeroB n):=by
 apply Array.ext'
 rw [show (Value.int .u8 0).cells=#[.int .u8 0] from rfl,toList_madeCells_one]
 simp [cellsB,Lib.strCells,zeroB]
theorem mkB (n:Nat) (h:n≤1000) (w:World):(Instr.makeSlice 60 (.int .i64 n) (.int .i64 n)).run Tryz.prog w=.ok (.slice (some ⟨w.heap.size,0,none⟩) n n) (w.alloc (.cells (cellsB (zeroB n)) 5)):=by
 obtain ⟨i0,hi,hz0,hz1,hz2⟩:=info_parts Tryz.infoB
 have hr:=run_make (P:=Tryz.prog) w 60 5 i0 _ Tryz.underlying60 hi hz0 .i64 .i64 n n (by omega) (Int.le_refl _) (by rw [hz2]; omega) (by omega)
 simp only [Int.toNat_natCast,hz1,Nat.mul_one,made_zero] at hr
 exact hr
theorem pl_new (w:World) (n:Nat):Pl ((w.alloc (.cells (cellsB (zeroB n)) 5)).alloc (.cells #[.slice (some ⟨w.heap.size,0,none⟩) n n,.int .i64 (-1)] 225)) (w.heap.size+1) w.heap.size (zeroB n) (-1) :=
 ⟨by omega,by rw [heap_alloc2_new,zeroB_size],heap_alloc2_old w _ _⟩
theorem pnew_ok (n:Nat) (w:World) (h:n≤512) :
  Calls Tryz.prog 155 #[.int .i64 n] w fun e w'=>e=.returned (.tuple #[.pointer (some ⟨w.heap.size+1,0,none⟩),.nilIface])∧Pl w' (w.heap.size+1) w.heap.size (zeroB n) (-1)∧Below w.heap.size w w'∧w'.heap.size=w.heap.size+2:=by
 have hmk:=mkB n (by omega)
 have H:=hid (pl_new w n)
 go_enter Tryz.func155,Tryz.ntmps155
 go_wp2
 go_ret2
 exact ⟨rfl,H.out,((Below.refl _ _).alloc (Nat.le_refl _) _).alloc (by simp) _,by simp⟩
theorem Pl.put {w:World} {p q:Nat} {B s:ByteArray} {a k:Nat} {l:Int} (h:Pl w p q (putB B a s k) l) (ha:a+k<B.size) (hk:k<s.size) :
  Pl (w.setCell ⟨q,a+k,none⟩ (.int .u8 ((s[k]'hk).toNat:Int))) p q (putB B a s (k+1)) l:=by
 refine ⟨h.ne,?_,?_⟩
 ·rw [heap_setCell_other w _ p _ h.ne,h.head,size_putB (by omega) (by omega),size_putB (by omega) (by omega)]
 ·rw [heap_setCell_same w q (a+k) _ _ _ h.row]
  unfold cellsB
  rw [putB_succ ha hk]
theorem Pl.bytes {w:World} {p q:Nat} {B s:ByteArray} {a k:Nat} {l:Int} (h:Pl w p q (putB B a s k) l) (ha:a+k≤B.size) (hk:k≤s.size):w.cell? ⟨p,0,none⟩=some (.slice (some ⟨q,0,none⟩) B.size B.size):=by
 rw [h.c0,size_putB ha hk]
theorem Pl.cq {w:World} {p q:Nat} {B:ByteArray} {j:Nat} {l:Int} (h:Pl w p q B l) (hj:j<B.size):w.cell? ⟨q,j,none⟩=some (.int .u8 ((B[j]'hj).toNat:Int)):=by
 rw [cell_of_row w q j _ _ _ h.row,cellsB_at hj]
theorem Pl.fq {w:World} {p q:Nat} {B:ByteArray} {l:Int} (h:Pl w p q B l) (j:Nat):w.frozen? ⟨q,j,none⟩=false:=frozen_of_row w q j _ _ h.row
theorem pwrite_bound (A:Nat→Addr) (p q:Nat) (B s:ByteArray) (l a:Int) (w:World) (h:Pl w p q B l) (hE:HeldE w A) (hB:B.size≤1000) (hs:s.size≤1000) (hb:a<0 ∨ (B.size:Int) - s.size<a) :
  Calls Tryz.prog 258 #[.pointer (some ⟨p,0,none⟩),.int .i64 a,.string s] w fun e w'=>e=.returned (.iface 318 (.pointer (some (A 1))))∧w'=w:=by
 have H:=hid h
 have HE:=hid hE
 clear h hE
 go_enter Tryz.func258,Tryz.ntmps258
 go_wp2_with (go_at_call 224; refine (pcheck_bound A p q B l _ _ _ H.out HE.out hB (by omega) (by omega)).mono ?_; rintro e w' ⟨rfl,rfl⟩)
 go_ret
 exact ⟨rfl,rfl⟩
theorem pwrite_off (A:Nat→Addr) (p q:Nat) (B s:ByteArray) (a:Int) (w:World) (h:Pl w p q B (-2)) (hE:HeldE w A) (hB:B.size≤1000) (hs:s.size≤1000) (hb:¬ (a<0 ∨ (B.size:Int) - s.size<a)) :
  Calls Tryz.prog 258 #[.pointer (some ⟨p,0,none⟩),.int .i64 a,.string s] w fun e w'=>e=.returned (.iface 318 (.pointer (some (A 5))))∧w'=w:=by
 have H:=hid h
 have HE:=hid hE
 clear h hE
 go_enter Tryz.func258,Tryz.ntmps258
 go_wp2_with (go_at_call 224; refine (pcheck_in A p q B _ _ _ _ H.out HE.out hB (by omega)).mono ?_; rw [if_pos rfl]; rintro e w' ⟨rfl,rfl⟩)
 go_ret
 exact ⟨rfl,rfl⟩
theorem pwrite_free (A:Nat→Addr) (p q:Nat) (B s:ByteArray) (a:Nat) (l:Int) (w:World) (h:Pl w p q B l) (hE:HeldE w A) (hB:B.size≤1000) (ha:a+s.size≤B.size) (hl:l<0) (hl2:¬ l=-2) :
  Calls Tryz.prog 258 #[.pointer (some ⟨p,0,none⟩),.int .i64 a,.string s] w fun e w'=>e=.returned .nilIface∧Pl w' p q (putB B a s s.size) l∧Kept (In2 p q) w w':=by
 have H:=hid h
 have HE:=hid hE
 have HL:=hid hl2
 clear h hE hl2
 go_enter Tryz.func258,Tryz.ntmps258
 go_wp2_with (go_at_call 224; refine (pcheck_in A p q B _ _ _ _ H.out HE.out hB (by omega)).mono ?_; rw [if_neg HL.out]; rintro e wx ⟨rfl,hx⟩; subst wx)
 go_loopw [19] (fun i wr=>∃ k:Nat,k≤s.size∧i=.int .i64 k∧Pl wr p q (putB B a s k) l∧Kept (In2 p q) w wr) (fun i _=>s.size - (intOf i).toNat)
 case atStart=>exact ⟨0,Nat.zero_le _,rfl,by rw [putB_zero]; exact H.out,Kept.refl _ _⟩
 case round =>
  obtain ⟨k,hk,rfl,hP,hK⟩:=hrel
  have HP:=hid hP
  have HK:=hid hK
  clear hP hK
  by_cases hlt:k<s.size
  ·have c0:=HP.out.bytes (by omega) (by omega)
   have cq:=HP.out.cq (j:=a+k) (by rw [size_putB (by omega) (by omega)]; omega)
   have fq:=HP.out.fq (a+k)
   go_wp2_with (go_at_call 265; refine (pspend_neg p q _ l _ HP.out hl).mono ?_; rintro e wx ⟨rfl,hx⟩; subst wx)
   go_region
   all_goals go_wp2
   all_goals go_roundw
   case rel=>exact ⟨k+1,by omega,by go_num,(HP.out.put (by omega) hlt).drew,(HK.out.setCell (.inr rfl) _).drew⟩
   case measure=>simp [intOf]; omega
  ·obtain rfl:k=s.size:=by omega
   go_wp2
   go_ret
   exact ⟨rfl,HP.out,HK.out⟩
theorem run_copy_str {P:Program} {w:World} (dT sT ty elem:TypeId) (hu:P.underlying dT=some (.slice elem)) (hsz:(P.info? elem).map (·.size)=some 1)
  (g cap:Nat) (x:ByteArray) (cur:Array Value) (t:TypeId) (hg:w.heap[g]? = some (.cells cur t (0,0))) (hfit:cur.size=x.size) :
  (Builtin.copy_ #[dT,sT] ty #[.slice (some ⟨g,0,none⟩) x.size cap,.string x]).run P w=.ok (goInt x.size) (w.setRow g (cellsB x)):=by
 have hf:=Lib.run_firstCells_string (P:=P) w 1 x
 have hst:=run_storeCells_at P g 0 t (Lib.strCells x) 0 cur w hg (by rw [Lib.strCells_length]; omega) (Lib.strCells_oneCell x)
 rw [Lib.strCells_length] at hst
 have e:cur.toList.drop (0+0+x.size)=[]:=List.drop_eq_nil_of_le (by simp; omega)
 rw [e] at hst
 simp only [Nat.add_zero,List.take_zero,List.nil_append,List.append_nil] at hst
 cases hq:P.info? elem with
 | none=>simp [hq] at hsz
 | some i =>
  have hi:i.size=1:=by simpa [hq] using hsz
  simp [Builtin.copy_,run_underlying hu,Builtin.lenOf,sizeOf,typeInfo,hq,hi,hf,hst,cellsB]
theorem byteSize:(Tryz.prog.info? 5).map (·.size)=some 1:=by kernel_rfl
theorem Pl.row_set {w:World} {p q:Nat} {B s:ByteArray} {l:Int} (h:Pl w p q B l) (hs:s.size=B.size):Pl (w.setRow q (cellsB s)) p q s l :=
 ⟨h.ne,by rw [setRow_other w q p _ h.ne,h.head,hs],setRow_heap w q _ _ _ _ h.row⟩
theorem kept_setRow {w:World} (p q:Nat) (cs:Array Value):Kept (In2 p q) w (w.setRow q cs):=⟨rfl,rfl,rfl,by simp,fun k _ hk=>setRow_other w q k cs (fun e=>hk (.inr e))⟩
theorem pfrom_ok (s:ByteArray) (w:World) (h:s.size≤512) :
  Calls Tryz.prog 186 #[.string s] w fun e w'=>e=.returned (.tuple #[.pointer (some ⟨w.heap.size+1,0,none⟩),.nilIface])∧Pl w' (w.heap.size+1) w.heap.size s (-1)∧Below w.heap.size w w'∧w'.heap.size=w.heap.size+2:=by
 go_enter Tryz.func186,Tryz.ntmps186
 go_wp2_with (go_at_call 155; refine (pnew_ok _ _ h).mono ?_; rintro e w1 ⟨rfl,hP,hb,hsz⟩; have c0:=hP.c0; rw [zeroB_size] at c0; have hcp:=fun ty=>run_copy_str (P:=Tryz.prog) 60 9 ty 5 Tryz.underlying60 byteSize w.heap.size s.size s _ _ hP.row (by rw [cellsB_size,zeroB_size]))
 go_ret2
 exact ⟨rfl,hP.row_set (zeroB_size _).symm,Kept.below (kept_setRow (w.heap.size+1) w.heap.size _) hb.size (fun k hk=>by unfold In2 at hk; omega) hb,by simpa using hsz⟩
theorem conv_cut {w:World} {p q:Nat} {B:ByteArray} {l:Int} (h:Pl w p q B l) (o n cap:Nat) (hn:o+n≤B.size) :
  (convert 60 9 (.slice (some ⟨q,o,none⟩) n cap)).run Tryz.prog w=.ok (.string (B.extract o (o+n))) w:=by
 have hl:((B.extract o (o+n)).data.toList).length=n:=by
  rw [ext_list]
  rw [size_list] at hn
  simp only [List.length_take,List.length_drop]
  omega
 have:=run_convert_bytes_back (P:=Tryz.prog) w 60 9 5 ⟨q,o,none⟩ cap (B.extract o (o+n)).data.toList Tryz.underlying60 Tryz.underlying5 Tryz.underlying9 (fun j hj=>by
  rw [hl] at hj
  rw [Addr.add_lit,h.cq (by omega),getB (by omega)]
  congr 3
  simp only [ext_list,List.getElem_take,List.getElem_drop])
 rw [hl] at this
 rw [this]
theorem conv_all {w:World} {p q:Nat} {B:ByteArray} {l:Int} (h:Pl w p q B l) :
  (convert 60 9 (.slice (some ⟨q,0,none⟩) B.size B.size)).run Tryz.prog w=.ok (.string B) w:=by
 have:=conv_cut h 0 B.size B.size (by omega)
 rw [Nat.zero_add,show B.extract 0 B.size=B by simp] at this
 exact this
theorem pbytes_any (p q:Nat) (B:ByteArray) (l:Int) (w:World) (h:Pl w p q B l) :
  Calls Tryz.prog 187 #[.pointer (some ⟨p,0,none⟩)] w fun e w'=>e=.returned (.string B)∧w'=w:=by
 have c0:=h.c0
 have hc:=conv_all h
 clear h
 go_enter Tryz.func187,Tryz.ntmps187
 go_wp2
 go_ret
 exact ⟨rfl,rfl⟩
theorem pwrite_far (A:Nat→Addr) (p q:Nat) (B s:ByteArray) (a:Nat) (l:Int) (w:World) (h:Pl w p q B l) (hE:HeldE w A) (hB:B.size≤1000) (ha:a+s.size≤B.size) (hl:(s.size:Int)≤l) (hl2:l≤9223372036854775807) :
  Calls Tryz.prog 258 #[.pointer (some ⟨p,0,none⟩),.int .i64 a,.string s] w fun e w'=>e=.returned .nilIface∧Pl w' p q (putB B a s s.size) (l - s.size)∧Kept (In2 p q) w w':=by
 have H:=hid h
 have HE:=hid hE
 have HL:Hid (¬ l=-2):=by unfold Hid; omega
 clear h hE
 go_enter Tryz.func258,Tryz.ntmps258
 go_wp2_with (go_at_call 224; refine (pcheck_in A p q B _ _ _ _ H.out HE.out hB (by omega)).mono ?_; rw [if_neg HL.out]; rintro e wx ⟨rfl,hx⟩; subst wx)
 go_loopw [19] (fun i wr=>∃ k:Nat,k≤s.size∧i=.int .i64 k∧Pl wr p q (putB B a s k) (l - k)∧Kept (In2 p q) w wr) (fun i _=>s.size - (intOf i).toNat)
 case atStart=>exact ⟨0,Nat.zero_le _,rfl,by rw [putB_zero]; simpa using H.out,Kept.refl _ _⟩
 case round =>
  obtain ⟨k,hk,rfl,hP,hK⟩:=hrel
  have HP:=hid hP
  have HK:=hid hK
  clear hP hK
  by_cases hlt:k<s.size
  ·go_wp2_with (go_at_call 265; refine (pspend_pos p q _ (l - k) _ HP.out (by omega) (by omega)).mono ?_; rintro e w1 ⟨rfl,hP1,hK1⟩; have HP1:=hid hP1; have HK1:=hid hK1; clear hP1 hK1; have c0:=HP1.out.bytes (by omega) (by omega); have cq:=HP1.out.cq (j:=a+k) (by rw [size_putB (by omega) (by omega)]; omega); have fq:=HP1.out.fq (a+k))
   go_region
   all_goals go_wp2
   all_goals go_roundw
   case rel =>
    refine ⟨k+1,by omega,by go_num,?_,((HK.out.trans HK1.out).setCell (.inr rfl) _).drew⟩
    rw [show l - ((k+1:Nat):Int)=l - k - 1 by omega]
    exact (HP1.out.put (by omega) hlt).drew
   case measure=>simp [intOf]; omega
  ·obtain rfl:k=s.size:=by omega
   go_wp2
   go_ret
   exact ⟨rfl,HP.out,HK.out⟩
theorem pwrite_near (A:Nat→Addr) (p q:Nat) (B s:ByteArray) (a l:Nat) (w:World) (h:Pl w p q B l) (hE:HeldE w A) (hB:B.size≤1000) (ha:a+s.size≤B.size) (hl:l<s.size) (hp:5≠p) (hq:5≠q) :
  Calls Tryz.prog 258 #[.pointer (some ⟨p,0,none⟩),.int .i64 a,.string s] w fun e w'=>e=.returned (.iface 318 (.pointer (some (A 5))))∧Pl w' p q (putB B a s l) (-2)∧Kept (In2 p q) w w':=by
 have H:=hid h
 have HE:=hid hE
 have HL:Hid (¬ (l:Int)=-2):=by unfold Hid; omega
 have HG:Hid (∀ wx,Kept (In2 p q) w wx→wx.cell? ⟨5,0,none⟩=some (.iface 318 (.pointer (some (A 5))))):=fun wx hk=>by
  rw [World.cell?_of_block (w:=w) (hk.block 5 (cell_lt hE.g5) (fun e=>e.elim hp hq))]
  exact hE.g5
 clear h hE
 go_enter Tryz.func258,Tryz.ntmps258
 go_wp2_with (go_at_call 224; refine (pcheck_in A p q B _ _ _ _ H.out HE.out hB (by omega)).mono ?_; rw [if_neg HL.out]; rintro e wx ⟨rfl,hx⟩; subst wx)
 go_loopw [19] (fun i wr=>∃ k:Nat,k≤l∧i=.int .i64 k∧Pl wr p q (putB B a s k) (l - k)∧Kept (In2 p q) w wr) (fun i _=>l - (intOf i).toNat)
 case atStart=>exact ⟨0,Nat.zero_le _,rfl,by rw [putB_zero]; simpa using H.out,Kept.refl _ _⟩
 case round =>
  obtain ⟨k,hk,rfl,hP,hK⟩:=hrel
  have HP:=hid hP
  have HK:=hid hK
  clear hP hK
  have hks:k<s.size:=by omega
  by_cases hlt:k<l
  ·go_wp2_with (go_at_call 265; refine (pspend_pos p q _ (l - k) _ HP.out (by omega) (by omega)).mono ?_; rintro e w1 ⟨rfl,hP1,hK1⟩; have HP1:=hid hP1; have HK1:=hid hK1; clear hP1 hK1; have c0:=HP1.out.bytes (by omega) (by omega); have cq:=HP1.out.cq (j:=a+k) (by rw [size_putB (by omega) (by omega)]; omega); have fq:=HP1.out.fq (a+k))
   go_region
   all_goals go_wp2
   all_goals go_roundw
   case rel =>
    refine ⟨k+1,by omega,by go_num,?_,((HK.out.trans HK1.out).setCell (.inr rfl) _).drew⟩
    rw [show (l:Int) - ((k+1:Nat):Int)=l - k - 1 by omega]
    exact (HP1.out.put (by omega) hks).drew
   case measure=>simp [intOf]; omega
  ·obtain rfl:k=l:=by omega
   have HP0:Hid (Pl wr p q (putB B a s k) 0):=by have:=HP.out; rw [show (k:Int) - k=0 by omega] at this; exact this
   go_wp2_with (go_at_call 265; refine (pspend_zero p q _ _ HP0.out).mono ?_; rintro e w1 ⟨rfl,hP1,hK1⟩; have g5:=HG.out _ (HK.out.trans hK1); have HP1:=hid hP1; have HK1:=hid hK1; clear hP1 hK1)
   go_ret
   exact ⟨rfl,HP1.out,HK.out.trans HK1.out⟩
theorem pread_bound (A:Nat→Addr) (p q:Nat) (B:ByteArray) (l a n:Int) (w:World) (h:Pl w p q B l) (hE:HeldE w A) (hB:B.size≤1000) (hn:n≤9223372036854775807) (hb:a<0 ∨ n<0 ∨ (B.size:Int) - n<a) :
  Calls Tryz.prog 197 #[.pointer (some ⟨p,0,none⟩),.int .i64 a,.int .i64 n] w fun e w'=>e=.returned (.tuple #[.string ⟨#[]⟩,.iface 318 (.pointer (some (A 1)))])∧w'=w:=by
 have H:=hid h
 have HE:=hid hE
 have HB:=hid hb
 clear h hE hb
 go_enter Tryz.func197,Tryz.ntmps197
 go_wp2_with (go_at_call 224; refine (pcheck_bound A p q B l _ _ _ H.out HE.out hB hn HB.out).mono ?_; rintro e w' ⟨rfl,rfl⟩)
 go_ret2
 exact ⟨rfl,rfl⟩
theorem pread_off (A:Nat→Addr) (p q:Nat) (B:ByteArray) (a n:Int) (w:World) (h:Pl w p q B (-2)) (hE:HeldE w A) (hB:B.size≤1000) (hb:¬ (a<0 ∨ n<0 ∨ (B.size:Int) - n<a)) :
  Calls Tryz.prog 197 #[.pointer (some ⟨p,0,none⟩),.int .i64 a,.int .i64 n] w fun e w'=>e=.returned (.tuple #[.string ⟨#[]⟩,.iface 318 (.pointer (some (A 5)))])∧w'=w:=by
 have H:=hid h
 have HE:=hid hE
 have HB:=hid hb
 clear h hE hb
 go_enter Tryz.func197,Tryz.ntmps197
 go_wp2_with (go_at_call 224; refine (pcheck_in A p q B _ _ _ _ H.out HE.out hB HB.out).mono ?_; rw [if_pos rfl]; rintro e w' ⟨rfl,rfl⟩)
 go_ret2
 exact ⟨rfl,rfl⟩
theorem pread_ok (A:Nat→Addr) (p q:Nat) (B:ByteArray) (l:Int) (a n:Nat) (w:World) (h:Pl w p q B l) (hE:HeldE w A) (hB:B.size≤1000) (hl:¬ l=-2) (hb:a+n≤B.size) :
  Calls Tryz.prog 197 #[.pointer (some ⟨p,0,none⟩),.int .i64 a,.int .i64 n] w fun e w'=>e=.returned (.tuple #[.string (B.extract a (a+n)),.nilIface])∧w'=w:=by
 have H:=hid h
 have HE:=hid hE
 have HL:=hid hl
 have c0:=h.c0
 by_cases hc:a<B.size
 ·have hcv:=conv_cut h a n (B.size - a) hb
  clear h hE hl
  go_enter Tryz.func197,Tryz.ntmps197
  go_wp2_with (go_at_call 224; refine (pcheck_in A p q B _ _ _ _ H.out HE.out hB (by omega)).mono ?_; rw [if_neg HL.out]; rintro e w' ⟨rfl,rfl⟩)
  go_ret2
  exact ⟨rfl,rfl⟩
 ·obtain rfl:n=0:=by omega
  have hcv:=conv_cut h 0 0 0 (by omega)
  have e1:B.extract 0 (0+0)=ByteArray.empty:=by
   apply ba_ext; rw [ext_list]; simp
  have e2:B.extract a (a+0)=ByteArray.empty:=by
   apply ba_ext; rw [ext_list]; simp
  rw [e1] at hcv
  rw [e2]
  clear h hE hl e1 e2
  go_enter Tryz.func197,Tryz.ntmps197
  go_wp2_with (go_at_call 224; refine (pcheck_in A p q B _ _ _ _ H.out HE.out hB (by omega)).mono ?_; rw [if_neg HL.out]; rintro e w' ⟨rfl,rfl⟩)
  go_ret2
  exact ⟨rfl,rfl⟩
def Lk (l:Int) (off:Bool) (l':Int) (cuts:Bool):Prop :=
 (off=true∧l=-2) ∨ (off=false∧cuts=false∧l=-1) ∨ (off=false∧cuts=true∧l=l'∧0≤l∧l≤9223372036854775807)
abbrev wBad (B s:ByteArray) (a:Int):Prop:=a<0 ∨ (B.size:Int) - s.size<a
def wC (B s:ByteArray) (l a:Int):Nat:=if wBad B s a then 2 else if l=-2 then 6 else if 0≤l∧l<s.size then 6 else 0
def wB (B s:ByteArray) (l a:Int):ByteArray:=if wBad B s a then B else if l=-2 then B else if 0≤l∧l<s.size then putB B a.toNat s l.toNat else putB B a.toNat s s.size
def wL (B s:ByteArray) (l a:Int):Int:=if wBad B s a then l else if l=-2 then -2 else if 0≤l∧l<s.size then -2 else if l<0 then l else l - s.size
theorem wB_size (B s:ByteArray) (l a:Int):(wB B s l a).size=B.size:=by
 unfold wB
 split
 ·rfl
 ·rename_i h
  unfold wBad at h
  split
  ·rfl
  ·split
   ·rename_i h2; exact size_putB (by omega) (by omega)
   ·exact size_putB (by omega) (by omega)
theorem write_pl (A:Nat→Addr) (p q:Nat) (B s:ByteArray) (l a:Int) (w:World) (h:Pl w p q B l) (hE:HeldE w A) (hB:B.size≤1000) (hs:s.size≤1000) (h1:-2≤l) (h2:l≤9223372036854775807) (hp:5≠p) (hq:5≠q) :
  Calls Tryz.prog 258 #[.pointer (some ⟨p,0,none⟩),.int .i64 a,.string s] w fun e w'=>e=.returned (ev A (wC B s l a))∧Pl w' p q (wB B s l a) (wL B s l a)∧Kept (In2 p q) w w':=by
 by_cases hb:wBad B s a
 ·simp only [wC,wB,wL,if_pos hb]
  refine (pwrite_bound A p q B s l a w h hE hB hs hb).mono ?_
  rintro e w' ⟨rfl,rfl⟩
  exact ⟨rfl,h,Kept.refl _ _⟩
 ·by_cases hl:l=-2
  ·subst hl
   simp only [wC,wB,wL,if_neg hb,if_pos]
   refine (pwrite_off A p q B s a w h hE hB hs hb).mono ?_
   rintro e w' ⟨rfl,rfl⟩
   exact ⟨rfl,h,Kept.refl _ _⟩
  ·have hb':=hb
   unfold wBad at hb'
   obtain ⟨a',rfl⟩:∃ a':Nat,a=a':=⟨a.toNat,by omega⟩
   by_cases hn:0≤l∧l<s.size
   ·obtain ⟨l',rfl⟩:∃ l':Nat,l=l':=⟨l.toNat,by omega⟩
    simp only [wC,wB,wL,if_neg hb,if_neg hl,if_pos hn,Int.toNat_natCast]
    exact pwrite_near A p q B s a' l' w h hE hB (by omega) (by omega) hp hq
   ·simp only [wC,wB,wL,if_neg hb,if_neg hl,if_neg hn,Int.toNat_natCast]
    by_cases hl0:l<0
    ·rw [if_pos hl0]
     exact pwrite_free A p q B s a' l w h hE hB (by omega) hl0 hl
    ·rw [if_neg hl0]
     exact pwrite_far A p q B s a' l w h hE hB (by omega) (by omega) h2
def cC (l n:Int):Nat:=if n<0 then 2 else if l=-2 then 6 else 0
def cL (l n:Int):Int:=if n<0 then l else if l=-2 then l else n
theorem cut_pl (A:Nat→Addr) (p q:Nat) (B:ByteArray) (l n:Int) (w:World) (h:Pl w p q B l) (hE:HeldE w A) :
  Calls Tryz.prog 120 #[.pointer (some ⟨p,0,none⟩),.int .i64 n] w fun e w'=>e=.returned (ev A (cC l n))∧Pl w' p q B (cL l n)∧Kept (In2 p q) w w':=by
 by_cases hn:n<0
 ·simp only [cC,cL,if_pos hn]
  refine (pcut_bound A _ n w hE hn).mono ?_
  rintro e w' ⟨rfl,rfl⟩
  exact ⟨rfl,h,Kept.refl _ _⟩
 ·by_cases hl:l=-2
  ·subst hl
   simp only [cC,cL,if_neg hn,if_pos]
   refine (pcut_off A p q B n w h hE hn).mono ?_
   rintro e w' ⟨rfl,rfl⟩
   exact ⟨rfl,h,Kept.refl _ _⟩
  ·simp only [cC,cL,if_neg hn,if_neg hl]
   exact pcut_ok p q B l n w h hl hn
def rC (B:ByteArray) (l a n:Int):Nat:=if a<0 ∨ n<0 ∨ (B.size:Int) - n<a then 2 else if l=-2 then 6 else 0
theorem read_bad (A:Nat→Addr) (p q:Nat) (B:ByteArray) (l a n:Int) (c:Nat) (w:World) (h:Pl w p q B l) (hE:HeldE w A) (hB:B.size≤1000) (hn9:n≤9223372036854775807) (hc:rC B l a n=c+1) :
  Calls Tryz.prog 197 #[.pointer (some ⟨p,0,none⟩),.int .i64 a,.int .i64 n] w fun e w'=>e=.returned (.tuple #[.string ⟨#[]⟩,.iface 318 (.pointer (some (A c)))])∧w'=w:=by
 unfold rC at hc
 split at hc
 ·rename_i hb
  obtain rfl:c=1:=by omega
  exact pread_bound A p q B l a n w h hE hB hn9 hb
 ·rename_i hb
  split at hc
  ·rename_i hl
   subst hl
   obtain rfl:c=5:=by omega
   exact pread_off A p q B a n w h hE hB hb
  ·omega
end Go.Proofs.YtaehdgemkafinaaGreatDoor
