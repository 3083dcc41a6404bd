/-
  On the way to SPlaysProof: P1 P2 P3 P4 P3b P5 P8P O1 O9 TD EA EB TK.
-/
import Derived.Test.YtaehdgemkafinaaGreatDoorBw2
import Derived.Test.YtaehdgemkafinaaGreatDoorBw1
import Derived.Test.YtaehdgemkafinaaGreatDoorShl
import Derived.Laws.CopyRow
import Derived.Lib.ItoaNum
import Derived.Lib.Split
import Derived.Lib.ItoaMem
import Derived.Lib.AppendIntMem
set_option maxHeartbeats 8000000
set_option maxRecDepth 100000
namespace Go.Proofs.YtaehdgemkafinaaGreatDoor
open Go.RowKit
def cellsB (B:ByteArray):Array Value:=(Lib.strCells B).toArray
theorem cellsB_size (B:ByteArray):(cellsB B).size=B.size:=by simp [cellsB,Lib.strCells_length]
theorem cellsB_at {B:ByteArray} {j:Nat} (h:j<B.size):(cellsB B)[j]? = some (.int .u8 ((B[j]'h).toNat:Int)):=by
 unfold cellsB
 rw [List.getElem?_toArray]
 exact strCells_at h
structure Pl (w:World) (p q:Nat) (B:ByteArray) (l:Int):Prop where
 ne:p≠q
 head:w.heap[p]? = some (.cells #[.slice (some ⟨q,0,none⟩) B.size B.size,.int .i64 l] 225 (0,0))
 row:w.heap[q]? = some (.cells (cellsB B) 5 (0,0))
theorem Pl.kept {S:Nat→Prop} {w w':World} {p q:Nat} {B:ByteArray} {l:Int} (h:Pl w p q B l) (k:Kept S w w') (hp:¬ S p) (hq:¬ S q):Pl w' p q B l:=⟨h.ne,k.row h.head hp,k.row h.row hq⟩
theorem Pl.c0 {w:World} {p q:Nat} {B:ByteArray} {l:Int} (h:Pl w p q B l):w.cell? ⟨p,0,none⟩=some (.slice (some ⟨q,0,none⟩) B.size B.size):=by rw [cell_of_row w p 0 _ _ _ h.head]; rfl
theorem Pl.c1 {w:World} {p q:Nat} {B:ByteArray} {l:Int} (h:Pl w p q B l):w.cell? ⟨p,1,none⟩=some (.int .i64 l):=by rw [cell_of_row w p 1 _ _ _ h.head]; rfl
theorem Pl.f1 {w:World} {p q:Nat} {B:ByteArray} {l:Int} (h:Pl w p q B l):w.frozen? ⟨p,1,none⟩=false:=frozen_of_row w p 1 _ _ h.head
theorem Pl.set {w:World} {p q:Nat} {B:ByteArray} {l:Int} (h:Pl w p q B l) (l':Int):Pl (w.setCell ⟨p,1,none⟩ (.int .i64 l')) p q B l' :=
 ⟨h.ne,by rw [heap_setCell_same w p 1 _ _ _ h.head]; rfl,by rw [heap_setCell_other w _ q _ (Ne.symm h.ne)]; exact h.row⟩
theorem Pl.drew {w:World} {p q:Nat} {B:ByteArray} {l:Int} (h:Pl w p q B l):Pl w.drew p q B l:=⟨h.ne,h.head,h.row⟩
def In2 (p q:Nat) (k:Nat):Prop:=k=p ∨ k=q
theorem kept_set {w:World} (p q:Nat) (v:Value):Kept (In2 p q) w (w.setCell ⟨p,1,none⟩ v):=(Kept.refl _ w).setCell (.inl rfl) v
theorem power_any (p q:Nat) (B:ByteArray) (l:Int) (w:World) (h:Pl w p q B l) :
  Calls Tryz.prog 112 #[.pointer (some ⟨p,0,none⟩)] w fun e w'=>e=.returned (.bool (l != -2))∧w'=w:=by
 have c1:=h.c1
 clear h
 go_enter Tryz.func112,Tryz.ntmps112
 go_wp2
 go_ret
 exact ⟨rfl,rfl⟩
theorem pon_any (p q:Nat) (B:ByteArray) (l:Int) (w:World) (h:Pl w p q B l) :
  Calls Tryz.prog 122 #[.pointer (some ⟨p,0,none⟩)] w fun e w'=>e=.returned (.tuple #[])∧Pl w' p q B (-1)∧Kept (In2 p q) w w':=by
 have c1:=h.c1
 have f1:=h.f1
 have H:=hid (h.set (-1))
 clear h
 go_enter Tryz.func122,Tryz.ntmps122
 go_wp2
 go_end0
 exact ⟨rfl,H.out,kept_set p q _⟩
theorem poff_any (p q:Nat) (B:ByteArray) (l:Int) (w:World) (h:Pl w p q B l) :
  Calls Tryz.prog 124 #[.pointer (some ⟨p,0,none⟩)] w fun e w'=>e=.returned (.tuple #[])∧Pl w' p q B (-2)∧Kept (In2 p q) w w':=by
 have c1:=h.c1
 have f1:=h.f1
 have H:=hid (h.set (-2))
 clear h
 go_enter Tryz.func124,Tryz.ntmps124
 go_wp2
 go_end0
 exact ⟨rfl,H.out,kept_set p q _⟩
theorem Held9.g1 {w:World} {A:Nat→Addr} (h:Held9 w A):w.cell? ⟨0,0,none⟩=some (.iface 318 (.pointer (some (A 1)))):=h.var 1 (by decide)
theorem Held9.g5 {w:World} {A:Nat→Addr} (h:Held9 w A):w.cell? ⟨5,0,none⟩=some (.iface 318 (.pointer (some (A 5)))):=h.var 5 (by decide)
structure HeldE (w:World) (A:Nat→Addr):Prop where
 g1:w.cell? ⟨0,0,none⟩=some (.iface 318 (.pointer (some (A 1))))
 g2:w.cell? ⟨2,0,none⟩=some (.iface 318 (.pointer (some (A 2))))
 g4:w.cell? ⟨4,0,none⟩=some (.iface 318 (.pointer (some (A 4))))
 g5:w.cell? ⟨5,0,none⟩=some (.iface 318 (.pointer (some (A 5))))
theorem HeldE.later {w w':World} {A:Nat→Addr} (h:HeldE w A) (hb:Below w.heap.size w w'):HeldE w' A:=⟨cell_later hb h.g1,cell_later hb h.g2,cell_later hb h.g4,cell_later hb h.g5⟩
theorem Held9.toE {w:World} {A:Nat→Addr} (h:Held9 w A):HeldE w A:=⟨h.var 1 (by decide),h.var 2 (by decide),h.var 4 (by decide),h.var 5 (by decide)⟩
theorem pcheck_bound (A:Nat→Addr) (p q:Nat) (B:ByteArray) (l a n:Int) (w:World) (h:Pl w p q B l) (hE:HeldE w A) (hB:B.size≤1000) (hn:n≤9223372036854775807) (hb:a<0 ∨ n<0 ∨ (B.size:Int) - n<a) :
  Calls Tryz.prog 224 #[.pointer (some ⟨p,0,none⟩),.int .i64 a,.int .i64 n] w fun e w'=>e=.returned (.iface 318 (.pointer (some (A 1))))∧w'=w:=by
 have c0:=h.c0
 have g1:=hE.g1
 clear h hE
 by_cases h1:a<0
 ·clear hb
  go_enter Tryz.func224,Tryz.ntmps224
  go_wp2
  go_ret
  exact ⟨rfl,rfl⟩
 ·by_cases h2:n<0
  ·clear hb
   go_enter Tryz.func224,Tryz.ntmps224
   go_wp2
   go_ret
   exact ⟨rfl,rfl⟩
  ·have h3:(B.size:Int) - n<a:=by omega
   clear hb
   go_enter Tryz.func224,Tryz.ntmps224
   go_wp2
   go_ret
   exact ⟨rfl,rfl⟩
theorem pcheck_in (A:Nat→Addr) (p q:Nat) (B:ByteArray) (l a n:Int) (w:World) (h:Pl w p q B l) (hE:HeldE w A) (hB:B.size≤1000) (hb:¬ (a<0 ∨ n<0 ∨ (B.size:Int) - n<a)) :
  Calls Tryz.prog 224 #[.pointer (some ⟨p,0,none⟩),.int .i64 a,.int .i64 n] w fun e w'=>e=.returned (if l=-2 then .iface 318 (.pointer (some (A 5))) else .nilIface)∧w'=w:=by
 have H:=hid h
 have c0:=h.c0
 have g5:=hE.g5
 have h1:¬ a<0:=fun g=>hb (.inl g)
 have h2:¬ n<0:=fun g=>hb (.inr (.inl g))
 have h3:¬ (B.size:Int) - n<a:=fun g=>hb (.inr (.inr g))
 clear h hE hb
 by_cases hl:l=-2
 ·subst hl
  go_enter Tryz.func224,Tryz.ntmps224
  go_wp2_with (go_at_call 112; refine (power_any p q B _ _ H.out).mono ?_; rintro e w' ⟨rfl,rfl⟩)
  go_ret
  exact ⟨rfl,rfl⟩
 ·rw [if_neg hl]
  have hl':(l != -2)=true:=by simpa using hl
  clear hl
  go_enter Tryz.func224,Tryz.ntmps224
  go_wp2_with (go_at_call 112; refine (power_any p q B _ _ H.out).mono ?_; rintro e w' ⟨rfl,rfl⟩)
  go_ret
  exact ⟨rfl,rfl⟩
theorem pspend_zero (p q:Nat) (B:ByteArray) (w:World) (h:Pl w p q B 0) :
  Calls Tryz.prog 265 #[.pointer (some ⟨p,0,none⟩)] w fun e w'=>e=.returned (.bool false)∧Pl w' p q B (-2)∧Kept (In2 p q) w w':=by
 have H:=hid h
 have c1:=h.c1
 clear h
 go_enter Tryz.func265,Tryz.ntmps265
 go_wp2_with (go_at_call 124; refine (poff_any p q B _ _ H.out).mono ?_; rintro e w' ⟨rfl,h1,h2⟩)
 go_ret
 exact ⟨rfl,h1,h2⟩
theorem pspend_pos (p q:Nat) (B:ByteArray) (l:Int) (w:World) (h:Pl w p q B l) (h0:0<l) (h1:l≤9223372036854775807) :
  Calls Tryz.prog 265 #[.pointer (some ⟨p,0,none⟩)] w fun e w'=>e=.returned (.bool true)∧Pl w' p q B (l - 1)∧Kept (In2 p q) w w':=by
 have c1:=h.c1
 have f1:=h.f1
 have H:=hid (h.set (l - 1))
 clear h
 go_enter Tryz.func265,Tryz.ntmps265
 go_wp2
 go_ret
 exact ⟨rfl,H.out,kept_set p q _⟩
theorem pspend_neg (p q:Nat) (B:ByteArray) (l:Int) (w:World) (h:Pl w p q B l) (h0:l<0) :
  Calls Tryz.prog 265 #[.pointer (some ⟨p,0,none⟩)] w fun e w'=>e=.returned (.bool true)∧w'=w:=by
 have c1:=h.c1
 clear h
 go_enter Tryz.func265,Tryz.ntmps265
 go_wp2
 go_ret
 exact ⟨rfl,rfl⟩
theorem pcut_bound (A:Nat→Addr) (v:Value) (n:Int) (w:World) (hE:HeldE w A) (hn:n<0) :
  Calls Tryz.prog 120 #[v,.int .i64 n] w fun e w'=>e=.returned (.iface 318 (.pointer (some (A 1))))∧w'=w:=by
 have g1:=hE.g1
 clear hE
 go_enter Tryz.func120,Tryz.ntmps120
 go_wp2
 go_ret
 exact ⟨rfl,rfl⟩
theorem pcut_off (A:Nat→Addr) (p q:Nat) (B:ByteArray) (n:Int) (w:World) (h:Pl w p q B (-2)) (hE:HeldE w A) (hn:¬ n<0) :
  Calls Tryz.prog 120 #[.pointer (some ⟨p,0,none⟩),.int .i64 n] w fun e w'=>e=.returned (.iface 318 (.pointer (some (A 5))))∧w'=w:=by
 have H:=hid h
 have g5:=hE.g5
 clear hE h
 go_enter Tryz.func120,Tryz.ntmps120
 go_wp2_with (go_at_call 112; refine (power_any p q B _ _ H.out).mono ?_; rintro e w' ⟨rfl,rfl⟩)
 go_ret
 exact ⟨rfl,rfl⟩
theorem pcut_ok (p q:Nat) (B:ByteArray) (l n:Int) (w:World) (h:Pl w p q B l) (hl:¬ l=-2) (hn:¬ n<0) :
  Calls Tryz.prog 120 #[.pointer (some ⟨p,0,none⟩),.int .i64 n] w fun e w'=>e=.returned .nilIface∧Pl w' p q B n∧Kept (In2 p q) w w':=by
 have H:=hid h
 have c1:=h.c1
 have f1:=h.f1
 have H2:=hid (h.set n)
 have hl':(l != -2)=true:=by simpa using hl
 clear h hl
 go_enter Tryz.func120,Tryz.ntmps120
 go_wp2_with (go_at_call 112; refine (power_any p q B _ _ H.out).mono ?_; rintro e w' ⟨rfl,rfl⟩)
 go_ret
 exact ⟨rfl,H2.out,kept_set p q _⟩
def zeroB (n:Nat):ByteArray:=⟨(List.replicate n 0).toArray⟩
theorem zeroB_size (n:Nat):(zeroB n).size=n:=by rw [size_list]; simp [zeroB]
theorem Tryz.infoB:(Tryz.prog.info? 5).map (fun i=>(i.zero,i.size,i.bytes))=some (some (.int .u8 0),1,1):=by kernel_rfl
theorem made_zero (n:Nat):madeCells (Value.int .u8 0).cells n=cellsB (zeroB n):=by
 apply Array.ext'
 rw [show (Value.int .u8 0).cells=#[.int .u8 0] from rfl,toList_madeCells_one]
 simp [cellsB,Lib.strCells,zeroB]
theorem mkB (n:Nat) (h:n≤1000) (w:World):(Instr.makeSlice 60 (.int .i64 n) (.int .i64 n)).run Tryz.prog w=.ok (.slice (some ⟨w.heap.size,0,none⟩) n n) (w.alloc (.cells (cellsB (zeroB n)) 5)):=by
 obtain ⟨i0,hi,hz0,hz1,hz2⟩:=info_parts Tryz.infoB
 have hr:=run_make (P:=Tryz.prog) w 60 5 i0 _ Tryz.underlying60 hi hz0 .i64 .i64 n n (by omega) (Int.le_refl _) (by rw [hz2]; omega) (by omega)
 simp only [Int.toNat_natCast,hz1,Nat.mul_one,made_zero] at hr
 exact hr
theorem pl_new (w:World) (n:Nat):Pl ((w.alloc (.cells (cellsB (zeroB n)) 5)).alloc (.cells #[.slice (some ⟨w.heap.size,0,none⟩) n n,.int .i64 (-1)] 225)) (w.heap.size+1) w.heap.size (zeroB n) (-1) :=
 ⟨by omega,by rw [heap_alloc2_new,zeroB_size],heap_alloc2_old w _ _⟩
theorem pnew_ok (n:Nat) (w:World) (h:n≤512) :
  Calls Tryz.prog 155 #[.int .i64 n] w fun e w'=>e=.returned (.tuple #[.pointer (some ⟨w.heap.size+1,0,none⟩),.nilIface])∧Pl w' (w.heap.size+1) w.heap.size (zeroB n) (-1)∧Below w.heap.size w w'∧w'.heap.size=w.heap.size+2:=by
 have hmk:=mkB n (by omega)
 have H:=hid (pl_new w n)
 go_enter Tryz.func155,Tryz.ntmps155
 go_wp2
 go_ret2
 exact ⟨rfl,H.out,((Below.refl _ _).alloc (Nat.le_refl _) _).alloc (by simp) _,by simp⟩
theorem Pl.put {w:World} {p q:Nat} {B s:ByteArray} {a k:Nat} {l:Int} (h:Pl w p q (putB B a s k) l) (ha:a+k<B.size) (hk:k<s.size) :
  Pl (w.setCell ⟨q,a+k,none⟩ (.int .u8 ((s[k]'hk).toNat:Int))) p q (putB B a s (k+1)) l:=by
 refine ⟨h.ne,?_,?_⟩
 ·rw [heap_setCell_other w _ p _ h.ne,h.head,size_putB (by omega) (by omega),size_putB (by omega) (by omega)]
 ·rw [heap_setCell_same w q (a+k) _ _ _ h.row]
  unfold cellsB
  rw [putB_succ ha hk]
theorem Pl.bytes {w:World} {p q:Nat} {B s:ByteArray} {a k:Nat} {l:Int} (h:Pl w p q (putB B a s k) l) (ha:a+k≤B.size) (hk:k≤s.size):w.cell? ⟨p,0,none⟩=some (.slice (some ⟨q,0,none⟩) B.size B.size):=by
 rw [h.c0,size_putB ha hk]
theorem Pl.cq {w:World} {p q:Nat} {B:ByteArray} {j:Nat} {l:Int} (h:Pl w p q B l) (hj:j<B.size):w.cell? ⟨q,j,none⟩=some (.int .u8 ((B[j]'hj).toNat:Int)):=by
 rw [cell_of_row w q j _ _ _ h.row,cellsB_at hj]
theorem Pl.fq {w:World} {p q:Nat} {B:ByteArray} {l:Int} (h:Pl w p q B l) (j:Nat):w.frozen? ⟨q,j,none⟩=false:=frozen_of_row w q j _ _ h.row
theorem pwrite_bound (A:Nat→Addr) (p q:Nat) (B s:ByteArray) (l a:Int) (w:World) (h:Pl w p q B l) (hE:HeldE w A) (hB:B.size≤1000) (hs:s.size≤1000) (hb:a<0 ∨ (B.size:Int) - s.size<a) :
  Calls Tryz.prog 258 #[.pointer (some ⟨p,0,none⟩),.int .i64 a,.string s] w fun e w'=>e=.returned (.iface 318 (.pointer (some (A 1))))∧w'=w:=by
 have H:=hid h
 have HE:=hid hE
 clear h hE
 go_enter Tryz.func258,Tryz.ntmps258
 go_wp2_with (go_at_call 224; refine (pcheck_bound A p q B l _ _ _ H.out HE.out hB (by omega) (by omega)).mono ?_; rintro e w' ⟨rfl,rfl⟩)
 go_ret
 exact ⟨rfl,rfl⟩
theorem pwrite_off (A:Nat→Addr) (p q:Nat) (B s:ByteArray) (a:Int) (w:World) (h:Pl w p q B (-2)) (hE:HeldE w A) (hB:B.size≤1000) (hs:s.size≤1000) (hb:¬ (a<0 ∨ (B.size:Int) - s.size<a)) :
  Calls Tryz.prog 258 #[.pointer (some ⟨p,0,none⟩),.int .i64 a,.string s] w fun e w'=>e=.returned (.iface 318 (.pointer (some (A 5))))∧w'=w:=by
 have H:=hid h
 have HE:=hid hE
 clear h hE
 go_enter Tryz.func258,Tryz.ntmps258
 go_wp2_with (go_at_call 224; refine (pcheck_in A p q B _ _ _ _ H.out HE.out hB (by omega)).mono ?_; rw [if_pos rfl]; rintro e w' ⟨rfl,rfl⟩)
 go_ret
 exact ⟨rfl,rfl⟩
theorem pwrite_free (A:Nat→Addr) (p q:Nat) (B s:ByteArray) (a:Nat) (l:Int) (w:World) (h:Pl w p q B l) (hE:HeldE w A) (hB:B.size≤1000) (ha:a+s.size≤B.size) (hl:l<0) (hl2:¬ l=-2) :
  Calls Tryz.prog 258 #[.pointer (some ⟨p,0,none⟩),.int .i64 a,.string s] w fun e w'=>e=.returned .nilIface∧Pl w' p q (putB B a s s.size) l∧Kept (In2 p q) w w':=by
 have H:=hid h
 have HE:=hid hE
 have HL:=hid hl2
 clear h hE hl2
 go_enter Tryz.func258,Tryz.ntmps258
 go_wp2_with (go_at_call 224; refine (pcheck_in A p q B _ _ _ _ H.out HE.out hB (by omega)).mono ?_; rw [if_neg HL.out]; rintro e wx ⟨rfl,hx⟩; subst wx)
 go_loopw [19] (fun i wr=>∃ k:Nat,k≤s.size∧i=.int .i64 k∧Pl wr p q (putB B a s k) l∧Kept (In2 p q) w wr) (fun i _=>s.size - (intOf i).toNat)
 case atStart=>exact ⟨0,Nat.zero_le _,rfl,by rw [putB_zero]; exact H.out,Kept.refl _ _⟩
 case round =>
  obtain ⟨k,hk,rfl,hP,hK⟩:=hrel
  have HP:=hid hP
  have HK:=hid hK
  clear hP hK
  by_cases hlt:k<s.size
  ·have c0:=HP.out.bytes (by omega) (by omega)
   have cq:=HP.out.cq (j:=a+k) (by rw [size_putB (by omega) (by omega)]; omega)
   have fq:=HP.out.fq (a+k)
   go_wp2_with (go_at_call 265; refine (pspend_neg p q _ l _ HP.out hl).mono ?_; rintro e wx ⟨rfl,hx⟩; subst wx)
   go_region
   all_goals go_wp2
   all_goals go_roundw
   case rel=>exact ⟨k+1,by omega,by go_num,(HP.out.put (by omega) hlt).drew,(HK.out.setCell (.inr rfl) _).drew⟩
   case measure=>simp [intOf]; omega
  ·obtain rfl:k=s.size:=by omega
   go_wp2
   go_ret
   exact ⟨rfl,HP.out,HK.out⟩
theorem run_copy_str {P:Program} {w:World} (dT sT ty elem:TypeId) (hu:P.underlying dT=some (.slice elem)) (hsz:(P.info? elem).map (·.size)=some 1)
  (g cap:Nat) (x:ByteArray) (cur:Array Value) (t:TypeId) (hg:w.heap[g]? = some (.cells cur t (0,0))) (hfit:cur.size=x.size) :
  (Builtin.copy_ #[dT,sT] ty #[.slice (some ⟨g,0,none⟩) x.size cap,.string x]).run P w=.ok (goInt x.size) (w.setRow g (cellsB x)):=by
 have hf:=Lib.run_firstCells_string (P:=P) w 1 x
 have hst:=run_storeCells_at P g 0 t (Lib.strCells x) 0 cur w hg (by rw [Lib.strCells_length]; omega) (Lib.strCells_oneCell x)
 rw [Lib.strCells_length] at hst
 have e:cur.toList.drop (0+0+x.size)=[]:=List.drop_eq_nil_of_le (by simp; omega)
 rw [e] at hst
 simp only [Nat.add_zero,List.take_zero,List.nil_append,List.append_nil] at hst
 cases hq:P.info? elem with
 | none=>simp [hq] at hsz
 | some i =>
  have hi:i.size=1:=by simpa [hq] using hsz
  simp [Builtin.copy_,run_underlying hu,Builtin.lenOf,sizeOf,typeInfo,hq,hi,hf,hst,cellsB]
theorem byteSize:(Tryz.prog.info? 5).map (·.size)=some 1:=by kernel_rfl
theorem Pl.row_set {w:World} {p q:Nat} {B s:ByteArray} {l:Int} (h:Pl w p q B l) (hs:s.size=B.size):Pl (w.setRow q (cellsB s)) p q s l :=
 ⟨h.ne,by rw [setRow_other w q p _ h.ne,h.head,hs],setRow_heap w q _ _ _ _ h.row⟩
theorem kept_setRow {w:World} (p q:Nat) (cs:Array Value):Kept (In2 p q) w (w.setRow q cs):=⟨rfl,rfl,rfl,by simp,fun k _ hk=>setRow_other w q k cs (fun e=>hk (.inr e))⟩
theorem pfrom_ok (s:ByteArray) (w:World) (h:s.size≤512) :
  Calls Tryz.prog 186 #[.string s] w fun e w'=>e=.returned (.tuple #[.pointer (some ⟨w.heap.size+1,0,none⟩),.nilIface])∧Pl w' (w.heap.size+1) w.heap.size s (-1)∧Below w.heap.size w w'∧w'.heap.size=w.heap.size+2:=by
 go_enter Tryz.func186,Tryz.ntmps186
 go_wp2_with (go_at_call 155; refine (pnew_ok _ _ h).mono ?_; rintro e w1 ⟨rfl,hP,hb,hsz⟩; have c0:=hP.c0; rw [zeroB_size] at c0; have hcp:=fun ty=>run_copy_str (P:=Tryz.prog) 60 9 ty 5 Tryz.underlying60 byteSize w.heap.size s.size s _ _ hP.row (by rw [cellsB_size,zeroB_size]))
 go_ret2
 exact ⟨rfl,hP.row_set (zeroB_size _).symm,Kept.below (kept_setRow (w.heap.size+1) w.heap.size _) hb.size (fun k hk=>by unfold In2 at hk; omega) hb,by simpa using hsz⟩
theorem conv_cut {w:World} {p q:Nat} {B:ByteArray} {l:Int} (h:Pl w p q B l) (o n cap:Nat) (hn:o+n≤B.size) :
  (convert 60 9 (.slice (some ⟨q,o,none⟩) n cap)).run Tryz.prog w=.ok (.string (B.extract o (o+n))) w:=by
 have hl:((B.extract o (o+n)).data.toList).length=n:=by
  rw [ext_list]
  rw [size_list] at hn
  simp only [List.length_take,List.length_drop]
  omega
 have:=run_convert_bytes_back (P:=Tryz.prog) w 60 9 5 ⟨q,o,none⟩ cap (B.extract o (o+n)).data.toList Tryz.underlying60 Tryz.underlying5 Tryz.underlying9 (fun j hj=>by
  rw [hl] at hj
  rw [Addr.add_lit,h.cq (by omega),getB (by omega)]
  congr 3
  simp only [ext_list,List.getElem_take,List.getElem_drop])
 rw [hl] at this
 rw [this]
theorem conv_all {w:World} {p q:Nat} {B:ByteArray} {l:Int} (h:Pl w p q B l) :
  (convert 60 9 (.slice (some ⟨q,0,none⟩) B.size B.size)).run Tryz.prog w=.ok (.string B) w:=by
 have:=conv_cut h 0 B.size B.size (by omega)
 rw [Nat.zero_add,show B.extract 0 B.size=B by simp] at this
 exact this
theorem pbytes_any (p q:Nat) (B:ByteArray) (l:Int) (w:World) (h:Pl w p q B l) :
  Calls Tryz.prog 187 #[.pointer (some ⟨p,0,none⟩)] w fun e w'=>e=.returned (.string B)∧w'=w:=by
 have c0:=h.c0
 have hc:=conv_all h
 clear h
 go_enter Tryz.func187,Tryz.ntmps187
 go_wp2
 go_ret
 exact ⟨rfl,rfl⟩
theorem pwrite_far (A:Nat→Addr) (p q:Nat) (B s:ByteArray) (a:Nat) (l:Int) (w:World) (h:Pl w p q B l) (hE:HeldE w A) (hB:B.size≤1000) (ha:a+s.size≤B.size) (hl:(s.size:Int)≤l) (hl2:l≤9223372036854775807) :
  Calls Tryz.prog 258 #[.pointer (some ⟨p,0,none⟩),.int .i64 a,.string s] w fun e w'=>e=.returned .nilIface∧Pl w' p q (putB B a s s.size) (l - s.size)∧Kept (In2 p q) w w':=by
 have H:=hid h
 have HE:=hid hE
 have HL:Hid (¬ l=-2):=by unfold Hid; omega
 clear h hE
 go_enter Tryz.func258,Tryz.ntmps258
 go_wp2_with (go_at_call 224; refine (pcheck_in A p q B _ _ _ _ H.out HE.out hB (by omega)).mono ?_; rw [if_neg HL.out]; rintro e wx ⟨rfl,hx⟩; subst wx)
 go_loopw [19] (fun i wr=>∃ k:Nat,k≤s.size∧i=.int .i64 k∧Pl wr p q (putB B a s k) (l - k)∧Kept (In2 p q) w wr) (fun i _=>s.size - (intOf i).toNat)
 case atStart=>exact ⟨0,Nat.zero_le _,rfl,by rw [putB_zero]; simpa using H.out,Kept.refl _ _⟩
 case round =>
  obtain ⟨k,hk,rfl,hP,hK⟩:=hrel
  have HP:=hid hP
  have HK:=hid hK
  clear hP hK
  by_cases hlt:k<s.size
  ·go_wp2_with (go_at_call 265; refine (pspend_pos p q _ (l - k) _ HP.out (by omega) (by omega)).mono ?_; rintro e w1 ⟨rfl,hP1,hK1⟩; have HP1:=hid hP1; have HK1:=hid hK1; clear hP1 hK1; have c0:=HP1.out.bytes (by omega) (by omega); have cq:=HP1.out.cq (j:=a+k) (by rw [size_putB (by omega) (by omega)]; omega); have fq:=HP1.out.fq (a+k))
   go_region
   all_goals go_wp2
   all_goals go_roundw
   case rel =>
    refine ⟨k+1,by omega,by go_num,?_,((HK.out.trans HK1.out).setCell (.inr rfl) _).drew⟩
    rw [show l - ((k+1:Nat):Int)=l - k - 1 by omega]
    exact (HP1.out.put (by omega) hlt).drew
   case measure=>simp [intOf]; omega
  ·obtain rfl:k=s.size:=by omega
   go_wp2
   go_ret
   exact ⟨rfl,HP.out,HK.out⟩
theorem pwrite_near (A:Nat→Addr) (p q:Nat) (B s:ByteArray) (a l:Nat) (w:World) (h:Pl w p q B l) (hE:HeldE w A) (hB:B.size≤1000) (ha:a+s.size≤B.size) (hl:l<s.size) (hp:5≠p) (hq:5≠q) :
  Calls Tryz.prog 258 #[.pointer (some ⟨p,0,none⟩),.int .i64 a,.string s] w fun e w'=>e=.returned (.iface 318 (.pointer (some (A 5))))∧Pl w' p q (putB B a s l) (-2)∧Kept (In2 p q) w w':=by
 have H:=hid h
 have HE:=hid hE
 have HL:Hid (¬ (l:Int)=-2):=by unfold Hid; omega
 have HG:Hid (∀ wx,Kept (In2 p q) w wx→wx.cell? ⟨5,0,none⟩=some (.iface 318 (.pointer (some (A 5))))):=fun wx hk=>by
  rw [World.cell?_of_block (w:=w) (hk.block 5 (cell_lt hE.g5) (fun e=>e.elim hp hq))]
  exact hE.g5
 clear h hE
 go_enter Tryz.func258,Tryz.ntmps258
 go_wp2_with (go_at_call 224; refine (pcheck_in A p q B _ _ _ _ H.out HE.out hB (by omega)).mono ?_; rw [if_neg HL.out]; rintro e wx ⟨rfl,hx⟩; subst wx)
 go_loopw [19] (fun i wr=>∃ k:Nat,k≤l∧i=.int .i64 k∧Pl wr p q (putB B a s k) (l - k)∧Kept (In2 p q) w wr) (fun i _=>l - (intOf i).toNat)
 case atStart=>exact ⟨0,Nat.zero_le _,rfl,by rw [putB_zero]; simpa using H.out,Kept.refl _ _⟩
 case round =>
  obtain ⟨k,hk,rfl,hP,hK⟩:=hrel
  have HP:=hid hP
  have HK:=hid hK
  clear hP hK
  have hks:k<s.size:=by omega
  by_cases hlt:k<l
  ·go_wp2_with (go_at_call 265; refine (pspend_pos p q _ (l - k) _ HP.out (by omega) (by omega)).mono ?_; rintro e w1 ⟨rfl,hP1,hK1⟩; have HP1:=hid hP1; have HK1:=hid hK1; clear hP1 hK1; have c0:=HP1.out.bytes (by omega) (by omega); have cq:=HP1.out.cq (j:=a+k) (by rw [size_putB (by omega) (by omega)]; omega); have fq:=HP1.out.fq (a+k))
   go_region
   all_goals go_wp2
   all_goals go_roundw
   case rel =>
    refine ⟨k+1,by omega,by go_num,?_,((HK.out.trans HK1.out).setCell (.inr rfl) _).drew⟩
    rw [show (l:Int) - ((k+1:Nat):Int)=l - k - 1 by omega]
    exact (HP1.out.put (by omega) hks).drew
   case measure=>simp [intOf]; omega
  ·obtain rfl:k=l:=by omega
   have HP0:Hid (Pl wr p q (putB B a s k) 0):=by have:=HP.out; rw [show (k:Int) - k=0 by omega] at this; exact this
   go_wp2_with (go_at_call 265; refine (pspend_zero p q _ _ HP0.out).mono ?_; rintro e w1 ⟨rfl,hP1,hK1⟩; have g5:=HG.out _ (HK.out.trans hK1); have HP1:=hid hP1; have HK1:=hid hK1; clear hP1 hK1)
   go_ret
   exact ⟨rfl,HP1.out,HK.out.trans HK1.out⟩
theorem pread_bound (A:Nat→Addr) (p q:Nat) (B:ByteArray) (l a n:Int) (w:World) (h:Pl w p q B l) (hE:HeldE w A) (hB:B.size≤1000) (hn:n≤9223372036854775807) (hb:a<0 ∨ n<0 ∨ (B.size:Int) - n<a) :
  Calls Tryz.prog 197 #[.pointer (some ⟨p,0,none⟩),.int .i64 a,.int .i64 n] w fun e w'=>e=.returned (.tuple #[.string ⟨#[]⟩,.iface 318 (.pointer (some (A 1)))])∧w'=w:=by
 have H:=hid h
 have HE:=hid hE
 have HB:=hid hb
 clear h hE hb
 go_enter Tryz.func197,Tryz.ntmps197
 go_wp2_with (go_at_call 224; refine (pcheck_bound A p q B l _ _ _ H.out HE.out hB hn HB.out).mono ?_; rintro e w' ⟨rfl,rfl⟩)
 go_ret2
 exact ⟨rfl,rfl⟩
theorem pread_off (A:Nat→Addr) (p q:Nat) (B:ByteArray) (a n:Int) (w:World) (h:Pl w p q B (-2)) (hE:HeldE w A) (hB:B.size≤1000) (hb:¬ (a<0 ∨ n<0 ∨ (B.size:Int) - n<a)) :
  Calls Tryz.prog 197 #[.pointer (some ⟨p,0,none⟩),.int .i64 a,.int .i64 n] w fun e w'=>e=.returned (.tuple #[.string ⟨#[]⟩,.iface 318 (.pointer (some (A 5)))])∧w'=w:=by
 have H:=hid h
 have HE:=hid hE
 have HB:=hid hb
 clear h hE hb
 go_enter Tryz.func197,Tryz.ntmps197
 go_wp2_with (go_at_call 224; refine (pcheck_in A p q B _ _ _ _ H.out HE.out hB HB.out).mono ?_; rw [if_pos rfl]; rintro e w' ⟨rfl,rfl⟩)
 go_ret2
 exact ⟨rfl,rfl⟩
theorem pread_ok (A:Nat→Addr) (p q:Nat) (B:ByteArray) (l:Int) (a n:Nat) (w:World) (h:Pl w p q B l) (hE:HeldE w A) (hB:B.size≤1000) (hl:¬ l=-2) (hb:a+n≤B.size) :
  Calls Tryz.prog 197 #[.pointer (some ⟨p,0,none⟩),.int .i64 a,.int .i64 n] w fun e w'=>e=.returned (.tuple #[.string (B.extract a (a+n)),.nilIface])∧w'=w:=by
 have H:=hid h
 have HE:=hid hE
 have HL:=hid hl
 have c0:=h.c0
 by_cases hc:a<B.size
 ·have hcv:=conv_cut h a n (B.size - a) hb
  clear h hE hl
  go_enter Tryz.func197,Tryz.ntmps197
  go_wp2_with (go_at_call 224; refine (pcheck_in A p q B _ _ _ _ H.out HE.out hB (by omega)).mono ?_; rw [if_neg HL.out]; rintro e w' ⟨rfl,rfl⟩)
  go_ret2
  exact ⟨rfl,rfl⟩
 ·obtain rfl:n=0:=by omega
  have hcv:=conv_cut h 0 0 0 (by omega)
  have e1:B.extract 0 (0+0)=ByteArray.empty:=by
   apply ba_ext; rw [ext_list]; simp
  have e2:B.extract a (a+0)=ByteArray.empty:=by
   apply ba_ext; rw [ext_list]; simp
  rw [e1] at hcv
  rw [e2]
  clear h hE hl e1 e2
  go_enter Tryz.func197,Tryz.ntmps197
  go_wp2_with (go_at_call 224; refine (pcheck_in A p q B _ _ _ _ H.out HE.out hB (by omega)).mono ?_; rw [if_neg HL.out]; rintro e w' ⟨rfl,rfl⟩)
  go_ret2
  exact ⟨rfl,rfl⟩
def Lk (l:Int) (off:Bool) (l':Int) (cuts:Bool):Prop :=
 (off=true∧l=-2) ∨ (off=false∧cuts=false∧l=-1) ∨ (off=false∧cuts=true∧l=l'∧0≤l∧l≤9223372036854775807)
abbrev wBad (B s:ByteArray) (a:Int):Prop:=a<0 ∨ (B.size:Int) - s.size<a
def wC (B s:ByteArray) (l a:Int):Nat:=if wBad B s a then 2 else if l=-2 then 6 else if 0≤l∧l<s.size then 6 else 0
def wB (B s:ByteArray) (l a:Int):ByteArray:=if wBad B s a then B else if l=-2 then B else if 0≤l∧l<s.size then putB B a.toNat s l.toNat else putB B a.toNat s s.size
def wL (B s:ByteArray) (l a:Int):Int:=if wBad B s a then l else if l=-2 then -2 else if 0≤l∧l<s.size then -2 else if l<0 then l else l - s.size
theorem wB_size (B s:ByteArray) (l a:Int):(wB B s l a).size=B.size:=by
 unfold wB
 split
 ·rfl
 ·rename_i h
  unfold wBad at h
  split
  ·rfl
  ·split
   ·rename_i h2; exact size_putB (by omega) (by omega)
   ·exact size_putB (by omega) (by omega)
theorem write_pl (A:Nat→Addr) (p q:Nat) (B s:ByteArray) (l a:Int) (w:World) (h:Pl w p q B l) (hE:HeldE w A) (hB:B.size≤1000) (hs:s.size≤1000) (h1:-2≤l) (h2:l≤9223372036854775807) (hp:5≠p) (hq:5≠q) :
  Calls Tryz.prog 258 #[.pointer (some ⟨p,0,none⟩),.int .i64 a,.string s] w fun e w'=>e=.returned (ev A (wC B s l a))∧Pl w' p q (wB B s l a) (wL B s l a)∧Kept (In2 p q) w w':=by
 by_cases hb:wBad B s a
 ·simp only [wC,wB,wL,if_pos hb]
  refine (pwrite_bound A p q B s l a w h hE hB hs hb).mono ?_
  rintro e w' ⟨rfl,rfl⟩
  exact ⟨rfl,h,Kept.refl _ _⟩
 ·by_cases hl:l=-2
  ·subst hl
   simp only [wC,wB,wL,if_neg hb,if_pos]
   refine (pwrite_off A p q B s a w h hE hB hs hb).mono ?_
   rintro e w' ⟨rfl,rfl⟩
   exact ⟨rfl,h,Kept.refl _ _⟩
  ·have hb':=hb
   unfold wBad at hb'
   obtain ⟨a',rfl⟩:∃ a':Nat,a=a':=⟨a.toNat,by omega⟩
   by_cases hn:0≤l∧l<s.size
   ·obtain ⟨l',rfl⟩:∃ l':Nat,l=l':=⟨l.toNat,by omega⟩
    simp only [wC,wB,wL,if_neg hb,if_neg hl,if_pos hn,Int.toNat_natCast]
    exact pwrite_near A p q B s a' l' w h hE hB (by omega) (by omega) hp hq
   ·simp only [wC,wB,wL,if_neg hb,if_neg hl,if_neg hn,Int.toNat_natCast]
    by_cases hl0:l<0
    ·rw [if_pos hl0]
     exact pwrite_free A p q B s a' l w h hE hB (by omega) hl0 hl
    ·rw [if_neg hl0]
     exact pwrite_far A p q B s a' l w h hE hB (by omega) (by omega) h2
def cC (l n:Int):Nat:=if n<0 then 2 else if l=-2 then 6 else 0
def cL (l n:Int):Int:=if n<0 then l else if l=-2 then l else n
theorem cut_pl (A:Nat→Addr) (p q:Nat) (B:ByteArray) (l n:Int) (w:World) (h:Pl w p q B l) (hE:HeldE w A) :
  Calls Tryz.prog 120 #[.pointer (some ⟨p,0,none⟩),.int .i64 n] w fun e w'=>e=.returned (ev A (cC l n))∧Pl w' p q B (cL l n)∧Kept (In2 p q) w w':=by
 by_cases hn:n<0
 ·simp only [cC,cL,if_pos hn]
  refine (pcut_bound A _ n w hE hn).mono ?_
  rintro e w' ⟨rfl,rfl⟩
  exact ⟨rfl,h,Kept.refl _ _⟩
 ·by_cases hl:l=-2
  ·subst hl
   simp only [cC,cL,if_neg hn,if_pos]
   refine (pcut_off A p q B n w h hE hn).mono ?_
   rintro e w' ⟨rfl,rfl⟩
   exact ⟨rfl,h,Kept.refl _ _⟩
  ·simp only [cC,cL,if_neg hn,if_neg hl]
   exact pcut_ok p q B l n w h hl hn
def rC (B:ByteArray) (l a n:Int):Nat:=if a<0 ∨ n<0 ∨ (B.size:Int) - n<a then 2 else if l=-2 then 6 else 0
theorem read_bad (A:Nat→Addr) (p q:Nat) (B:ByteArray) (l a n:Int) (c:Nat) (w:World) (h:Pl w p q B l) (hE:HeldE w A) (hB:B.size≤1000) (hn9:n≤9223372036854775807) (hc:rC B l a n=c+1) :
  Calls Tryz.prog 197 #[.pointer (some ⟨p,0,none⟩),.int .i64 a,.int .i64 n] w fun e w'=>e=.returned (.tuple #[.string ⟨#[]⟩,.iface 318 (.pointer (some (A c)))])∧w'=w:=by
 unfold rC at hc
 split at hc
 ·rename_i hb
  obtain rfl:c=1:=by omega
  exact pread_bound A p q B l a n w h hE hB hn9 hb
 ·rename_i hb
  split at hc
  ·rename_i hl
   subst hl
   obtain rfl:c=5:=by omega
   exact pread_off A p q B a n w h hE hB hb
  ·omega
abbrev Bs:=List UInt8
def digsO:Bs→Nat→Option Nat
 | [],n=>some n
 | c :: r,n=>if c.toNat<48 ∨ 57<c.toNat then none else digsO r (10 * n+(c.toNat - 48))
def numO (k:Nat) (x:Bs):Option Nat:=if x=[] ∨ k<x.length ∨ (1<x.length∧x.getD 0 0=48) then none else digsO x 0
def mostO (c:UInt8):Nat:=if c=78 then 5 else 1
def readWO (f:Bs):Nat→List Bs→Option (List Int)
 | _,[]=>some []
 | i,x :: r=>match numO (mostO (f.getD (min i (f.length - 1)) 0)) x with
  | none=>none
  | some n=>(readWO f (i+1) r).map (fun l=>(n:Int) :: l)
def readO (f:Bs) (more:Bool) (ws:List Bs):Option (List Int):=if ws.length<f.length ∨ (f.length<ws.length∧more=false) then none else readWO f 0 ws
theorem digsO_snoc:∀ (x:Bs) (c:UInt8) (n m:Nat),digsO x n=some m→digsO (x ++ [c]) n=(if c.toNat<48 ∨ 57<c.toNat then none else some (10 * m+(c.toNat - 48)))
 | [],c,n,m,h=>by obtain rfl:n=m:=Option.some.inj h; rfl
 | a :: x,c,n,m,h=>by
  unfold digsO at h
  rw [List.cons_append,digsO]
  split at h
  ·cases h
  ·rw [if_neg ‹_›]; exact digsO_snoc x c _ m h
theorem digsO_bad:∀ (x y:Bs) (n:Nat),digsO x n=none→digsO (x ++ y) n=none
 | [],y,n,h=>by cases h
 | a :: x,y,n,h=>by
  unfold digsO at h
  rw [List.cons_append,digsO]
  split
  ·rfl
  ·rw [if_neg ‹_›] at h; exact digsO_bad x y _ h
theorem digsO_le:∀ (x:Bs) (n m:Nat),digsO x n=some m→m<(n+1) * 10 ^ x.length
 | [],n,m,h=>by obtain rfl:n=m:=Option.some.inj h; simp
 | a :: x,n,m,h=>by
  unfold digsO at h
  split at h
  ·cases h
  ·have h1:=digsO_le x _ m h
   have h2:10 * n+(a.toNat - 48)+1≤(n+1) * 10:=by omega
   calc m<(10 * n+(a.toNat - 48)+1) * 10 ^ x.length:=h1
    _≤((n+1) * 10) * 10 ^ x.length:=Nat.mul_le_mul_right _ h2
    _=(n+1) * 10 ^ (a :: x).length:=by rw [List.length_cons,Nat.pow_succ,Nat.mul_assoc,Nat.mul_comm 10]
theorem numO_lt {k:Nat} {x:Bs} {n:Nat} (h:numO k x=some n):n<10 ^ k:=by
 unfold numO at h
 split at h
 ·cases h
 ·rename_i hn
  have h1:=digsO_le x 0 n h
  have h2:x.length≤k:=by omega
  have h3:=Nat.pow_le_pow_right (n:=10) (by omega) h2
  omega
theorem mostO_le (c:UInt8):mostO c≤5:=by unfold mostO; split <;> omega
theorem numO_small {c:UInt8} {x:Bs} {n:Nat} (h:numO (mostO c) x=some n):n<100000:=by
 have h1:=numO_lt h
 have h2:=Nat.pow_le_pow_right (n:=10) (by omega) (mostO_le c)
 omega
theorem readWO_small {f:Bs}:∀ {ws:List Bs} {i:Nat} {l:List Int},readWO f i ws=some l→l.length=ws.length∧∀ y,y∈l→0≤y∧y<100000
 | [],i,l,h=>by obtain rfl:[]=l:=Option.some.inj h; exact ⟨rfl,fun y h=>by cases h⟩
 | x :: r,i,l,h=>by
  unfold readWO at h
  split at h
  ·cases h
  ·rename_i n hn
   cases hq:readWO f (i+1) r with
   | none=>rw [hq] at h; cases h
   | some l' =>
    rw [hq] at h
    obtain rfl:(n:Int) :: l'=l:=Option.some.inj h
    obtain ⟨h1,h2⟩:=readWO_small hq
    have h3:=numO_small hn
    refine ⟨by simp [h1],fun y hy=>?_⟩
    rcases List.mem_cons.1 hy with rfl|hy
    ·omega
    ·exact h2 y hy
theorem readWO_take {f:Bs}:∀ (ws:List Bs) (i k:Nat) (l:List Int) (x:Bs),readWO f i (ws.take k)=some l→ws[k]? = some x →
  readWO f i (ws.take (k+1))=match numO (mostO (f.getD (min (i+k) (f.length - 1)) 0)) x with|none=>none|some n=>some (l ++ [(n:Int)])
 | [],i,k,l,x,h,hx=>by simp at hx
 | y :: r,i,0,l,x,h,hx=>by
  obtain rfl:y=x:=by simpa using hx
  obtain rfl:[]=l:=by simpa [readWO] using h
  simp only [List.take_succ_cons,List.take_zero,Nat.add_zero]
  unfold readWO
  split <;> simp_all [readWO]
 | y :: r,i,k+1,l,x,h,hx=>by
  rw [List.take_succ_cons] at h ⊢
  unfold readWO at h ⊢
  cases hn:numO (mostO (f.getD (min i (f.length - 1)) 0)) y with
  | none=>rw [hn] at h; cases h
  | some n =>
   rw [hn] at h
   simp only at h ⊢
   cases hq:readWO f (i+1) (r.take k) with
   | none=>rw [hq] at h; cases h
   | some l' =>
    rw [hq] at h
    obtain rfl:(n:Int) :: l'=l:=Option.some.inj h
    have:=readWO_take r (i+1) k l' x hq (by simpa using hx)
    rw [this,show i+1+k=i+(k+1) by omega]
    split <;> simp
theorem readWO_bad {f:Bs}:∀ (ws:List Bs) (i k:Nat),readWO f i (ws.take k)=none→readWO f i ws=none
 | [],i,k,h=>by simpa using h
 | y :: r,i,0,h=>by simp [readWO] at h
 | y :: r,i,k+1,h=>by
  rw [List.take_succ_cons] at h
  unfold readWO at h ⊢
  cases hn:numO (mostO (f.getD (min i (f.length - 1)) 0)) y with
  | none=>rfl
  | some n =>
   rw [hn] at h
   simp only at h ⊢
   cases hq:readWO f (i+1) (r.take k) with
   | none=>rw [readWO_bad r (i+1) k hq]; rfl
   | some l'=>rw [hq] at h; cases h
abbrev blankO:ByteArray:=⟨#[32]⟩
abbrev bB (l:Bs):ByteArray:=⟨l.toArray⟩
def wordsB (s:ByteArray):List ByteArray:=Lib.splitB blankO 0 (Lib.countB s blankO) s
theorem infoStrS:(Tryz.prog.info? 9).map (fun i=>(i.zero,i.size,i.bytes))=some (some (.string ByteArray.empty),1,16):=by kernel_rfl
theorem index_one (s:ByteArray) (w:World):Calls Tryz.prog 208 #[.string s,.string blankO] w fun e w'=>e=.returned (.int .i64 (Lib.indexB s blankO))∧w'=w:=by
 have:=Any.strings_Index_one { Tryz.lays146 with } s 32 w
 refine this.mono fun e w' ⟨he,hw⟩=>⟨?_,hw⟩
 rw [he]
 show _=Ending.returned (.int .i64 (Lib.index s.data.toList [32]))
 rw [Lib.index_one]
theorem count_one (s:ByteArray) (w:World):Calls Tryz.prog 207 #[.string s,.string blankO] w fun e w'=>e=.returned (.int .i64 (Lib.countB s blankO))∧w'=w:=by
 have:=Any.strings_Count_one { Tryz.lays146 with } s 32 w
 refine this.mono fun e w' ⟨he,hw⟩=>⟨?_,hw⟩
 rw [he]
 show _=Ending.returned (Value.int .i64 ((Lib.count s.data.toList [32]:Nat):Int))
 rw [Lib.count_one]
 rfl
theorem split_any (s:ByteArray) (w:World) (hs:s.size<4294967281) :
  Calls Tryz.prog 135 #[.string s,.string blankO] w fun e w'=>e=.returned (.slice (some ⟨w.heap.size,0,none⟩) (wordsB s).length (wordsB s).length)∧w'=w.alloc (.cells ((wordsB s).map Value.string).toArray 9):=by
 have h1:1≤blankO.size:=by decide
 have hle:=Lib.countB_le blankO h1 s.size s (Nat.le_refl _)
 have hlen:=Lib.splitB_all blankO h1 0 _ s rfl
 have c:=Any.strings_genSplit_core { Tryz.lays146 with } infoStrS s blankO 0 (-1) (Lib.countB s blankO+1) w hs h1 (Nat.zero_le _) (fun x c _=>index_one x _) (count_one s w) (by decide) (by decide) (by rw [if_pos (by decide)]; omega)
 rw [Nat.add_sub_cancel,hlen] at c
 have e2:Lib.cellsOf (Lib.splitB blankO 0 (Lib.countB s blankO) s) (Lib.countB s blankO+1)=((Lib.splitB blankO 0 (Lib.countB s blankO) s).map Value.string).toArray:=by rw [← hlen]; exact Lib.cellsOf_full _
 rw [e2] at c
 have hwl:(wordsB s).length=Lib.countB s blankO+1:=hlen
 rw [hwl]
 have HC:Hid (Calls Tryz.prog 176 #[.string s,.string blankO,.int .i64 0,.int .i64 (-1)] w fun e w'=>e=.returned (.slice (some ⟨w.heap.size,0,none⟩) (Lib.countB s blankO+1) (Lib.countB s blankO+1))∧w'=w.alloc (.cells ((wordsB s).map Value.string).toArray 9)):=c
 clear c e2 hle hlen hwl
 go_enter Tryz.func135,Tryz.ntmps135
 go_wp2_with fail
 refine HC.out.mono ?_
 rintro e w' ⟨rfl,hw⟩
 have HW:=hid hw
 clear hw
 go_wp2_with fail
 go_ret
 exact ⟨rfl,HW.out⟩
theorem join_any (b o c:Nat) (xs:List ByteArray) (sep:ByteArray) (w:World) (hc:∀ (j:Nat) x,xs[j]? = some x→w.cell? ⟨b,o+j,none⟩=some (.string x)) (hb:b<w.heap.size) (hn:xs.length≤100000) (hcap:xs.length≤c) (hl:(Lib.join (xs.map (·.data.toList)) sep.data.toList).length≤140737488355328) :
  Calls Tryz.prog 131 #[.slice (some ⟨b,o,none⟩) xs.length c,.string sep] w fun e w'=>e=.returned (.string ⟨(Lib.join (xs.map (·.data.toList)) sep.data.toList).toArray⟩)∧Below w.heap.size w w' :=
 Any.strings_Join Tryz.lays156 Tryz.Builder_Extra_156 b o c xs sep w hc hb (by omega) hcap hl
def TabO (w:World):Prop:=∃ t fr,w.heap[10]? = some (.cells (Lib.pow10Tab.map fun z=>Value.int .u64 z).toArray t fr)
theorem TabO.later {w w':World} (h:TabO w) (hb:Below w.heap.size w w'):TabO w':=by
 obtain ⟨t,fr,h⟩:=h
 exact ⟨t,fr,(hb.block _ (row_ltJ h)).trans h⟩
theorem itoa_any (n:Nat) (w:World) (ht:TabO w) (h1:n≤9223372036854775807) :
  Calls Tryz.prog 64 #[.int .i64 (n:Int)] w fun e w'=>e=.returned (.string (bB (Lib.decDigits n)))∧Below w.heap.size w w':=by
 obtain ⟨t,fr,ht⟩:=ht
 refine (Any.strconv_Itoa Tryz.laysM171 (n:Int) (by omega) (by omega) w ?_).mono ?_
 ·have hg:∀ nm,Tryz.prog.globalNamed nm=some 10→Lib.TabIs Tryz.prog w nm .u64 Lib.pow10Tab:=fun nm hn=>by
   unfold Lib.TabIs World.var?
   rw [hn]
   simp only [Option.bind_some,ht]
  exact hg _ (by kernel_rfl)
 ·rintro e w' ⟨rfl,k,os,rfl⟩
  refine ⟨?_,Lib.below_grow _ w (Nat.le_refl _) k os⟩
  rw [Lib.itoa_nonneg]
theorem greatest_is (pb:Nat) (a:Option Addr) (cap:Nat) (L:List S3) (ph m:Int) (is:Bool) (w:World) (hp:w.cell? ⟨pb,0,none⟩=some (.slice a L.length cap)) (hl:L.length≤200) (hL:SL w a L) (h:gr ph L=(m,is)) :
  Calls Tryz.prog 247 #[.int .i64 ph,.pointer (some ⟨pb,0,none⟩)] w fun e w'=>e=.returned (.tuple #[.int .i64 m,.bool is])∧Below w.heap.size w w':=by
 have:=greatest_any pb a cap L ph w hp hl hL
 rw [h] at this
 exact this
theorem choose_any (a:Option Addr) (cap:Nat) (L:List S3) (w:World) (hl:L.length≤200) (hL:SL w a L) :
  Calls Tryz.prog 221 #[.slice a L.length cap] w fun e w'=>e=.returned (.tuple #[.int .i64 (chooseL L).1,.bool (chooseL L).2])∧Below w.heap.size w w':=by
 have HL:=hid hL
 obtain ⟨⟨cp,cf⟩,HC⟩:∃ x,Hid (chooseL L=x):=⟨_,rfl⟩
 rw [HC.out]
 obtain ⟨⟨m2,i2⟩,H2⟩:∃ x,Hid (gr 2 L=x):=⟨_,rfl⟩
 obtain ⟨⟨m3,i3⟩,H3⟩:∃ x,Hid (gr 3 L=x):=⟨_,rfl⟩
 obtain ⟨⟨m4,i4⟩,H4⟩:∃ x,Hid (gr 4 L=x):=⟨_,rfl⟩
 obtain ⟨⟨m5,i5⟩,H5⟩:∃ x,Hid (gr 5 L=x):=⟨_,rfl⟩
 have HD:Hid ((if i2=true then ((2:Int),true) else if i3=true then (3,true) else if i4=true∧(i5=false ∨ m5≤m4) then (4,false) else (5,false))=(cp,cf)):=by
  unfold Hid; rw [← HC.out]; unfold chooseL; rw [H2.out,H3.out,H4.out,H5.out]
 clear hL HC
 have hmf:∀ (fn:Fn) (first cap:Array Value) (w:World),(Instr.makeFunc fn first cap).run Tryz.prog w=.ok (.func fn first cap) w:=fun _ _ _ _=>rfl
 go_enter Tryz.func221,Tryz.ntmps221
 go_wp2_with fail
 go_loopw [16] (fun i wr=>∃ k:Nat,k≤2∧i=.int .i64 (k:Int)∧(0<k→i2=false)∧(1<k→i3=false)∧Below w.heap.size w wr∧wr.cell? ⟨w.heap.size,0,none⟩=some (.slice a L.length cap)∧wr.cell? ⟨w.heap.size+1,0,none⟩=some (.int .i64 2)∧wr.cell? ⟨w.heap.size+1,1,none⟩=some (.int .i64 3)) (fun i _=>2 - (intOf i).toNat)
 case atStart =>
  refine ⟨0,by omega,rfl,by omega,by omega,((Below.refl _ _).alloc (Nat.le_refl _) _).alloc (by simp) _,?_,?_,?_⟩
  ·exact cell_alloc _ (by simp)
  ·rw [World.cell?_alloc_at _ _ _ _ (by simp)]; rfl
  ·rw [World.cell?_alloc_at _ _ _ _ (by simp)]; rfl
 case round =>
  obtain ⟨k,hk,rfl,hk1,hk2,hb,c0,c1,c2⟩:=hrel
  have HB:=hid hb
  have C0:=hid c0
  have C1:=hid c1
  have C2:=hid c2
  have HLw:=hid (HL.out.later hb)
  have hlt0:=cell_lt c0
  have hlt1:=cell_lt c1
  clear hb
  rcases (by omega:k=0 ∨ k=1 ∨ k=2) with rfl|rfl|rfl
  ·clear hk1 hk2
   cases i2 with
   | true =>
    obtain ⟨rfl,rfl⟩:(2:Int)=cp∧true=cf:=by simpa using HD.out
    clear HD
    go_wp2_with (go_at_call 247; refine (greatest_is w.heap.size a cap L 2 m2 true _ C0.out hl HLw.out H2.out).mono ?_; rintro e w1 ⟨rfl,hb1⟩)
    go_ret2
    exact ⟨rfl,below_trans HB.out hb1⟩
   | false =>
    go_wp2_with (go_at_call 247; refine (greatest_is w.heap.size a cap L 2 m2 false _ C0.out hl HLw.out H2.out).mono ?_; rintro e w1 ⟨rfl,hb1⟩)
    go_roundw
    case rel=>exact ⟨1,by omega,by go_num,(by intros; trivial),by omega,below_trans HB.out hb1,cell_later hb1 C0.out,cell_later hb1 C1.out,cell_later hb1 C2.out⟩
    case measure=>simp [intOf]
  ·obtain rfl:=hk1 (by omega)
   clear hk1 hk2
   cases i3 with
   | true =>
    obtain ⟨rfl,rfl⟩:(3:Int)=cp∧true=cf:=by simpa using HD.out
    clear HD
    go_wp2_with (go_at_call 247; refine (greatest_is w.heap.size a cap L 3 m3 true _ C0.out hl HLw.out H3.out).mono ?_; rintro e w1 ⟨rfl,hb1⟩)
    go_ret2
    exact ⟨rfl,below_trans HB.out hb1⟩
   | false =>
    go_wp2_with (go_at_call 247; refine (greatest_is w.heap.size a cap L 3 m3 false _ C0.out hl HLw.out H3.out).mono ?_; rintro e w1 ⟨rfl,hb1⟩)
    go_roundw
    case rel=>exact ⟨2,by omega,by go_num,(by intros; trivial),(by intros; trivial),below_trans HB.out hb1,cell_later hb1 C0.out,cell_later hb1 C1.out,cell_later hb1 C2.out⟩
    case measure=>simp [intOf]
  ·obtain rfl:=hk1 (by omega)
   obtain rfl:=hk2 (by omega)
   clear hk1 hk2 c0 c1 c2
   have HD2:Hid ((if i4=true∧(i5=false ∨ m5≤m4) then ((4:Int),false) else (5,false))=(cp,cf)):=by unfold Hid; simpa using HD.out
   clear HD
   cases i4 with
   | false =>
    obtain ⟨rfl,rfl⟩:(5:Int)=cp∧false=cf:=by simpa using HD2.out
    clear HD2
    go_wp2_with (go_at_call 247; first
     | ((with_reducible refine (greatest_is w.heap.size a cap L 5 m5 i5 _ (cell_later hb1 C0.out) hl (HLw.out.later hb1) H5.out).mono ?_); rintro e w2 ⟨rfl,hb2⟩)
     | ((with_reducible refine (greatest_is w.heap.size a cap L 4 m4 false _ C0.out hl HLw.out H4.out).mono ?_); rintro e w1 ⟨rfl,hb1⟩))
    go_ret2
    exact ⟨rfl,below_trans (below_trans HB.out hb1) hb2⟩
   | true =>
    cases i5 with
    | false =>
     obtain ⟨rfl,rfl⟩:(4:Int)=cp∧false=cf:=by simpa using HD2.out
     clear HD2
     go_wp2_with (go_at_call 247; first
      | ((with_reducible refine (greatest_is w.heap.size a cap L 5 m5 false _ (cell_later hb1 C0.out) hl (HLw.out.later hb1) H5.out).mono ?_); rintro e w2 ⟨rfl,hb2⟩)
      | ((with_reducible refine (greatest_is w.heap.size a cap L 4 m4 true _ C0.out hl HLw.out H4.out).mono ?_); rintro e w1 ⟨rfl,hb1⟩))
     go_ret2
     exact ⟨rfl,below_trans (below_trans HB.out hb1) hb2⟩
    | true =>
     by_cases hm:m5≤m4
     ·obtain ⟨rfl,rfl⟩:(4:Int)=cp∧false=cf:=by simpa [hm] using HD2.out
      clear HD2
      go_wp2_with (go_at_call 247; first
       | ((with_reducible refine (greatest_is w.heap.size a cap L 5 m5 true _ (cell_later hb1 C0.out) hl (HLw.out.later hb1) H5.out).mono ?_); rintro e w2 ⟨rfl,hb2⟩)
       | ((with_reducible refine (greatest_is w.heap.size a cap L 4 m4 true _ C0.out hl HLw.out H4.out).mono ?_); rintro e w1 ⟨rfl,hb1⟩))
      go_ret2
      exact ⟨rfl,below_trans (below_trans HB.out hb1) hb2⟩
     ·obtain ⟨rfl,rfl⟩:(5:Int)=cp∧false=cf:=by simpa [hm] using HD2.out
      clear HD2
      go_wp2_with (go_at_call 247; first
       | ((with_reducible refine (greatest_is w.heap.size a cap L 5 m5 true _ (cell_later hb1 C0.out) hl (HLw.out.later hb1) H5.out).mono ?_); rintro e w2 ⟨rfl,hb2⟩)
       | ((with_reducible refine (greatest_is w.heap.size a cap L 4 m4 true _ C0.out hl HLw.out H4.out).mono ?_); rintro e w1 ⟨rfl,hb1⟩))
      go_ret2
      exact ⟨rfl,below_trans (below_trans HB.out hb1) hb2⟩
def bdB (n:Int) (e:E3):Bool:=decide ((0≤e.s∧e.s<n)∧(0≤e.d∧e.d<6)∧(e.p=2 ∨ e.p=3))
def spB (P:List E3) (e:E3):Bool:=P.any fun q=>decide (q.d=e.d∧q.p≠e.p)
def heB (P:List E3) (e:E3):Bool:=P.any fun q=>decide (q.d=e.d∧q.s=e.s)
def evC (n:Int) (P:List E3) (e:E3):Nat:=if bdB n e=false then 2 else if spB P e=true then 9 else if heB P e=true then 8 else 0
def EvW (n:Int) (L:List E3) (k:Nat):Prop:=∀ j (h:j<L.length),j<k→evC n (L.take j) (L[j]'h)=0
def EvF (n:Int) (L:List E3) (c k:Nat):Prop:=EvW n L k∧((c=0∧k=L.length) ∨ ∃ h:k<L.length,c≠0∧evC n (L.take k) (L[k]'h)=c)
def endL (P:List E3) (d:Nat):Int:=P.foldl (fun x e=>if e.d=(d:Int) then e.p else x) 0
def sitL (P:List E3) (d:Nat):Int:=P.foldl (fun x e=>if e.d=(d:Int) then bits .or .i64 x (2 ^ e.s.toNat) else x) 0
theorem endL_snoc (P:List E3) (e:E3) (d:Nat):endL (P ++ [e]) d=if e.d=(d:Int) then e.p else endL P d:=by simp [endL,List.foldl_append]
theorem sitL_snoc (P:List E3) (e:E3) (d:Nat):sitL (P ++ [e]) d=if e.d=(d:Int) then bits .or .i64 (sitL P d) (2 ^ e.s.toNat) else sitL P d:=by simp [sitL,List.foldl_append]
structure EvK (n:Int) (P:List E3):Prop where
 bd:∀ q,q∈P→bdB n q=true
 en:∀ q,q∈P→∀ d:Nat,q.d=(d:Int)→endL P d=q.p
 e0:∀ d:Nat,endL P d≠0→∃ q,q∈P∧q.d=(d:Int)
 s0:∀ d:Nat,0≤sitL P d∧sitL P d<128
 si:∀ (d i:Nat),i<7→bit (sitL P d) i=P.any fun q=>decide (q.d=(d:Int)∧q.s=(i:Int))
theorem EvK.nil (n:Int):EvK n []:=⟨fun _ h=>(by cases h),fun _ h=>(by cases h),fun _ h=>absurd rfl h,fun _=>⟨(show (0:Int)≤0 by omega),(show (0:Int)<128 by omega)⟩,fun d i _=>by show bit 0 i=false; unfold bit; simp⟩
theorem orAllE:((List.range 128).all fun s=>(List.range 7).all fun q=>(decide (s ||| 2 ^ q<128)) && (List.range 7).all fun j=>(Nat.testBit (s ||| 2 ^ q) j == (Nat.testBit s j || decide (q=j))))=true:=by decide +kernel
theorem bit_orE {x:Int} {q:Nat} (h0:0≤x) (h1:x<128) (hq:q<7):(0≤bits .or .i64 x (2 ^ q)∧bits .or .i64 x (2 ^ q)<128)∧∀ j,j<7→bit (bits .or .i64 x (2 ^ q)) j=(bit x j || decide (q=j)):=by
 obtain ⟨s,rfl⟩:=Int.eq_ofNat_of_zero_le h0
 have hs:s<128:=by omega
 have h:=List.all_eq_true.1 (List.all_eq_true.1 orAllE s (List.mem_range.2 hs)) q (List.mem_range.2 hq)
 rw [Bool.and_eq_true] at h
 have h3:(2:Nat) ^ q<9223372036854775808:=Nat.lt_of_lt_of_le (Nat.pow_lt_pow_right (by decide) hq) (by decide)
 have h4:=of_decide_eq_true h.1
 rw [pow_nat,bits_or_nat s (2 ^ q) (by omega) h3]
 refine ⟨by omega,fun j hj=>?_⟩
 have:=List.all_eq_true.1 h.2 j (List.mem_range.2 hj)
 unfold bit
 rw [Int.toNat_natCast,Int.toNat_natCast]
 exact eq_of_beq this
theorem evC_zero {n:Int} {P:List E3} {e:E3} (h:evC n P e=0):bdB n e=true∧spB P e=false∧heB P e=false:=by
 unfold evC at h
 split at h
 ·cases h
 ·rename_i h1
  split at h
  ·cases h
  ·rename_i h2
   split at h
   ·cases h
   ·rename_i h3
    refine ⟨?_,?_,?_⟩
    ·cases hb:bdB n e with
     | true=>rfl
     | false=>exact absurd hb h1
    ·cases hb:spB P e with
     | false=>rfl
     | true=>exact absurd hb h2
    ·cases hb:heB P e with
     | false=>rfl
     | true=>exact absurd hb h3
theorem EvK.snoc {n:Int} {P:List E3} {e:E3} (hn:n≤7) (h:EvK n P) (hc:evC n P e=0):EvK n (P ++ [e]):=by
 obtain ⟨c1,c2,c3⟩:=evC_zero hc
 have b:=of_decide_eq_true c1
 refine ⟨fun q hq=>?_,fun q hq d hd=>?_,fun d hd=>?_,fun d=>?_,fun d i hi=>?_⟩
 ·rcases List.mem_append.1 hq with x|x
  ·exact h.bd q x
  ·rw [List.mem_singleton] at x; rw [x]; exact c1
 ·rw [endL_snoc]
  rcases List.mem_append.1 hq with x|x
  ·split
   ·rename_i he
    have:=List.any_eq_false.1 c2 q x
    simp only [decide_eq_true_eq,not_and] at this
    have h2:=this (by omega)
    omega
   ·exact h.en q x d hd
  ·rw [List.mem_singleton] at x
   subst x
   rw [if_pos hd]
 ·rw [endL_snoc] at hd
  split at hd
  ·rename_i he
   exact ⟨e,List.mem_append.2 (.inr (List.mem_singleton.2 rfl)),he⟩
  ·obtain ⟨q,h1,h2⟩:=h.e0 d hd
   exact ⟨q,List.mem_append.2 (.inl h1),h2⟩
 ·rw [sitL_snoc]
  split
  ·exact (bit_orE (h.s0 d).1 (h.s0 d).2 (by omega)).1
  ·exact h.s0 d
 ·rw [sitL_snoc,List.any_append,List.any_cons,List.any_nil,Bool.or_false]
  split
  ·rename_i he
   rw [(bit_orE (h.s0 d).1 (h.s0 d).2 (by omega)).2 i hi,h.si d i hi]
   congr 1
   refine decide_eq_decide.2 ?_
   omega
  ·rename_i he
   rw [h.si d i hi,decide_eq_false (fun x=>he x.1),Bool.or_false]
theorem EvW.kept {n:Int} {L:List E3} (hn:n≤7):∀ {k:Nat},k≤L.length→EvW n L k→EvK n (L.take k)
 | 0,_,_=>by rw [List.take_zero]; exact EvK.nil n
 | k+1,hk,h=>by
  rw [take_snoc L k hk]
  exact (EvW.kept hn (Nat.le_of_succ_le hk) (fun j hj hlt=>h j hj (Nat.lt_succ_of_lt hlt))).snoc hn (h k hk (Nat.lt_succ_self _))
theorem EvK.split {n:Int} {P:List E3} (h:EvK n P) {e:E3} {d:Nat} (hd:e.d=(d:Int)):spB P e=(endL P d != 0 && endL P d != e.p):=by
 rw [Bool.eq_iff_iff,Bool.and_eq_true,bne_iff_ne,bne_iff_ne]
 unfold spB
 rw [List.any_eq_true]
 constructor
 ·rintro ⟨q,hq,hx⟩
  have hx:=of_decide_eq_true hx
  have h1:=h.en q hq d (by omega)
  have h2:=of_decide_eq_true (h.bd q hq)
  omega
 ·rintro ⟨h1,h2⟩
  obtain ⟨q,hq,hqd⟩:=h.e0 d h1
  have h3:=h.en q hq d hqd
  exact ⟨q,hq,decide_eq_true ⟨by omega,by omega⟩⟩
theorem EvK.held {n:Int} {P:List E3} (h:EvK n P) {e:E3} {d i:Nat} (hd:e.d=(d:Int)) (hi:e.s=(i:Int)) (h7:i<7):heB P e=bit (sitL P d) i:=by
 rw [h.si d i h7]
 unfold heB
 rw [hd,hi]
theorem jbelow_is (x n:Int) (b:Bool) (w:World) (hb:decide (0≤x∧x<n)=b):Calls Tryz.prog 170 #[.int .i64 x,.int .i64 n] w fun e w'=>e=.returned (.bool b)∧w'=w:=by
 subst hb
 by_cases h0:0≤x
 ·by_cases h1:x<n
  ·rw [decide_eq_true (show 0≤x∧x<n from ⟨h0,h1⟩)]
   go_enter Tryz.func170,Tryz.ntmps170
   go_wp2_with fail
   go_ret
   exact ⟨rfl,rfl⟩
  ·rw [decide_eq_false (show ¬ (0≤x∧x<n) from fun h=>h1 h.2)]
   have e1:decide (x<n)=false:=decide_eq_false h1
   go_enter Tryz.func170,Tryz.ntmps170
   go_wp2_with fail
   go_ret
   exact ⟨rfl,rfl⟩
 ·rw [decide_eq_false (show ¬ (0≤x∧x<n) from fun h=>h0 h.1)]
  have e1:decide (0≤x)=false:=decide_eq_false h0
  go_enter Tryz.func170,Tryz.ntmps170
  go_wp2_with fail
  go_ret
  exact ⟨rfl,rfl⟩
theorem jisEnd_is (p:Int) (b:Bool) (w:World) (hb:decide (p=2 ∨ p=3)=b):Calls Tryz.prog 171 #[.int .i64 p] w fun e w'=>e=.returned (.bool b)∧w'=w:=by
 subst hb
 by_cases h2:p=2
 ·subst h2
  go_enter Tryz.func171,Tryz.ntmps171
  go_wp2_with fail
  go_ret
  exact ⟨rfl,rfl⟩
 ·by_cases h3:p=3
  ·subst h3
   go_enter Tryz.func171,Tryz.ntmps171
   go_wp2_with fail
   go_ret
   exact ⟨rfl,rfl⟩
  ·rw [decide_eq_false (show ¬ (p=2 ∨ p=3) by omega)]
   have b2:(p == 2)=false:=beq_eq_false_iff_ne.2 h2
   have b3:(p == 3)=false:=beq_eq_false_iff_ne.2 h3
   go_enter Tryz.func171,Tryz.ntmps171
   go_wp2_with fail
   go_ret
   exact ⟨rfl,rfl⟩
theorem threeE {w:World} {b:Nat} {a c e:Value} {t:TypeId} {f:Nat×Nat} (h:w.heap[b]? = some (.cells #[a,c,e] t f)):w.cell? ⟨b,0,none⟩=some a∧w.cell? ⟨b,1,none⟩=some c∧w.cell? ⟨b,2,none⟩=some e :=
 ⟨by rw [cell_of_row _ _ _ _ _ _ h]; rfl,by rw [cell_of_row _ _ _ _ _ _ h]; rfl,by rw [cell_of_row _ _ _ _ _ _ h]; rfl⟩
def verL (E S:Nat→Int):List Value:=[.int .i64 (E 0),.int .i64 (S 0),.int .i64 (E 1),.int .i64 (S 1),.int .i64 (E 2),.int .i64 (S 2),.int .i64 (E 3),.int .i64 (S 3),.int .i64 (E 4),.int .i64 (S 4),.int .i64 (E 5),.int .i64 (S 5)]
def verV (E S:Nat→Int):Value:=.agg #[.int .i64 (E 0),.int .i64 (S 0),.int .i64 (E 1),.int .i64 (S 1),.int .i64 (E 2),.int .i64 (S 2),.int .i64 (E 3),.int .i64 (S 3),.int .i64 (E 4),.int .i64 (S 4),.int .i64 (E 5),.int .i64 (S 5)]
theorem verL_get (E S:Nat→Int) {d:Nat} (hd:d<6):(verL E S)[d * 2]? = some (.int .i64 (E d))∧(verL E S)[d * 2+1]? = some (.int .i64 (S d)):=by
 have h:d=0 ∨ d=1 ∨ d=2 ∨ d=3 ∨ d=4 ∨ d=5:=by omega
 rcases h with rfl|rfl|rfl|rfl|rfl|rfl <;> exact ⟨rfl,rfl⟩
theorem ver_cells {w:World} {b:Nat} {E S:Nat→Int} {t:TypeId} (h:w.heap[b]? = some (.cells (verL E S).toArray t (0,0))) {d:Nat} (hd:d<6):w.cell? ⟨b,d * 2,none⟩=some (.int .i64 (E d))∧w.cell? ⟨b,d * 2+1,none⟩=some (.int .i64 (S d)):=by
 obtain ⟨h1,h2⟩:=verL_get E S hd
 exact ⟨by rw [cell_of_row _ _ _ _ _ _ h,List.getElem?_toArray]; exact h1,by rw [cell_of_row _ _ _ _ _ _ h,List.getElem?_toArray]; exact h2⟩
theorem jfault_bad (A:Nat→Addr) (s d p n:Int) (E S:Nat→Int) (w:World) (hE:Held9 w A) (hb:bdB n ⟨s,d,p⟩=false) :
  Calls Tryz.prog 126 #[.agg #[.int .i64 s,.int .i64 d,.int .i64 p],.int .i64 n,verV E S] w fun e w'=>e=.returned (ev A 2)∧Below w.heap.size w w':=by
 obtain ⟨x1,H1⟩:∃ x,Hid (decide (0≤s∧s<n)=x):=⟨_,rfl⟩
 obtain ⟨x2,H2⟩:∃ x,Hid (decide (0≤d∧d<6)=x):=⟨_,rfl⟩
 obtain ⟨x3,H3⟩:∃ x,Hid (decide (p=2 ∨ p=3)=x):=⟨_,rfl⟩
 have HX:Hid (x1=true→x2=true→x3=false):=fun e1 e2=>by
  have h1:=of_decide_eq_true (H1.out.trans e1)
  have h2:=of_decide_eq_true (H2.out.trans e2)
  rw [← H3.out]
  refine decide_eq_false fun h3=>?_
  exact of_decide_eq_false hb ⟨h1,h2,h3⟩
 obtain ⟨W,HW⟩:∃ W,Hid ((w.alloc (.cells #[.int .i64 s,.int .i64 d,.int .i64 p] 180)).alloc (.cells #[.int .i64 (E 0),.int .i64 (S 0),.int .i64 (E 1),.int .i64 (S 1),.int .i64 (E 2),.int .i64 (S 2),.int .i64 (E 3),.int .i64 (S 3),.int .i64 (E 4),.int .i64 (S 4),.int .i64 (E 5),.int .i64 (S 5)] 179)=W):=⟨_,rfl⟩
 have HB:Hid (Below w.heap.size w W):=by rw [← HW.out]; exact ((Below.refl _ _).alloc (Nat.le_refl _) _).alloc (by simp) _
 have HR:Hid (W.heap[w.heap.size]? = some (.cells #[.int .i64 s,.int .i64 d,.int .i64 p] 180 (0,0))):=by
  rw [← HW.out]
  exact (heap_alloc_old _ _ (by simp)).trans (heap_alloc_new w _)
 obtain ⟨b0,b1,b2⟩:=threeE HR.out
 have hW:=HW.out
 have c1:=(hE.later HB.out).cells.2.1
 unfold verV
 clear hE hb
 cases x1 with
 | false =>
  go_enter Tryz.func126,Tryz.ntmps126
  go_wp2_with fail
  refine (jbelow_is s n false _ H1.out).mono ?_
  rintro e w1 ⟨rfl,hx⟩
  subst w1
  go_wp2_with fail
  go_ret
  exact ⟨rfl,HB.out⟩
 | true =>
  cases x2 with
  | false =>
   go_enter Tryz.func126,Tryz.ntmps126
   go_wp2_with fail
   refine (jbelow_is s n true _ H1.out).mono ?_
   rintro e w1 ⟨rfl,hx⟩
   subst w1
   go_wp2_with fail
   refine (jbelow_is d 6 false _ H2.out).mono ?_
   rintro e w1 ⟨rfl,hx⟩
   subst w1
   go_wp2_with fail
   go_ret
   exact ⟨rfl,HB.out⟩
  | true =>
   obtain rfl:=HX.out rfl rfl
   go_enter Tryz.func126,Tryz.ntmps126
   go_wp2_with fail
   refine (jbelow_is s n true _ H1.out).mono ?_
   rintro e w1 ⟨rfl,hx⟩
   subst w1
   go_wp2_with fail
   refine (jbelow_is d 6 true _ H2.out).mono ?_
   rintro e w1 ⟨rfl,hx⟩
   subst w1
   go_wp2_with fail
   refine (jisEnd_is p false _ H3.out).mono ?_
   rintro e w1 ⟨rfl,hx⟩
   subst w1
   go_wp2_with fail
   go_ret
   exact ⟨rfl,HB.out⟩
theorem bit_and1 {s:Int} (k:Nat) (h0:0≤s) (h1:s<9223372036854775808):(bits BinOp.and IntKind.i64 (s / 2 ^ k) 1 == 1)=bit s k:=by
 obtain ⟨m,rfl⟩:=Int.eq_ofNat_of_zero_le h0
 have e:((m:Int) / 2 ^ k)=((m / 2 ^ k:Nat):Int):=by simp
 have hlt:m / 2 ^ k<9223372036854775808:=Nat.lt_of_le_of_lt (Nat.div_le_self _ _) (by omega)
 rw [e,show (1:Int)=((1:Nat):Int) from rfl,bits_and_nat _ 1 hlt (by decide),Nat.and_one_is_mod]
 unfold bit
 rw [Int.toNat_natCast,Nat.testBit_eq_decide_div_mod_eq,Bool.eq_iff_iff]
 simp; omega
theorem jfault_ok (A:Nat→Addr) (s d:Nat) (p n:Int) (E S:Nat→Int) (x y:Bool) (w:World) (hE:Held9 w A) (hs:(s:Int)<n) (hn:n≤7) (hd:d<6) (hp:p=2 ∨ p=3) (hx:(E d != 0 && E d != p)=x) (h0:0≤S d) (h1:S d<128) (hy:bit (S d) s=y) :
  Calls Tryz.prog 126 #[.agg #[.int .i64 (s:Int),.int .i64 (d:Int),.int .i64 p],.int .i64 n,verV E S] w fun e w'=>e=.returned (ev A (if x=true then 9 else if y=true then 8 else 0))∧Below w.heap.size w w':=by
 have H1:Hid (decide (0≤(s:Int)∧(s:Int)<n)=true):=hid (decide_eq_true ⟨by omega,hs⟩)
 have H2:Hid (decide (0≤(d:Int)∧(d:Int)<6)=true):=hid (decide_eq_true ⟨by omega,by omega⟩)
 have H3:Hid (decide (p=2 ∨ p=3)=true):=hid (decide_eq_true hp)
 obtain ⟨W,HW⟩:∃ W,Hid ((w.alloc (.cells #[.int .i64 (s:Int),.int .i64 (d:Int),.int .i64 p] 180)).alloc (.cells #[.int .i64 (E 0),.int .i64 (S 0),.int .i64 (E 1),.int .i64 (S 1),.int .i64 (E 2),.int .i64 (S 2),.int .i64 (E 3),.int .i64 (S 3),.int .i64 (E 4),.int .i64 (S 4),.int .i64 (E 5),.int .i64 (S 5)] 179)=W):=⟨_,rfl⟩
 have HB:Hid (Below w.heap.size w W):=by rw [← HW.out]; exact ((Below.refl _ _).alloc (Nat.le_refl _) _).alloc (by simp) _
 have HR:Hid (W.heap[w.heap.size]? = some (.cells #[.int .i64 (s:Int),.int .i64 (d:Int),.int .i64 p] 180 (0,0))):=by
  rw [← HW.out]
  exact (heap_alloc_old _ _ (by simp)).trans (heap_alloc_new w _)
 have HV:Hid (W.heap[w.heap.size+1]? = some (.cells (verL E S).toArray 179 (0,0))):=by
  rw [← HW.out]
  have:=heap_alloc_new (w.alloc (.cells #[.int .i64 (s:Int),.int .i64 (d:Int),.int .i64 p] 180)) (.cells (verL E S).toArray 179)
  rw [World.size_alloc] at this
  exact this
 obtain ⟨b0,b1,b2⟩:=threeE HR.out
 obtain ⟨v0,v1⟩:=ver_cells HV.out hd
 have hW:=HW.out
 obtain ⟨-,c1,-,-,-,-,-,c7,c8⟩:=(hE.later HB.out).cells
 have hbit:Hid ((bits BinOp.and IntKind.i64 (S d / 2 ^ s) 1 == 1)=y):=by rw [← hy]; exact bit_and1 s h0 (by omega)
 obtain ⟨ed,HED⟩:∃ z,Hid (E d=z):=⟨_,rfl⟩
 obtain ⟨sd,HSD⟩:∃ z,Hid (S d=z):=⟨_,rfl⟩
 rw [HED.out] at v0 hx
 rw [HSD.out] at v1 hbit h0 h1
 unfold verV
 clear hE hp HR HV
 cases x with
 | true =>
  rw [Bool.and_eq_true,bne_iff_ne,bne_iff_ne] at hx
  have e1:(ed != 0)=true:=bne_iff_ne.2 hx.1
  have e2:(ed != p)=true:=bne_iff_ne.2 hx.2
  rw [if_pos rfl]
  go_enter Tryz.func126,Tryz.ntmps126
  go_wp2_with fail
  refine (jbelow_is s n true _ H1.out).mono ?_
  rintro e w1 ⟨rfl,hx⟩
  subst w1
  go_wp2_with fail
  refine (jbelow_is d 6 true _ H2.out).mono ?_
  rintro e w1 ⟨rfl,hx⟩
  subst w1
  go_wp2_with fail
  refine (jisEnd_is p true _ H3.out).mono ?_
  rintro e w1 ⟨rfl,hx⟩
  subst w1
  go_wp2_with fail
  go_quiet (fail)
  go_wp2
  go_ret
  exact ⟨rfl,below_drewN HB.out _⟩
 | false =>
  rw [if_neg (by decide)]
  have key:∀ f1 f2:Bool,(ed != 0)=f1→(f1=true→(ed != p)=f2∧f2=false)→Calls Tryz.prog 126 #[.agg #[.int .i64 (s:Int),.int .i64 (d:Int),.int .i64 p],.int .i64 n,.agg #[.int .i64 (E 0),.int .i64 (S 0),.int .i64 (E 1),.int .i64 (S 1),.int .i64 (E 2),.int .i64 (S 2),.int .i64 (E 3),.int .i64 (S 3),.int .i64 (E 4),.int .i64 (S 4),.int .i64 (E 5),.int .i64 (S 5)]] w fun e w'=>e=.returned (ev A (if y=true then 8 else 0))∧Below w.heap.size w w':=by
   intro f1 f2 e1 e2
   have e3:f1=true→(ed != p)=false:=fun h=>by obtain ⟨a1,a2⟩:=e2 h; rw [a1,a2]
   clear e2
   cases f1 with
   | true =>
    have e4:=e3 rfl
    clear e3 hx
    go_enter Tryz.func126,Tryz.ntmps126
    go_wp2_with fail
    refine (jbelow_is s n true _ H1.out).mono ?_
    rintro e w1 ⟨rfl,hx⟩
    subst w1
    go_wp2_with fail
    refine (jbelow_is d 6 true _ H2.out).mono ?_
    rintro e w1 ⟨rfl,hx⟩
    subst w1
    go_wp2_with fail
    refine (jisEnd_is p true _ H3.out).mono ?_
    rintro e w1 ⟨rfl,hx⟩
    subst w1
    go_wp2_with fail
    go_quiet (fail)
    go_wp2
    go_quiet (fail)
    rw [hbit.out]
    cases y with
    | true =>
     go_wp2
     go_ret
     exact ⟨rfl,below_drewN HB.out _⟩
    | false =>
     go_wp2
     go_ret
     exact ⟨rfl,below_drewN HB.out _⟩
   | false =>
    clear e3 hx
    go_enter Tryz.func126,Tryz.ntmps126
    go_wp2_with fail
    refine (jbelow_is s n true _ H1.out).mono ?_
    rintro e w1 ⟨rfl,hx⟩
    subst w1
    go_wp2_with fail
    refine (jbelow_is d 6 true _ H2.out).mono ?_
    rintro e w1 ⟨rfl,hx⟩
    subst w1
    go_wp2_with fail
    refine (jisEnd_is p true _ H3.out).mono ?_
    rintro e w1 ⟨rfl,hx⟩
    subst w1
    go_wp2_with fail
    go_quiet (fail)
    go_wp2
    go_quiet (fail)
    rw [hbit.out]
    cases y with
    | true =>
     go_wp2
     go_ret
     exact ⟨rfl,below_drewN HB.out _⟩
    | false =>
     go_wp2
     go_ret
     exact ⟨rfl,below_drewN HB.out _⟩
  refine key _ (ed != p) rfl fun h=>⟨rfl,?_⟩
  rw [h,Bool.true_and] at hx
  exact hx
theorem jfault_any (A:Nat→Addr) (e:E3) (n:Int) (P:List E3) (c:Nat) (w:World) (hE:Held9 w A) (hn:n≤7) (hk:EvK n P) (hc:evC n P e=c) :
  Calls Tryz.prog 126 #[.agg #[.int .i64 e.s,.int .i64 e.d,.int .i64 e.p],.int .i64 n,verV (endL P) (sitL P)] w fun r w'=>r=.returned (ev A c)∧Below w.heap.size w w':=by
 subst hc
 unfold evC
 cases hb:bdB n e with
 | false =>
  rw [if_pos rfl]
  exact jfault_bad A e.s e.d e.p n _ _ w hE hb
 | true =>
  rw [if_neg (by decide)]
  obtain ⟨⟨s0,s1⟩,⟨d0,d1⟩,hp⟩:=of_decide_eq_true hb
  obtain ⟨s,hs⟩:=Int.eq_ofNat_of_zero_le s0
  obtain ⟨d,hd⟩:=Int.eq_ofNat_of_zero_le d0
  have h:=jfault_ok A s d e.p n (endL P) (sitL P) _ _ w hE (by omega) hn (by omega) hp rfl (hk.s0 d).1 (hk.s0 d).2 rfl
  rw [← hk.split hd,← hk.held hd hs (by omega)] at h
  rw [hs,hd]
  exact h
theorem rafter_any (a:Int) (w:World):Calls Tryz.prog 150 #[.int .i64 a] w fun e w'=>e=.returned (.int .i64 (afterI a))∧w'=w:=by
 unfold afterI
 by_cases h4:a=4
 ·subst h4
  go_enter Tryz.func150,Tryz.ntmps150
  go_wp2
  go_ret
  exact ⟨rfl,rfl⟩
 ·rw [if_neg h4]
  by_cases h5:a=5
  ·subst h5
   go_enter Tryz.func150,Tryz.ntmps150
   go_wp2
   go_ret
   exact ⟨rfl,rfl⟩
  ·rw [if_neg h5]
   go_enter Tryz.func150,Tryz.ntmps150
   go_wp2
   go_ret
   exact ⟨rfl,rfl⟩
end Go.Proofs.YtaehdgemkafinaaGreatDoor
