/-
  On the way to RisesProof: P1 P2 P3 P4 HeldJ.
-/
import Derived.Test.YtkopfpaldmapdaaDoorBr2
import Derived.Test.YtkopfpaldmapdaaDoorBr1
import Derived.Test.YtkopfpaldmapdaaDoorBr3
import Derived.LaidEql
import Derived.Stop.Asserts
import Derived.RowKitTokens
import Derived.Below
import Derived.Laws.CopyRow
import Derived.RegionTactic
import Derived.BigRegion
set_option maxHeartbeats 8000000
set_option maxRecDepth 100000
namespace Go.Proofs.YtkopfpaldmapdaaDoor
open Go.RowKit
def cellsB (B:ByteArray):Array Value:=(Lib.strCells B).toArray
theorem cellsB_at {B:ByteArray} {j:Nat} (h:j<B.size):(cellsB B)[j]? = some (.int .u8 ((B[j]'h).toNat:Int)):=by
 unfold cellsB
 rw [List.getElem?_toArray]
 exact strCells_at h
structure Pl (w:World) (p q:Nat) (B:ByteArray) (l:Int):Prop where
 ne:p≠q
 head:w.heap[p]? = some (.cells #[.slice (some ⟨q,0,none⟩) B.size B.size,.int .i64 l] 82 (0,0))
 row:w.heap[q]? = some (.cells (cellsB B) 5 (0,0))
theorem Pl.kept {S:Nat→Prop} {w w':World} {p q:Nat} {B:ByteArray} {l:Int} (h:Pl w p q B l) (k:Kept S w w') (hp:¬ S p) (hq:¬ S q):Pl w' p q B l:=⟨h.ne,k.row h.head hp,k.row h.row hq⟩
theorem Pl.c0 {w:World} {p q:Nat} {B:ByteArray} {l:Int} (h:Pl w p q B l):w.cell? ⟨p,0,none⟩=some (.slice (some ⟨q,0,none⟩) B.size B.size):=by rw [cell_of_row w p 0 _ _ _ h.head]; rfl
theorem Pl.c1 {w:World} {p q:Nat} {B:ByteArray} {l:Int} (h:Pl w p q B l):w.cell? ⟨p,1,none⟩=some (.int .i64 l):=by rw [cell_of_row w p 1 _ _ _ h.head]; rfl
theorem Pl.f1 {w:World} {p q:Nat} {B:ByteArray} {l:Int} (h:Pl w p q B l):w.frozen? ⟨p,1,none⟩=false:=frozen_of_row w p 1 _ _ h.head
theorem Pl.set {w:World} {p q:Nat} {B:ByteArray} {l:Int} (h:Pl w p q B l) (l':Int):Pl (w.setCell ⟨p,1,none⟩ (.int .i64 l')) p q B l' :=
 ⟨h.ne,by rw [heap_setCell_same w p 1 _ _ _ h.head]; rfl,by rw [heap_setCell_other w _ q _ (Ne.symm h.ne)]; exact h.row⟩
theorem Pl.drew {w:World} {p q:Nat} {B:ByteArray} {l:Int} (h:Pl w p q B l):Pl w.drew p q B l:=⟨h.ne,h.head,h.row⟩
def In2 (p q:Nat) (k:Nat):Prop:=k=p ∨ k=q
theorem kept_set {w:World} (p q:Nat) (v:Value):Kept (In2 p q) w (w.setCell ⟨p,1,none⟩ v):=(Kept.refl _ w).setCell (.inl rfl) v
theorem power_any (p q:Nat) (B:ByteArray) (l:Int) (w:World) (h:Pl w p q B l) :
  Calls Tryd.prog 41 #[.pointer (some ⟨p,0,none⟩)] w fun e w'=>e=.returned (.bool (l != -2))∧w'=w:=by
 have c1:=h.c1
 clear h
 go_enter Tryd.func41,Tryd.ntmps41
 go_wp2
 go_ret
 exact ⟨rfl,rfl⟩
theorem pon_any (p q:Nat) (B:ByteArray) (l:Int) (w:World) (h:Pl w p q B l) :
  Calls Tryd.prog 13 #[.pointer (some ⟨p,0,none⟩)] w fun e w'=>e=.returned (.tuple #[])∧Pl w' p q B (-1)∧Kept (In2 p q) w w':=by
 have c1:=h.c1
 have f1:=h.f1
 have H:=hid (h.set (-1))
 clear h
 go_enter Tryd.func13,Tryd.ntmps13
 go_wp2
 go_end0
 exact ⟨rfl,H.out,kept_set p q _⟩
theorem poff_any (p q:Nat) (B:ByteArray) (l:Int) (w:World) (h:Pl w p q B l) :
  Calls Tryd.prog 111 #[.pointer (some ⟨p,0,none⟩)] w fun e w'=>e=.returned (.tuple #[])∧Pl w' p q B (-2)∧Kept (In2 p q) w w':=by
 have c1:=h.c1
 have f1:=h.f1
 have H:=hid (h.set (-2))
 clear h
 go_enter Tryd.func111,Tryd.ntmps111
 go_wp2
 go_end0
 exact ⟨rfl,H.out,kept_set p q _⟩
structure HeldE (w:World) (A:Nat→Addr):Prop where
 g1:w.cell? ⟨0,0,none⟩=some (.iface 189 (.pointer (some (A 1))))
 g2:w.cell? ⟨2,0,none⟩=some (.iface 189 (.pointer (some (A 2))))
 g4:w.cell? ⟨3,0,none⟩=some (.iface 189 (.pointer (some (A 4))))
 g5:w.cell? ⟨1,0,none⟩=some (.iface 189 (.pointer (some (A 5))))
theorem HeldE.later {w w':World} {A:Nat→Addr} (h:HeldE w A) (hb:Below w.heap.size w w'):HeldE w' A:=⟨cell_later hb h.g1,cell_later hb h.g2,cell_later hb h.g4,cell_later hb h.g5⟩
theorem pcheck_bound (A:Nat→Addr) (p q:Nat) (B:ByteArray) (l a n:Int) (w:World) (h:Pl w p q B l) (hE:HeldE w A) (hB:B.size≤1000) (hn:n≤9223372036854775807) (hb:a<0 ∨ n<0 ∨ (B.size:Int) - n<a) :
  Calls Tryd.prog 87 #[.pointer (some ⟨p,0,none⟩),.int .i64 a,.int .i64 n] w fun e w'=>e=.returned (.iface 189 (.pointer (some (A 1))))∧w'=w:=by
 have c0:=h.c0
 have g1:=hE.g1
 clear h hE
 by_cases h1:a<0
 ·clear hb
  go_enter Tryd.func87,Tryd.ntmps87
  go_wp2
  go_ret
  exact ⟨rfl,rfl⟩
 ·by_cases h2:n<0
  ·clear hb
   go_enter Tryd.func87,Tryd.ntmps87
   go_wp2
   go_ret
   exact ⟨rfl,rfl⟩
  ·have h3:(B.size:Int) - n<a:=by omega
   clear hb
   go_enter Tryd.func87,Tryd.ntmps87
   go_wp2
   go_ret
   exact ⟨rfl,rfl⟩
theorem pcheck_in (A:Nat→Addr) (p q:Nat) (B:ByteArray) (l a n:Int) (w:World) (h:Pl w p q B l) (hE:HeldE w A) (hB:B.size≤1000) (hb:¬ (a<0 ∨ n<0 ∨ (B.size:Int) - n<a)) :
  Calls Tryd.prog 87 #[.pointer (some ⟨p,0,none⟩),.int .i64 a,.int .i64 n] w fun e w'=>e=.returned (if l=-2 then .iface 189 (.pointer (some (A 5))) else .nilIface)∧w'=w:=by
 have H:=hid h
 have c0:=h.c0
 have g5:=hE.g5
 have h1:¬ a<0:=fun g=>hb (.inl g)
 have h2:¬ n<0:=fun g=>hb (.inr (.inl g))
 have h3:¬ (B.size:Int) - n<a:=fun g=>hb (.inr (.inr g))
 clear h hE hb
 by_cases hl:l=-2
 ·subst hl
  go_enter Tryd.func87,Tryd.ntmps87
  go_wp2_with (go_at_call 41; refine (power_any p q B _ _ H.out).mono ?_; rintro e w' ⟨rfl,rfl⟩)
  go_ret
  exact ⟨rfl,rfl⟩
 ·rw [if_neg hl]
  have hl':(l != -2)=true:=by simpa using hl
  clear hl
  go_enter Tryd.func87,Tryd.ntmps87
  go_wp2_with (go_at_call 41; refine (power_any p q B _ _ H.out).mono ?_; rintro e w' ⟨rfl,rfl⟩)
  go_ret
  exact ⟨rfl,rfl⟩
theorem pspend_zero (p q:Nat) (B:ByteArray) (w:World) (h:Pl w p q B 0) :
  Calls Tryd.prog 106 #[.pointer (some ⟨p,0,none⟩)] w fun e w'=>e=.returned (.bool false)∧Pl w' p q B (-2)∧Kept (In2 p q) w w':=by
 have H:=hid h
 have c1:=h.c1
 clear h
 go_enter Tryd.func106,Tryd.ntmps106
 go_wp2_with (go_at_call 111; refine (poff_any p q B _ _ H.out).mono ?_; rintro e w' ⟨rfl,h1,h2⟩)
 go_ret
 exact ⟨rfl,h1,h2⟩
theorem pspend_pos (p q:Nat) (B:ByteArray) (l:Int) (w:World) (h:Pl w p q B l) (h0:0<l) (h1:l≤9223372036854775807) :
  Calls Tryd.prog 106 #[.pointer (some ⟨p,0,none⟩)] w fun e w'=>e=.returned (.bool true)∧Pl w' p q B (l - 1)∧Kept (In2 p q) w w':=by
 have c1:=h.c1
 have f1:=h.f1
 have H:=hid (h.set (l - 1))
 clear h
 go_enter Tryd.func106,Tryd.ntmps106
 go_wp2
 go_ret
 exact ⟨rfl,H.out,kept_set p q _⟩
theorem pspend_neg (p q:Nat) (B:ByteArray) (l:Int) (w:World) (h:Pl w p q B l) (h0:l<0) :
  Calls Tryd.prog 106 #[.pointer (some ⟨p,0,none⟩)] w fun e w'=>e=.returned (.bool true)∧w'=w:=by
 have c1:=h.c1
 clear h
 go_enter Tryd.func106,Tryd.ntmps106
 go_wp2
 go_ret
 exact ⟨rfl,rfl⟩
theorem pcut_bound (A:Nat→Addr) (v:Value) (n:Int) (w:World) (hE:HeldE w A) (hn:n<0) :
  Calls Tryd.prog 12 #[v,.int .i64 n] w fun e w'=>e=.returned (.iface 189 (.pointer (some (A 1))))∧w'=w:=by
 have g1:=hE.g1
 clear hE
 go_enter Tryd.func12,Tryd.ntmps12
 go_wp2
 go_ret
 exact ⟨rfl,rfl⟩
theorem pcut_off (A:Nat→Addr) (p q:Nat) (B:ByteArray) (n:Int) (w:World) (h:Pl w p q B (-2)) (hE:HeldE w A) (hn:¬ n<0) :
  Calls Tryd.prog 12 #[.pointer (some ⟨p,0,none⟩),.int .i64 n] w fun e w'=>e=.returned (.iface 189 (.pointer (some (A 5))))∧w'=w:=by
 have H:=hid h
 have g5:=hE.g5
 clear hE h
 go_enter Tryd.func12,Tryd.ntmps12
 go_wp2_with (go_at_call 41; refine (power_any p q B _ _ H.out).mono ?_; rintro e w' ⟨rfl,rfl⟩)
 go_ret
 exact ⟨rfl,rfl⟩
theorem pcut_ok (p q:Nat) (B:ByteArray) (l n:Int) (w:World) (h:Pl w p q B l) (hl:¬ l=-2) (hn:¬ n<0) :
  Calls Tryd.prog 12 #[.pointer (some ⟨p,0,none⟩),.int .i64 n] w fun e w'=>e=.returned .nilIface∧Pl w' p q B n∧Kept (In2 p q) w w':=by
 have H:=hid h
 have c1:=h.c1
 have f1:=h.f1
 have H2:=hid (h.set n)
 have hl':(l != -2)=true:=by simpa using hl
 clear h hl
 go_enter Tryd.func12,Tryd.ntmps12
 go_wp2_with (go_at_call 41; refine (power_any p q B _ _ H.out).mono ?_; rintro e w' ⟨rfl,rfl⟩)
 go_ret
 exact ⟨rfl,H2.out,kept_set p q _⟩
def zeroB (n:Nat):ByteArray:=⟨(List.replicate n 0).toArray⟩
theorem zeroB_size (n:Nat):(zeroB n).size=n:=by rw [size_list]; simp [zeroB]
theorem Tryd.infoB:(Tryd.prog.info? 5).map (fun i=>(i.zero,i.size,i.bytes))=some (some (.int .u8 0),1,1):=by kernel_rfl
theorem made_zero (n:Nat):madeCells (Value.int .u8 0).cells n=cellsB (zeroB n):=by
 apply Array.ext'
 rw [show (Value.int .u8 0).cells=#[.int .u8 0] from rfl,toList_madeCells_one]
 simp [cellsB,Lib.strCells,zeroB]
theorem mkB (n:Nat) (h:n≤1000) (w:World):(Instr.makeSlice 80 (.int .i64 n) (.int .i64 n)).run Tryd.prog w=.ok (.slice (some ⟨w.heap.size,0,none⟩) n n) (w.alloc (.cells (cellsB (zeroB n)) 5)):=by
 obtain ⟨i0,hi,hz0,hz1,hz2⟩:=info_parts Tryd.infoB
 have hr:=run_make (P:=Tryd.prog) w 80 5 i0 _ Tryd.underlying80 hi hz0 .i64 .i64 n n (by omega) (Int.le_refl _) (by rw [hz2]; omega) (by omega)
 simp only [Int.toNat_natCast,hz1,Nat.mul_one,made_zero] at hr
 exact hr
theorem pl_new (w:World) (n:Nat):Pl ((w.alloc (.cells (cellsB (zeroB n)) 5)).alloc (.cells #[.slice (some ⟨w.heap.size,0,none⟩) n n,.int .i64 (-1)] 82)) (w.heap.size+1) w.heap.size (zeroB n) (-1) :=
 ⟨by omega,by rw [heap_alloc2_new,zeroB_size],heap_alloc2_old w _ _⟩
theorem pnew_ok (n:Nat) (w:World) (h:n≤512) :
  Calls Tryd.prog 9 #[.int .i64 n] w fun e w'=>e=.returned (.tuple #[.pointer (some ⟨w.heap.size+1,0,none⟩),.nilIface])∧Pl w' (w.heap.size+1) w.heap.size (zeroB n) (-1)∧Below w.heap.size w w'∧w'.heap.size=w.heap.size+2:=by
 have hmk:=mkB n (by omega)
 have H:=hid (pl_new w n)
 go_enter Tryd.func9,Tryd.ntmps9
 go_wp2
 go_ret2
 exact ⟨rfl,H.out,((Below.refl _ _).alloc (Nat.le_refl _) _).alloc (by simp) _,by simp⟩
theorem Pl.put {w:World} {p q:Nat} {B s:ByteArray} {a k:Nat} {l:Int} (h:Pl w p q (putB B a s k) l) (ha:a+k<B.size) (hk:k<s.size) :
  Pl (w.setCell ⟨q,a+k,none⟩ (.int .u8 ((s[k]'hk).toNat:Int))) p q (putB B a s (k+1)) l:=by
 refine ⟨h.ne,?_,?_⟩
 ·rw [heap_setCell_other w _ p _ h.ne,h.head,size_putB (by omega) (by omega),size_putB (by omega) (by omega)]
 ·rw [heap_setCell_same w q (a+k) _ _ _ h.row]
  unfold cellsB
  rw [putB_succ ha hk]
theorem Pl.bytes {w:World} {p q:Nat} {B s:ByteArray} {a k:Nat} {l:Int} (h:Pl w p q (putB B a s k) l) (ha:a+k≤B.size) (hk:k≤s.size):w.cell? ⟨p,0,none⟩=some (.slice (some ⟨q,0,none⟩) B.size B.size):=by
 rw [h.c0,size_putB ha hk]
theorem Pl.cq {w:World} {p q:Nat} {B:ByteArray} {j:Nat} {l:Int} (h:Pl w p q B l) (hj:j<B.size):w.cell? ⟨q,j,none⟩=some (.int .u8 ((B[j]'hj).toNat:Int)):=by
 rw [cell_of_row w q j _ _ _ h.row,cellsB_at hj]
theorem Pl.fq {w:World} {p q:Nat} {B:ByteArray} {l:Int} (h:Pl w p q B l) (j:Nat):w.frozen? ⟨q,j,none⟩=false:=frozen_of_row w q j _ _ h.row
theorem pwrite_bound (A:Nat→Addr) (p q:Nat) (B s:ByteArray) (l a:Int) (w:World) (h:Pl w p q B l) (hE:HeldE w A) (hB:B.size≤1000) (hs:s.size≤1000) (hb:a<0 ∨ (B.size:Int) - s.size<a) :
  Calls Tryd.prog 91 #[.pointer (some ⟨p,0,none⟩),.int .i64 a,.string s] w fun e w'=>e=.returned (.iface 189 (.pointer (some (A 1))))∧w'=w:=by
 have H:=hid h
 have HE:=hid hE
 clear h hE
 go_enter Tryd.func91,Tryd.ntmps91
 go_wp2_with (go_at_call 87; refine (pcheck_bound A p q B l _ _ _ H.out HE.out hB (by omega) (by omega)).mono ?_; rintro e w' ⟨rfl,rfl⟩)
 go_ret
 exact ⟨rfl,rfl⟩
theorem pwrite_off (A:Nat→Addr) (p q:Nat) (B s:ByteArray) (a:Int) (w:World) (h:Pl w p q B (-2)) (hE:HeldE w A) (hB:B.size≤1000) (hs:s.size≤1000) (hb:¬ (a<0 ∨ (B.size:Int) - s.size<a)) :
  Calls Tryd.prog 91 #[.pointer (some ⟨p,0,none⟩),.int .i64 a,.string s] w fun e w'=>e=.returned (.iface 189 (.pointer (some (A 5))))∧w'=w:=by
 have H:=hid h
 have HE:=hid hE
 clear h hE
 go_enter Tryd.func91,Tryd.ntmps91
 go_wp2_with (go_at_call 87; refine (pcheck_in A p q B _ _ _ _ H.out HE.out hB (by omega)).mono ?_; rw [if_pos rfl]; rintro e w' ⟨rfl,rfl⟩)
 go_ret
 exact ⟨rfl,rfl⟩
theorem pwrite_free (A:Nat→Addr) (p q:Nat) (B s:ByteArray) (a:Nat) (l:Int) (w:World) (h:Pl w p q B l) (hE:HeldE w A) (hB:B.size≤1000) (ha:a+s.size≤B.size) (hl:l<0) (hl2:¬ l=-2) :
  Calls Tryd.prog 91 #[.pointer (some ⟨p,0,none⟩),.int .i64 a,.string s] w fun e w'=>e=.returned .nilIface∧Pl w' p q (putB B a s s.size) l∧Kept (In2 p q) w w':=by
 have H:=hid h
 have HE:=hid hE
 have HL:=hid hl2
 clear h hE hl2
 go_enter Tryd.func91,Tryd.ntmps91
 go_wp2_with (go_at_call 87; refine (pcheck_in A p q B _ _ _ _ H.out HE.out hB (by omega)).mono ?_; rw [if_neg HL.out]; rintro e wx ⟨rfl,hx⟩; subst wx)
 go_loopw [19] (fun i wr=>∃ k:Nat,k≤s.size∧i=.int .i64 k∧Pl wr p q (putB B a s k) l∧Kept (In2 p q) w wr) (fun i _=>s.size - (intOf i).toNat)
 case atStart=>exact ⟨0,Nat.zero_le _,rfl,by rw [putB_zero]; exact H.out,Kept.refl _ _⟩
 case round =>
  obtain ⟨k,hk,rfl,hP,hK⟩:=hrel
  have HP:=hid hP
  have HK:=hid hK
  clear hP hK
  by_cases hlt:k<s.size
  ·have c0:=HP.out.bytes (by omega) (by omega)
   have cq:=HP.out.cq (j:=a+k) (by rw [size_putB (by omega) (by omega)]; omega)
   have fq:=HP.out.fq (a+k)
   go_wp2_with (go_at_call 106; refine (pspend_neg p q _ l _ HP.out hl).mono ?_; rintro e wx ⟨rfl,hx⟩; subst wx)
   go_region
   all_goals go_wp2
   all_goals go_roundw
   case rel=>exact ⟨k+1,by omega,by go_num,(HP.out.put (by omega) hlt).drew,(HK.out.setCell (.inr rfl) _).drew⟩
   case measure=>simp [intOf]; omega
  ·obtain rfl:k=s.size:=by omega
   go_wp2
   go_ret
   exact ⟨rfl,HP.out,HK.out⟩
end Go.Proofs.YtkopfpaldmapdaaDoor
namespace Go.Proofs.YtkopfpaldmapdaaDoor
open Go.ChangeShapes Go.WideShapes Go.RowKit
theorem door_met4 (os:Os) (args:Array Value):laidMetH Tryd.prog Rows.siteRisesRow.laid ((World.doorLaid Tryd.prog 187 os).forCall (fun _ _=>0) ⟨#[],args,[]⟩).memory :=
 laidMetH_of_parts3 (fuel:=8) (laidMet_of_run' 8 (by kernel_rfl) (by kernel_rfl)) (by kernel_rfl) (by kernel_rfl)
theorem types4:([0,2,3,1].all fun g=>((Tryd.prog.globals[g]?).map (·.type)) == some 26)=true:=by kernel_rfl
theorem held4_of_laid {W:World} (h:laidMetH Tryd.prog Rows.siteRisesRow.laid W):∃ A,HeldE W A:=by
 rw [MakeChecks.laidMetH_plain _ _ _ (by kernel_rfl)] at h
 obtain ⟨ps,h1,h2,h3⟩:=h
 obtain ⟨ads,hl,-,-,hs⟩:=sents Rows.siteRisesRow.laid [0,2,3,1] (Rows.siteRisesRow.laid.map fun x=>textOf x.2) (by kernel_rfl)
  (fun g hg=>by simpa using List.all_eq_true.1 types4 g hg) (by kernel_rfl) ps h1 h2 h3
 match ads,hl with
 | [a1,a2,a3,a4],_ =>
  exact ⟨fun i=>if i=1 then a1 else if i=2 then a2 else if i=4 then a3 else a4,(hs 0 0 a1 rfl rfl).var,(hs 1 2 a2 rfl rfl).var,(hs 2 3 a3 rfl rfl).var,(hs 3 1 a4 rfl rfl).var⟩
end Go.Proofs.YtkopfpaldmapdaaDoor
