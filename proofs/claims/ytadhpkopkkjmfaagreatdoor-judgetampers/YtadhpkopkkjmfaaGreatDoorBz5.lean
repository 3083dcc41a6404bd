/-
  On the way to WStepsProof, WCommitsProof, WAgreesProof, WEndsProof, WWaitsProof, JTampersProof, PAgreesProof, PAgainProof: Code P1 P2 P3 P4 P3b.
-/
import Derived.Test.YtadhpkopkkjmfaaGreatDoorBz2
import Derived.Test.YtadhpkopkkjmfaaGreatDoorBz3
import Derived.Test.YtadhpkopkkjmfaaGreatDoorBz1
import Derived.Laws.CopyRow
set_option maxHeartbeats 8000000
set_option maxRecDepth 100000
namespace Go.Proofs.YtadhpkopkkjmfaaGreatDoor
open Go.RowKit
def gN:Nat→Nat
 | 0=>6
 | 1=>3
 | 2=>4
 | 3=>1
 | 4=>7
 | 5=>5
 | 6=>8
 | 7=>0
 | _=>2
structure Held9 (w:World) (A:Nat→Addr):Prop where
 var:∀ i,i<9→w.cell? ⟨gN i,0,none⟩=some (.iface 276 (.pointer (some (A i))))
 ne:∀ i j,i<9→j<9→i≠j→A i≠A j
 row:∀ i,i<9→∃ c t,w.heap[(A i).block]? = some (.cells c t (0,0))
 hnd:w.cell? ⟨9,0,none⟩=some (.iface 239 (.agg #[.pointer (some ⟨10,28,none⟩)]))
theorem row_later {w w':World} {b:Nat} {c:Array Value} {t:TypeId} {f:Nat×Nat} (hb:Below w.heap.size w w') (h:w.heap[b]? = some (.cells c t f)):w'.heap[b]? = some (.cells c t f):=by
 have hlt:b<w.heap.size:=by
  rcases Nat.lt_or_ge b w.heap.size with g|g
  ·exact g
  ·rw [Array.getElem?_eq_none g] at h; cases h
 rw [hb.block b hlt]; exact h
theorem Held9.later {w w':World} {A:Nat→Addr} (h:Held9 w A) (hb:Below w.heap.size w w'):Held9 w' A :=
 ⟨fun i hi=>cell_later hb (h.var i hi),h.ne,fun i hi=>by obtain ⟨c,t,g⟩:=h.row i hi; exact ⟨c,t,row_later hb g⟩,cell_later hb h.hnd⟩
theorem Held9.cells {w:World} {A:Nat→Addr} (h:Held9 w A):w.cell? ⟨6,0,none⟩=some (.iface 276 (.pointer (some (A 0))))∧w.cell? ⟨3,0,none⟩=some (.iface 276 (.pointer (some (A 1))))∧w.cell? ⟨4,0,none⟩=some (.iface 276 (.pointer (some (A 2))))∧w.cell? ⟨1,0,none⟩=some (.iface 276 (.pointer (some (A 3))))∧w.cell? ⟨7,0,none⟩=some (.iface 276 (.pointer (some (A 4))))∧w.cell? ⟨5,0,none⟩=some (.iface 276 (.pointer (some (A 5))))∧w.cell? ⟨8,0,none⟩=some (.iface 276 (.pointer (some (A 6))))∧w.cell? ⟨0,0,none⟩=some (.iface 276 (.pointer (some (A 7))))∧w.cell? ⟨2,0,none⟩=some (.iface 276 (.pointer (some (A 8)))) :=
 ⟨h.var 0 (by decide),h.var 1 (by decide),h.var 2 (by decide),h.var 3 (by decide),h.var 4 (by decide),h.var 5 (by decide),h.var 6 (by decide),h.var 7 (by decide),h.var 8 (by decide)⟩
def errArr (A:Nat→Addr):Array Value:=#[.iface 276 (.pointer (some (A 0))),.iface 276 (.pointer (some (A 1))),.iface 276 (.pointer (some (A 2))),.iface 276 (.pointer (some (A 3))),.iface 276 (.pointer (some (A 4))),.iface 276 (.pointer (some (A 5))),.iface 276 (.pointer (some (A 6))),.iface 276 (.pointer (some (A 7))),.iface 276 (.pointer (some (A 8)))]
theorem errArr_at (A:Nat→Addr) (k:Nat) (hk:k<9) (w:World) (t:TypeId):(w.alloc (.cells (errArr A) t)).cell? ⟨w.heap.size,k,none⟩=some (.iface 276 (.pointer (some (A k)))):=by
 rw [World.cell?_alloc_at _ _ _ _ rfl]
 have:k=0 ∨ k=1 ∨ k=2 ∨ k=3 ∨ k=4 ∨ k=5 ∨ k=6 ∨ k=7 ∨ k=8:=by omega
 rcases this with rfl|rfl|rfl|rfl|rfl|rfl|rfl|rfl|rfl <;> rfl
theorem code_nil (w:World):Calls Tryz.prog 86 #[.nilIface] w fun e w'=>e=.returned (.tuple #[.int .i64 0,.int .i64 (-1)])∧w'=w:=by
 go_enter Tryz.func86,Tryz.ntmps86
 go_wp2
 go_ret2
 exact ⟨rfl,rfl⟩
theorem code_e (A:Nat→Addr) (x:Addr) (c:Nat) (r:Int) (w:World) (hE:Held9 w A) (hrow:∃ cs t,w.heap[x.block]? = some (.cells cs t (0,0)))
  (hc:c≤9) (hlo:∀ k,k<c→x≠A k) (hat:c<9→x=A c) (hr1:c<9→r=c+1) (hr2:c=9→r=-1) :
  Calls Tryz.prog 86 #[.iface 276 (.pointer (some x))] w fun e w'=>e=.returned (.tuple #[.int .i64 r,.int .i64 (-1)])∧Below w.heap.size w w':=by
 have H:=hid hE
 have HR:=hid hrow
 have HLO:=hid hlo
 have HAT:=hid hat
 have HR1:=hid hr1
 have HR2:=hid hr2
 clear hE hrow hlo hat hr1 hr2
 have hb0:Below w.heap.size w (w.alloc (.cells #[.pointer none] 112)):=(Below.refl _ _).alloc (Nat.le_refl _) _
 go_enter Tryz.func86,Tryz.ntmps86
 go_wp2_with (go_at_call 117; refine (as_miss x _ _ (by exact (H.out.later hb0).hnd)).mono ?_; rintro e w1 ⟨rfl,hb1⟩; obtain ⟨g0,g1,g2,g3,g4,g5,g6,g7,g8⟩:=(H.out.later (hb0.trans (hb1.mono hb0.size))).cells)
 have hB:Below w.heap.size w (w1.alloc (.cells #[.iface 276 (.pointer (some (A 0))),.iface 276 (.pointer (some (A 1))),.iface 276 (.pointer (some (A 2))),.iface 276 (.pointer (some (A 3))),.iface 276 (.pointer (some (A 4))),.iface 276 (.pointer (some (A 5))),.iface 276 (.pointer (some (A 6))),.iface 276 (.pointer (some (A 7))),.iface 276 (.pointer (some (A 8)))] 28)):=(hb0.trans (hb1.mono hb0.size)).alloc (Nat.le_trans hb0.size hb1.size) _
 have hcell:∀ k,k<9→(w1.alloc (.cells #[.iface 276 (.pointer (some (A 0))),.iface 276 (.pointer (some (A 1))),.iface 276 (.pointer (some (A 2))),.iface 276 (.pointer (some (A 3))),.iface 276 (.pointer (some (A 4))),.iface 276 (.pointer (some (A 5))),.iface 276 (.pointer (some (A 6))),.iface 276 (.pointer (some (A 7))),.iface 276 (.pointer (some (A 8)))] 28)).cell? ⟨w1.heap.size,k,none⟩=some (.iface 276 (.pointer (some (A k)))):=fun k hk=>errArr_at A k hk w1 28
 have HC:=hid hcell
 clear g0 g1 g2 g3 g4 g5 g6 g7 g8 hcell
 go_loop [3,27] (fun a i=>∃ k:Nat,k≤c∧i=.int .i64 k∧a=.int .i64 (-1)) (fun _ i=>9 - (intOf i).toNat)
 case atStart=>exact ⟨0,Nat.zero_le _,rfl,rfl⟩
 case round =>
  obtain ⟨k,hk,rfl,rfl⟩:=hrel
  by_cases hlt:k<9
  ·have hck:=HC.out k hlt
   by_cases hkc:k=c
   ·subst hkc
    have hx:=HAT.out hlt
    subst hx
    have hR:=HR1.out hlt
    subst hR
    go_wp2_with (go_at_call 118; refine (is_same _ _).mono ?_; rintro e w' ⟨rfl,rfl⟩)
    go_ret2
    exact ⟨rfl,hB⟩
   ·obtain ⟨cs,t,hr⟩:=HR.out
    obtain ⟨cs',t',hr'⟩:=H.out.row k hlt
    have hr2:=hid (row_later hB hr)
    have hr2':=hid (row_later hB hr')
    clear hr hr'
    go_wp2_with (go_at_call 118; refine (is_other _ _ cs cs' t t' _ (HLO.out k (by omega)) hr2.out hr2'.out).mono ?_; rintro e w' ⟨rfl,rfl⟩)
    go_round
    case rel=>exact ⟨k+1,by omega,by go_num,rfl⟩
    case measure=>simp [intOf]; omega
  ·have hc9:c=9:=by omega
   have hR:=HR2.out hc9
   subst hR
   go_wp2
   go_ret2
   exact ⟨rfl,hB⟩
theorem code_at (A:Nat→Addr) (c:Nat) (w:World) (hE:Held9 w A) (hc:c<9) :
  Calls Tryz.prog 86 #[.iface 276 (.pointer (some (A c)))] w fun e w'=>e=.returned (.tuple #[.int .i64 ((c:Int)+1),.int .i64 (-1)])∧Below w.heap.size w w' :=
 code_e A (A c) c _ w hE (hE.row c hc) (by omega) (fun k hk=>hE.ne c k hc (by omega) (by omega)) (fun _=>rfl) (fun _=>rfl) (fun h=>by omega)
theorem coded_nil (n:Int) (w:World):Calls Tryz.prog 39 #[.nilIface,.int .i64 n] w fun e w'=>e=.returned (.bool (0 == n))∧w'=w:=by
 go_enter Tryz.func39,Tryz.ntmps39
 go_wp2_with (go_at_call 86; refine (code_nil _).mono ?_; rintro e w' ⟨rfl,rfl⟩)
 all_goals go_ret
 all_goals exact ⟨by simp_all,rfl⟩
theorem coded_at (A:Nat→Addr) (c:Nat) (n:Int) (w:World) (hE:Held9 w A) (hc:c<9) :
  Calls Tryz.prog 39 #[.iface 276 (.pointer (some (A c))),.int .i64 n] w fun e w'=>e=.returned (.bool ((c:Int)+1 == n))∧Below w.heap.size w w':=by
 have H:=hid hE
 clear hE
 go_enter Tryz.func39,Tryz.ntmps39
 go_wp2_with (go_at_call 86; refine (code_at A c _ H.out hc).mono ?_; rintro e w1 ⟨rfl,hb⟩)
 all_goals go_ret
 all_goals exact ⟨by simp_all,hb⟩
def cellsB (B:ByteArray):Array Value:=(Lib.strCells B).toArray
theorem cellsB_size (B:ByteArray):(cellsB B).size=B.size:=by simp [cellsB,Lib.strCells_length]
theorem cellsB_at {B:ByteArray} {j:Nat} (h:j<B.size):(cellsB B)[j]? = some (.int .u8 ((B[j]'h).toNat:Int)):=by
 unfold cellsB
 rw [List.getElem?_toArray]
 exact strCells_at h
structure Pl (w:World) (p q:Nat) (B:ByteArray) (l:Int):Prop where
 ne:p≠q
 head:w.heap[p]? = some (.cells #[.slice (some ⟨q,0,none⟩) B.size B.size,.int .i64 l] 166 (0,0))
 row:w.heap[q]? = some (.cells (cellsB B) 5 (0,0))
theorem Pl.kept {S:Nat→Prop} {w w':World} {p q:Nat} {B:ByteArray} {l:Int} (h:Pl w p q B l) (k:Kept S w w') (hp:¬ S p) (hq:¬ S q):Pl w' p q B l:=⟨h.ne,k.row h.head hp,k.row h.row hq⟩
theorem Pl.c0 {w:World} {p q:Nat} {B:ByteArray} {l:Int} (h:Pl w p q B l):w.cell? ⟨p,0,none⟩=some (.slice (some ⟨q,0,none⟩) B.size B.size):=by rw [cell_of_row w p 0 _ _ _ h.head]; rfl
theorem Pl.c1 {w:World} {p q:Nat} {B:ByteArray} {l:Int} (h:Pl w p q B l):w.cell? ⟨p,1,none⟩=some (.int .i64 l):=by rw [cell_of_row w p 1 _ _ _ h.head]; rfl
theorem Pl.f1 {w:World} {p q:Nat} {B:ByteArray} {l:Int} (h:Pl w p q B l):w.frozen? ⟨p,1,none⟩=false:=frozen_of_row w p 1 _ _ h.head
theorem Pl.set {w:World} {p q:Nat} {B:ByteArray} {l:Int} (h:Pl w p q B l) (l':Int):Pl (w.setCell ⟨p,1,none⟩ (.int .i64 l')) p q B l' :=
 ⟨h.ne,by rw [heap_setCell_same w p 1 _ _ _ h.head]; rfl,by rw [heap_setCell_other w _ q _ (Ne.symm h.ne)]; exact h.row⟩
theorem Pl.drew {w:World} {p q:Nat} {B:ByteArray} {l:Int} (h:Pl w p q B l):Pl w.drew p q B l:=⟨h.ne,h.head,h.row⟩
def In2 (p q:Nat) (k:Nat):Prop:=k=p ∨ k=q
theorem kept_set {w:World} (p q:Nat) (v:Value):Kept (In2 p q) w (w.setCell ⟨p,1,none⟩ v):=(Kept.refl _ w).setCell (.inl rfl) v
theorem power_any (p q:Nat) (B:ByteArray) (l:Int) (w:World) (h:Pl w p q B l) :
  Calls Tryz.prog 79 #[.pointer (some ⟨p,0,none⟩)] w fun e w'=>e=.returned (.bool (l != -2))∧w'=w:=by
 have c1:=h.c1
 clear h
 go_enter Tryz.func79,Tryz.ntmps79
 go_wp2
 go_ret
 exact ⟨rfl,rfl⟩
theorem pon_any (p q:Nat) (B:ByteArray) (l:Int) (w:World) (h:Pl w p q B l) :
  Calls Tryz.prog 80 #[.pointer (some ⟨p,0,none⟩)] w fun e w'=>e=.returned (.tuple #[])∧Pl w' p q B (-1)∧Kept (In2 p q) w w':=by
 have c1:=h.c1
 have f1:=h.f1
 have H:=hid (h.set (-1))
 clear h
 go_enter Tryz.func80,Tryz.ntmps80
 go_wp2
 go_end0
 exact ⟨rfl,H.out,kept_set p q _⟩
theorem poff_any (p q:Nat) (B:ByteArray) (l:Int) (w:World) (h:Pl w p q B l) :
  Calls Tryz.prog 81 #[.pointer (some ⟨p,0,none⟩)] w fun e w'=>e=.returned (.tuple #[])∧Pl w' p q B (-2)∧Kept (In2 p q) w w':=by
 have c1:=h.c1
 have f1:=h.f1
 have H:=hid (h.set (-2))
 clear h
 go_enter Tryz.func81,Tryz.ntmps81
 go_wp2
 go_end0
 exact ⟨rfl,H.out,kept_set p q _⟩
theorem Held9.g1 {w:World} {A:Nat→Addr} (h:Held9 w A):w.cell? ⟨3,0,none⟩=some (.iface 276 (.pointer (some (A 1)))):=h.var 1 (by decide)
theorem Held9.g5 {w:World} {A:Nat→Addr} (h:Held9 w A):w.cell? ⟨5,0,none⟩=some (.iface 276 (.pointer (some (A 5)))):=h.var 5 (by decide)
structure HeldE (w:World) (A:Nat→Addr):Prop where
 g1:w.cell? ⟨3,0,none⟩=some (.iface 276 (.pointer (some (A 1))))
 g2:w.cell? ⟨4,0,none⟩=some (.iface 276 (.pointer (some (A 2))))
 g4:w.cell? ⟨7,0,none⟩=some (.iface 276 (.pointer (some (A 4))))
 g5:w.cell? ⟨5,0,none⟩=some (.iface 276 (.pointer (some (A 5))))
theorem HeldE.later {w w':World} {A:Nat→Addr} (h:HeldE w A) (hb:Below w.heap.size w w'):HeldE w' A:=⟨cell_later hb h.g1,cell_later hb h.g2,cell_later hb h.g4,cell_later hb h.g5⟩
theorem Held9.toE {w:World} {A:Nat→Addr} (h:Held9 w A):HeldE w A:=⟨h.var 1 (by decide),h.var 2 (by decide),h.var 4 (by decide),h.var 5 (by decide)⟩
theorem pcheck_bound (A:Nat→Addr) (p q:Nat) (B:ByteArray) (l a n:Int) (w:World) (h:Pl w p q B l) (hE:HeldE w A) (hB:B.size≤1000) (hn:n≤9223372036854775807) (hb:a<0 ∨ n<0 ∨ (B.size:Int) - n<a) :
  Calls Tryz.prog 166 #[.pointer (some ⟨p,0,none⟩),.int .i64 a,.int .i64 n] w fun e w'=>e=.returned (.iface 276 (.pointer (some (A 1))))∧w'=w:=by
 have c0:=h.c0
 have g1:=hE.g1
 clear h hE
 by_cases h1:a<0
 ·clear hb
  go_enter Tryz.func166,Tryz.ntmps166
  go_wp2
  go_ret
  exact ⟨rfl,rfl⟩
 ·by_cases h2:n<0
  ·clear hb
   go_enter Tryz.func166,Tryz.ntmps166
   go_wp2
   go_ret
   exact ⟨rfl,rfl⟩
  ·have h3:(B.size:Int) - n<a:=by omega
   clear hb
   go_enter Tryz.func166,Tryz.ntmps166
   go_wp2
   go_ret
   exact ⟨rfl,rfl⟩
theorem pcheck_in (A:Nat→Addr) (p q:Nat) (B:ByteArray) (l a n:Int) (w:World) (h:Pl w p q B l) (hE:HeldE w A) (hB:B.size≤1000) (hb:¬ (a<0 ∨ n<0 ∨ (B.size:Int) - n<a)) :
  Calls Tryz.prog 166 #[.pointer (some ⟨p,0,none⟩),.int .i64 a,.int .i64 n] w fun e w'=>e=.returned (if l=-2 then .iface 276 (.pointer (some (A 5))) else .nilIface)∧w'=w:=by
 have H:=hid h
 have c0:=h.c0
 have g5:=hE.g5
 have h1:¬ a<0:=fun g=>hb (.inl g)
 have h2:¬ n<0:=fun g=>hb (.inr (.inl g))
 have h3:¬ (B.size:Int) - n<a:=fun g=>hb (.inr (.inr g))
 clear h hE hb
 by_cases hl:l=-2
 ·subst hl
  go_enter Tryz.func166,Tryz.ntmps166
  go_wp2_with (go_at_call 79; refine (power_any p q B _ _ H.out).mono ?_; rintro e w' ⟨rfl,rfl⟩)
  go_ret
  exact ⟨rfl,rfl⟩
 ·rw [if_neg hl]
  have hl':(l != -2)=true:=by simpa using hl
  clear hl
  go_enter Tryz.func166,Tryz.ntmps166
  go_wp2_with (go_at_call 79; refine (power_any p q B _ _ H.out).mono ?_; rintro e w' ⟨rfl,rfl⟩)
  go_ret
  exact ⟨rfl,rfl⟩
theorem pspend_zero (p q:Nat) (B:ByteArray) (w:World) (h:Pl w p q B 0) :
  Calls Tryz.prog 214 #[.pointer (some ⟨p,0,none⟩)] w fun e w'=>e=.returned (.bool false)∧Pl w' p q B (-2)∧Kept (In2 p q) w w':=by
 have H:=hid h
 have c1:=h.c1
 clear h
 go_enter Tryz.func214,Tryz.ntmps214
 go_wp2_with (go_at_call 81; refine (poff_any p q B _ _ H.out).mono ?_; rintro e w' ⟨rfl,h1,h2⟩)
 go_ret
 exact ⟨rfl,h1,h2⟩
theorem pspend_pos (p q:Nat) (B:ByteArray) (l:Int) (w:World) (h:Pl w p q B l) (h0:0<l) (h1:l≤9223372036854775807) :
  Calls Tryz.prog 214 #[.pointer (some ⟨p,0,none⟩)] w fun e w'=>e=.returned (.bool true)∧Pl w' p q B (l - 1)∧Kept (In2 p q) w w':=by
 have c1:=h.c1
 have f1:=h.f1
 have H:=hid (h.set (l - 1))
 clear h
 go_enter Tryz.func214,Tryz.ntmps214
 go_wp2
 go_ret
 exact ⟨rfl,H.out,kept_set p q _⟩
theorem pspend_neg (p q:Nat) (B:ByteArray) (l:Int) (w:World) (h:Pl w p q B l) (h0:l<0) :
  Calls Tryz.prog 214 #[.pointer (some ⟨p,0,none⟩)] w fun e w'=>e=.returned (.bool true)∧w'=w:=by
 have c1:=h.c1
 clear h
 go_enter Tryz.func214,Tryz.ntmps214
 go_wp2
 go_ret
 exact ⟨rfl,rfl⟩
theorem pcut_bound (A:Nat→Addr) (v:Value) (n:Int) (w:World) (hE:HeldE w A) (hn:n<0) :
  Calls Tryz.prog 114 #[v,.int .i64 n] w fun e w'=>e=.returned (.iface 276 (.pointer (some (A 1))))∧w'=w:=by
 have g1:=hE.g1
 clear hE
 go_enter Tryz.func114,Tryz.ntmps114
 go_wp2
 go_ret
 exact ⟨rfl,rfl⟩
theorem pcut_off (A:Nat→Addr) (p q:Nat) (B:ByteArray) (n:Int) (w:World) (h:Pl w p q B (-2)) (hE:HeldE w A) (hn:¬ n<0) :
  Calls Tryz.prog 114 #[.pointer (some ⟨p,0,none⟩),.int .i64 n] w fun e w'=>e=.returned (.iface 276 (.pointer (some (A 5))))∧w'=w:=by
 have H:=hid h
 have g5:=hE.g5
 clear hE h
 go_enter Tryz.func114,Tryz.ntmps114
 go_wp2_with (go_at_call 79; refine (power_any p q B _ _ H.out).mono ?_; rintro e w' ⟨rfl,rfl⟩)
 go_ret
 exact ⟨rfl,rfl⟩
theorem pcut_ok (p q:Nat) (B:ByteArray) (l n:Int) (w:World) (h:Pl w p q B l) (hl:¬ l=-2) (hn:¬ n<0) :
  Calls Tryz.prog 114 #[.pointer (some ⟨p,0,none⟩),.int .i64 n] w fun e w'=>e=.returned .nilIface∧Pl w' p q B n∧Kept (In2 p q) w w':=by
 have H:=hid h
 have c1:=h.c1
 have f1:=h.f1
 have H2:=hid (h.set n)
 have hl':(l != -2)=true:=by simpa using hl
 clear h hl
 go_enter Tryz.func114,Tryz.ntmps114
 go_wp2_with (go_at_call 79; refine (power_any p q B _ _ H.out).mono ?_; rintro e w' ⟨rfl,rfl⟩)
 go_ret
 exact ⟨rfl,H2.out,kept_set p q _⟩
def zeroB (n:Nat):ByteArray:=⟨(List.replicate n 0).toArray⟩
theorem zeroB_size (n:Nat):(zeroB n).size=n:=by rw [size_list]; simp [zeroB]
theorem Tryz.infoB:(Tryz.prog.info? 5).map (fun i=>(i.zero,i.size,i.bytes))=some (some (.int .u8 0),1,1):=by kernel_rfl
theorem made_zero (n:Nat):madeCells (Value.int .u8 0).cells n=cellsB (zeroB n):=by
 apply Array.ext'
 rw [show (Value.int .u8 0).cells=#[.int .u8 0] from rfl,toList_madeCells_one]
 simp [cellsB,Lib.strCells,zeroB]
theorem mkB (n:Nat) (h:n≤1000) (w:World):(Instr.makeSlice 149 (.int .i64 n) (.int .i64 n)).run Tryz.prog w=.ok (.slice (some ⟨w.heap.size,0,none⟩) n n) (w.alloc (.cells (cellsB (zeroB n)) 5)):=by
 obtain ⟨i0,hi,hz0,hz1,hz2⟩:=info_parts Tryz.infoB
 have hr:=run_make (P:=Tryz.prog) w 149 5 i0 _ Tryz.underlying149 hi hz0 .i64 .i64 n n (by omega) (Int.le_refl _) (by rw [hz2]; omega) (by omega)
 simp only [Int.toNat_natCast,hz1,Nat.mul_one,made_zero] at hr
 exact hr
theorem pl_new (w:World) (n:Nat):Pl ((w.alloc (.cells (cellsB (zeroB n)) 5)).alloc (.cells #[.slice (some ⟨w.heap.size,0,none⟩) n n,.int .i64 (-1)] 166)) (w.heap.size+1) w.heap.size (zeroB n) (-1) :=
 ⟨by omega,by rw [heap_alloc2_new,zeroB_size],heap_alloc2_old w _ _⟩
theorem pnew_ok (n:Nat) (w:World) (h:n≤512) :
  Calls Tryz.prog 50 #[.int .i64 n] w fun e w'=>e=.returned (.tuple #[.pointer (some ⟨w.heap.size+1,0,none⟩),.nilIface])∧Pl w' (w.heap.size+1) w.heap.size (zeroB n) (-1)∧Below w.heap.size w w'∧w'.heap.size=w.heap.size+2:=by
 have hmk:=mkB n (by omega)
 have H:=hid (pl_new w n)
 go_enter Tryz.func50,Tryz.ntmps50
 go_wp2
 go_ret2
 exact ⟨rfl,H.out,((Below.refl _ _).alloc (Nat.le_refl _) _).alloc (by simp) _,by simp⟩
theorem Pl.put {w:World} {p q:Nat} {B s:ByteArray} {a k:Nat} {l:Int} (h:Pl w p q (putB B a s k) l) (ha:a+k<B.size) (hk:k<s.size) :
  Pl (w.setCell ⟨q,a+k,none⟩ (.int .u8 ((s[k]'hk).toNat:Int))) p q (putB B a s (k+1)) l:=by
 refine ⟨h.ne,?_,?_⟩
 ·rw [heap_setCell_other w _ p _ h.ne,h.head,size_putB (by omega) (by omega),size_putB (by omega) (by omega)]
 ·rw [heap_setCell_same w q (a+k) _ _ _ h.row]
  unfold cellsB
  rw [putB_succ ha hk]
theorem Pl.bytes {w:World} {p q:Nat} {B s:ByteArray} {a k:Nat} {l:Int} (h:Pl w p q (putB B a s k) l) (ha:a+k≤B.size) (hk:k≤s.size):w.cell? ⟨p,0,none⟩=some (.slice (some ⟨q,0,none⟩) B.size B.size):=by
 rw [h.c0,size_putB ha hk]
theorem Pl.cq {w:World} {p q:Nat} {B:ByteArray} {j:Nat} {l:Int} (h:Pl w p q B l) (hj:j<B.size):w.cell? ⟨q,j,none⟩=some (.int .u8 ((B[j]'hj).toNat:Int)):=by
 rw [cell_of_row w q j _ _ _ h.row,cellsB_at hj]
theorem Pl.fq {w:World} {p q:Nat} {B:ByteArray} {l:Int} (h:Pl w p q B l) (j:Nat):w.frozen? ⟨q,j,none⟩=false:=frozen_of_row w q j _ _ h.row
theorem pwrite_bound (A:Nat→Addr) (p q:Nat) (B s:ByteArray) (l a:Int) (w:World) (h:Pl w p q B l) (hE:HeldE w A) (hB:B.size≤1000) (hs:s.size≤1000) (hb:a<0 ∨ (B.size:Int) - s.size<a) :
  Calls Tryz.prog 210 #[.pointer (some ⟨p,0,none⟩),.int .i64 a,.string s] w fun e w'=>e=.returned (.iface 276 (.pointer (some (A 1))))∧w'=w:=by
 have H:=hid h
 have HE:=hid hE
 clear h hE
 go_enter Tryz.func210,Tryz.ntmps210
 go_wp2_with (go_at_call 166; refine (pcheck_bound A p q B l _ _ _ H.out HE.out hB (by omega) (by omega)).mono ?_; rintro e w' ⟨rfl,rfl⟩)
 go_ret
 exact ⟨rfl,rfl⟩
theorem pwrite_off (A:Nat→Addr) (p q:Nat) (B s:ByteArray) (a:Int) (w:World) (h:Pl w p q B (-2)) (hE:HeldE w A) (hB:B.size≤1000) (hs:s.size≤1000) (hb:¬ (a<0 ∨ (B.size:Int) - s.size<a)) :
  Calls Tryz.prog 210 #[.pointer (some ⟨p,0,none⟩),.int .i64 a,.string s] w fun e w'=>e=.returned (.iface 276 (.pointer (some (A 5))))∧w'=w:=by
 have H:=hid h
 have HE:=hid hE
 clear h hE
 go_enter Tryz.func210,Tryz.ntmps210
 go_wp2_with (go_at_call 166; refine (pcheck_in A p q B _ _ _ _ H.out HE.out hB (by omega)).mono ?_; rw [if_pos rfl]; rintro e w' ⟨rfl,rfl⟩)
 go_ret
 exact ⟨rfl,rfl⟩
theorem pwrite_free (A:Nat→Addr) (p q:Nat) (B s:ByteArray) (a:Nat) (l:Int) (w:World) (h:Pl w p q B l) (hE:HeldE w A) (hB:B.size≤1000) (ha:a+s.size≤B.size) (hl:l<0) (hl2:¬ l=-2) :
  Calls Tryz.prog 210 #[.pointer (some ⟨p,0,none⟩),.int .i64 a,.string s] w fun e w'=>e=.returned .nilIface∧Pl w' p q (putB B a s s.size) l∧Kept (In2 p q) w w':=by
 have H:=hid h
 have HE:=hid hE
 have HL:=hid hl2
 clear h hE hl2
 go_enter Tryz.func210,Tryz.ntmps210
 go_wp2_with (go_at_call 166; refine (pcheck_in A p q B _ _ _ _ H.out HE.out hB (by omega)).mono ?_; rw [if_neg HL.out]; rintro e wx ⟨rfl,hx⟩; subst wx)
 go_loopw [19] (fun i wr=>∃ k:Nat,k≤s.size∧i=.int .i64 k∧Pl wr p q (putB B a s k) l∧Kept (In2 p q) w wr) (fun i _=>s.size - (intOf i).toNat)
 case atStart=>exact ⟨0,Nat.zero_le _,rfl,by rw [putB_zero]; exact H.out,Kept.refl _ _⟩
 case round =>
  obtain ⟨k,hk,rfl,hP,hK⟩:=hrel
  have HP:=hid hP
  have HK:=hid hK
  clear hP hK
  by_cases hlt:k<s.size
  ·have c0:=HP.out.bytes (by omega) (by omega)
   have cq:=HP.out.cq (j:=a+k) (by rw [size_putB (by omega) (by omega)]; omega)
   have fq:=HP.out.fq (a+k)
   go_wp2_with (go_at_call 214; refine (pspend_neg p q _ l _ HP.out hl).mono ?_; rintro e wx ⟨rfl,hx⟩; subst wx)
   go_region
   all_goals go_wp2
   all_goals go_roundw
   case rel=>exact ⟨k+1,by omega,by go_num,(HP.out.put (by omega) hlt).drew,(HK.out.setCell (.inr rfl) _).drew⟩
   case measure=>simp [intOf]; omega
  ·obtain rfl:k=s.size:=by omega
   go_wp2
   go_ret
   exact ⟨rfl,HP.out,HK.out⟩
theorem run_copy_str {P:Program} {w:World} (dT sT ty elem:TypeId) (hu:P.underlying dT=some (.slice elem)) (hsz:(P.info? elem).map (·.size)=some 1)
  (g cap:Nat) (x:ByteArray) (cur:Array Value) (t:TypeId) (hg:w.heap[g]? = some (.cells cur t (0,0))) (hfit:cur.size=x.size) :
  (Builtin.copy_ #[dT,sT] ty #[.slice (some ⟨g,0,none⟩) x.size cap,.string x]).run P w=.ok (goInt x.size) (w.setRow g (cellsB x)):=by
 have hf:=Lib.run_firstCells_string (P:=P) w 1 x
 have hst:=run_storeCells_at P g 0 t (Lib.strCells x) 0 cur w hg (by rw [Lib.strCells_length]; omega) (Lib.strCells_oneCell x)
 rw [Lib.strCells_length] at hst
 have e:cur.toList.drop (0+0+x.size)=[]:=List.drop_eq_nil_of_le (by simp; omega)
 rw [e] at hst
 simp only [Nat.add_zero,List.take_zero,List.nil_append,List.append_nil] at hst
 cases hq:P.info? elem with
 | none=>simp [hq] at hsz
 | some i =>
  have hi:i.size=1:=by simpa [hq] using hsz
  simp [Builtin.copy_,run_underlying hu,Builtin.lenOf,sizeOf,typeInfo,hq,hi,hf,hst,cellsB]
theorem byteSize:(Tryz.prog.info? 5).map (·.size)=some 1:=by kernel_rfl
theorem Pl.row_set {w:World} {p q:Nat} {B s:ByteArray} {l:Int} (h:Pl w p q B l) (hs:s.size=B.size):Pl (w.setRow q (cellsB s)) p q s l :=
 ⟨h.ne,by rw [setRow_other w q p _ h.ne,h.head,hs],setRow_heap w q _ _ _ _ h.row⟩
theorem kept_setRow {w:World} (p q:Nat) (cs:Array Value):Kept (In2 p q) w (w.setRow q cs):=⟨rfl,rfl,rfl,by simp,fun k _ hk=>setRow_other w q k cs (fun e=>hk (.inr e))⟩
theorem pfrom_ok (s:ByteArray) (w:World) (h:s.size≤512) :
  Calls Tryz.prog 139 #[.string s] w fun e w'=>e=.returned (.tuple #[.pointer (some ⟨w.heap.size+1,0,none⟩),.nilIface])∧Pl w' (w.heap.size+1) w.heap.size s (-1)∧Below w.heap.size w w'∧w'.heap.size=w.heap.size+2:=by
 go_enter Tryz.func139,Tryz.ntmps139
 go_wp2_with (go_at_call 50; refine (pnew_ok _ _ h).mono ?_; rintro e w1 ⟨rfl,hP,hb,hsz⟩; have c0:=hP.c0; rw [zeroB_size] at c0; have hcp:=fun ty=>run_copy_str (P:=Tryz.prog) 149 9 ty 5 Tryz.underlying149 byteSize w.heap.size s.size s _ _ hP.row (by rw [cellsB_size,zeroB_size]))
 go_ret2
 exact ⟨rfl,hP.row_set (zeroB_size _).symm,Kept.below (kept_setRow (w.heap.size+1) w.heap.size _) hb.size (fun k hk=>by unfold In2 at hk; omega) hb,by simpa using hsz⟩
theorem conv_cut {w:World} {p q:Nat} {B:ByteArray} {l:Int} (h:Pl w p q B l) (o n cap:Nat) (hn:o+n≤B.size) :
  (convert 149 9 (.slice (some ⟨q,o,none⟩) n cap)).run Tryz.prog w=.ok (.string (B.extract o (o+n))) w:=by
 have hl:((B.extract o (o+n)).data.toList).length=n:=by
  rw [ext_list]
  rw [size_list] at hn
  simp only [List.length_take,List.length_drop]
  omega
 have:=run_convert_bytes_back (P:=Tryz.prog) w 149 9 5 ⟨q,o,none⟩ cap (B.extract o (o+n)).data.toList Tryz.underlying149 Tryz.underlying5 Tryz.underlying9 (fun j hj=>by
  rw [hl] at hj
  rw [Addr.add_lit,h.cq (by omega),getB (by omega)]
  congr 3
  simp only [ext_list,List.getElem_take,List.getElem_drop])
 rw [hl] at this
 rw [this]
theorem conv_all {w:World} {p q:Nat} {B:ByteArray} {l:Int} (h:Pl w p q B l) :
  (convert 149 9 (.slice (some ⟨q,0,none⟩) B.size B.size)).run Tryz.prog w=.ok (.string B) w:=by
 have:=conv_cut h 0 B.size B.size (by omega)
 rw [Nat.zero_add,show B.extract 0 B.size=B by simp] at this
 exact this
theorem pbytes_any (p q:Nat) (B:ByteArray) (l:Int) (w:World) (h:Pl w p q B l) :
  Calls Tryz.prog 140 #[.pointer (some ⟨p,0,none⟩)] w fun e w'=>e=.returned (.string B)∧w'=w:=by
 have c0:=h.c0
 have hc:=conv_all h
 clear h
 go_enter Tryz.func140,Tryz.ntmps140
 go_wp2
 go_ret
 exact ⟨rfl,rfl⟩
end Go.Proofs.YtadhpkopkkjmfaaGreatDoor
