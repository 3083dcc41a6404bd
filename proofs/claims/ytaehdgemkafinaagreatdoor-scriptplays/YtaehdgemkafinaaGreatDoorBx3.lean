/-
  On the way to SPlaysProof: P1 P2 P3 P4 P3b P5 P8P TA TO TS TB TD EV TG TK.
-/
import Derived.Test.YtaehdgemkafinaaGreatDoorBx1
import Derived.Laws.CopyRow
import Derived.Laws.Rows
import Derived.RegionTactic
import Derived.BigRegion
import Derived.Deep.Slices
import Derived.Laws.OwnMore
import Derived.Laws.AppendOwn
import Derived.Laws.AppendOwnNone
set_option maxHeartbeats 8000000
set_option maxRecDepth 100000
namespace Go.Proofs.YtaehdgemkafinaaGreatDoor
open Go.RowKit
open Go.Proofs.Tryz
def fe(B:ByteArray):Array Value:=(Lib.strCells B).toArray
theorem xd(B:ByteArray):(fe B).size=B.size:=by simp[fe,Lib.strCells_length]
theorem so{B:ByteArray}{j:Nat}(h:j<B.size):(fe B)[j]?=some (.int .u8 ((B[j]'h).toNat:Int)):=by
 unfold fe;rw[List.getElem?_toArray];exact we h
structure Pl (w:World) (p q:Nat) (B:ByteArray) (l:Int):Prop where
 ne:p≠q
 head:w.heap[p]?=some (.cells #[.slice (some ⟨q,0,none⟩) B.size B.size,.int .i64 l] 225 (0,0))
 row:w.heap[q]?=some (.cells (fe B) 5 (0,0))
theorem Pl.kept{S:Nat->Prop}{w w':World}{p q:Nat}{B:ByteArray}{l:Int}(h:Pl w p q B l)(k:Kept S w w')(a:¬S p)(b:¬S q):Pl w' p q B l:=⟨h.ne,k.row h.head a,k.row h.row b⟩
theorem Pl.c0{w:World}{p q:Nat}{B:ByteArray}{l:Int}(h:Pl w p q B l):w.cell? ⟨p,0,none⟩=some (.slice (some ⟨q,0,none⟩) B.size B.size):=by rw[aG w p 0 _ _ _ h.head];rfl
theorem Pl.c1{w:World}{p q:Nat}{B:ByteArray}{l:Int}(h:Pl w p q B l):w.cell? ⟨p,1,none⟩=some (.int .i64 l):=by rw[aG w p 1 _ _ _ h.head];rfl
theorem Pl.f1{w:World}{p q:Nat}{B:ByteArray}{l:Int}(h:Pl w p q B l):w.frozen? ⟨p,1,none⟩=false:=aK w p 1 _ _ h.head
theorem Pl.set{w:World}{p q:Nat}{B:ByteArray}{l:Int}(h:Pl w p q B l)(a:Int):Pl (w.setCell ⟨p,1,none⟩ (.int .i64 a)) p q B a:=
 ⟨h.ne,by rw[aE w p 1 _ _ _ h.head];rfl,by rw[dS w _ q _ (Ne.symm h.ne)];exact h.row⟩
theorem Pl.drew{w:World}{p q:Nat}{B:ByteArray}{l:Int}(h:Pl w p q B l):Pl w.drew p q B l:=⟨h.ne,h.head,h.row⟩
def In2(p q:Nat)(k:Nat):Prop:=k=p∨k=q
theorem mO{w:World}(p q:Nat)(v:Value):Kept (In2 p q) w (w.setCell ⟨p,1,none⟩ v):=(Kept.refl _ w).setCell (.inl rfl) v
theorem fs(p q:Nat)(B:ByteArray)(l:Int)(w:World)(h:Pl w p q B l):Calls prog 112 #[.pointer (some ⟨p,0,none⟩)] w fun e w'=>e=.returned (.bool (l != -2))∧w'=w:=by
 have a:=h.c1;clear h
 go_enter func112,ntmps112
 go_wp2
 go_ret
 exact⟨rfl,rfl⟩
theorem afF(p q:Nat)(B:ByteArray)(l:Int)(w:World)(h:Pl w p q B l):Calls prog 122 #[.pointer (some ⟨p,0,none⟩)] w fun e w'=>e=.returned (.tuple #[])∧Pl w' p q B (-1)∧Kept (In2 p q) w w':=by
 have b:=h.c1;have c:=h.f1;have a:=hid (h.set (-1));clear h
 go_enter func122,ntmps122
 go_wp2
 go_end0
 exact⟨rfl,a,mO p q _⟩
theorem vT(p q:Nat)(B:ByteArray)(l:Int)(w:World)(h:Pl w p q B l):Calls prog 124 #[.pointer (some ⟨p,0,none⟩)] w fun e w'=>e=.returned (.tuple #[])∧Pl w' p q B (-2)∧Kept (In2 p q) w w':=by
 have b:=h.c1;have c:=h.f1;have a:=hid (h.set (-2));clear h
 go_enter func124,ntmps124
 go_wp2
 go_end0
 exact⟨rfl,a,mO p q _⟩
theorem Held9.g1{w:World}{A:Nat->Addr}(h:Held9 w A):w.cell? ⟨0,0,none⟩=some (.iface 318 (.pointer (some (A 1)))):=h.var 1 (by decide)
theorem Held9.g5{w:World}{A:Nat->Addr}(h:Held9 w A):w.cell? ⟨5,0,none⟩=some (.iface 318 (.pointer (some (A 5)))):=h.var 5 (by decide)
structure HeldE (w:World) (A:Nat->Addr):Prop where
 g1:w.cell? ⟨0,0,none⟩=some (.iface 318 (.pointer (some (A 1))))
 g2:w.cell? ⟨2,0,none⟩=some (.iface 318 (.pointer (some (A 2))))
 g4:w.cell? ⟨4,0,none⟩=some (.iface 318 (.pointer (some (A 4))))
 g5:w.cell? ⟨5,0,none⟩=some (.iface 318 (.pointer (some (A 5))))
theorem HeldE.later{w w':World}{A:Nat->Addr}(h:HeldE w A)(a:Below w.heap.size w w'):HeldE w' A:=⟨ag a h.g1,ag a h.g2,ag a h.g4,ag a h.g5⟩
theorem Held9.toE{w:World}{A:Nat->Addr}(h:Held9 w A):HeldE w A:=⟨h.var 1 (by decide),h.var 2 (by decide),h.var 4 (by decide),h.var 5 (by decide)⟩
theorem om(A:Nat->Addr)(p q:Nat)(B:ByteArray)(l a n:Int)(w:World)(h:Pl w p q B l)(c:HeldE w A)(d:B.size<=1000)(f:n<=9223372036854775807)(b:a<0∨n<0∨(B.size:Int)-n<a):Calls prog 224 #[.pointer (some ⟨p,0,none⟩),.int .i64 a,.int .i64 n] w fun e w'=>e=.returned (.iface 318 (.pointer (some (A 1))))∧w'=w:=by
 have g:=h.c0;have i:=c.g1;clear h c
 by_cases j:a<0
 ·clear b
  go_enter func224,ntmps224
  go_wp2
  go_ret
  exact⟨rfl,rfl⟩
 ·by_cases k:n<0
  ·clear b
   go_enter func224,ntmps224
   go_wp2
   go_ret
   exact⟨rfl,rfl⟩
  ·have m:(B.size:Int)-n<a:=by omega
   clear b
   go_enter func224,ntmps224
   go_wp2
   go_ret
   exact⟨rfl,rfl⟩
theorem hG(A:Nat->Addr)(p q:Nat)(B:ByteArray)(l a n:Int)(w:World)(h:Pl w p q B l)(f:HeldE w A)(i:B.size<=1000)(c:¬(a<0∨n<0∨(B.size:Int)-n<a)):Calls prog 224 #[.pointer (some ⟨p,0,none⟩),.int .i64 a,.int .i64 n] w fun e w'=>e=.returned (if l=-2 then .iface 318 (.pointer (some (A 5)))else .nilIface)∧w'=w:=by
 have g:=hid h;have j:=h.c0;have k:=f.g5;have m:¬a<0:=fun b=>c (.inl b)
 have o:¬n<0:=fun b=>c (.inr (.inl b))
 have r:¬(B.size:Int)-n<a:=fun b=>c (.inr (.inr b))
 clear h f c
 by_cases d:l=-2
 ·subst d
  go_enter func224,ntmps224
  go_wp2_with (go_at_call 112;refine(fs p q B _ _ g).mono ?_;rintro e w' ⟨rfl,rfl⟩)
  go_ret
  exact⟨rfl,rfl⟩
 ·rw[aa d]
  have s:(l != -2)=true:=by simpa using d
  clear d
  go_enter func224,ntmps224
  go_wp2_with (go_at_call 112;refine(fs p q B _ _ g).mono ?_;rintro e w' ⟨rfl,rfl⟩)
  go_ret
  exact⟨rfl,rfl⟩
theorem wG(p q:Nat)(B:ByteArray)(w:World)(h:Pl w p q B 0):Calls prog 265 #[.pointer (some ⟨p,0,none⟩)] w fun e w'=>e=.returned (.bool false)∧Pl w' p q B (-2)∧Kept (In2 p q) w w':=by
 have a:=hid h;have d:=h.c1;clear h
 go_enter func265,ntmps265
 go_wp2_with (go_at_call 124;refine(vT p q B _ _ a).mono ?_;rintro e w' ⟨rfl,b,c⟩)
 go_ret
 exact⟨rfl,b,c⟩
theorem qm(p q:Nat)(B:ByteArray)(l:Int)(w:World)(h:Pl w p q B l)(h0:0<l)(h1:l<=9223372036854775807):Calls prog 265 #[.pointer (some ⟨p,0,none⟩)] w fun e w'=>e=.returned (.bool true)∧Pl w' p q B (l-1)∧Kept (In2 p q) w w':=by
 have b:=h.c1;have c:=h.f1;have a:=hid (h.set (l-1));clear h
 go_enter func265,ntmps265
 go_wp2
 go_ret
 exact⟨rfl,a,mO p q _⟩
theorem zb(p q:Nat)(B:ByteArray)(l:Int)(w:World)(h:Pl w p q B l)(h0:l<0):Calls prog 265 #[.pointer (some ⟨p,0,none⟩)] w fun e w'=>e=.returned (.bool true)∧w'=w:=by
 have a:=h.c1;clear h
 go_enter func265,ntmps265
 go_wp2
 go_ret
 exact⟨rfl,rfl⟩
theorem aaR(A:Nat->Addr)(v:Value)(n:Int)(w:World)(a:HeldE w A)(b:n<0):Calls prog 120 #[v,.int .i64 n] w fun e w'=>e=.returned (.iface 318 (.pointer (some (A 1))))∧w'=w:=by
 have c:=a.g1;clear a
 go_enter func120,ntmps120
 go_wp2
 go_ret
 exact⟨rfl,rfl⟩
theorem aeE(A:Nat->Addr)(p q:Nat)(B:ByteArray)(n:Int)(w:World)(h:Pl w p q B (-2))(a:HeldE w A)(c:¬n<0):Calls prog 120 #[.pointer (some ⟨p,0,none⟩),.int .i64 n] w fun e w'=>e=.returned (.iface 318 (.pointer (some (A 5))))∧w'=w:=by
 have b:=hid h;have d:=a.g5;clear a h
 go_enter func120,ntmps120
 go_wp2_with (go_at_call 112;refine(fs p q B _ _ b).mono ?_;rintro e w' ⟨rfl,rfl⟩)
 go_ret
 exact⟨rfl,rfl⟩
theorem agf(p q:Nat)(B:ByteArray)(l n:Int)(w:World)(h:Pl w p q B l)(a:¬l=-2)(d:¬n<0):Calls prog 120 #[.pointer (some ⟨p,0,none⟩),.int .i64 n] w fun e w'=>e=.returned .nilIface∧Pl w' p q B n∧Kept (In2 p q) w w':=by
 have b:=hid h;have f:=h.c1;have g:=h.f1;have c:=hid (h.set n);have i:(l != -2)=true:=by simpa using a
 clear h a
 go_enter func120,ntmps120
 go_wp2_with (go_at_call 112;refine(fs p q B _ _ b).mono ?_;rintro e w' ⟨rfl,rfl⟩)
 go_ret
 exact⟨rfl,c,mO p q _⟩
def bQ(n:Nat):ByteArray:=⟨(List.replicate n 0).toArray⟩
theorem dk(n:Nat):(bQ n).size=n:=by rw[bj];simp[bQ]
theorem Tryz.infoB:(prog.info? 5).map (fun i=>(i.zero,i.size,i.bytes))=some (some (.int .u8 0),1,1):=by kernel_rfl
theorem acD(n:Nat):madeCells (Value.int .u8 0).cells n=fe (bQ n):=by
 apply Array.ext';rw[show(Value.int .u8 0).cells=#[.int .u8 0]from rfl,toList_madeCells_one];simp[fe,Lib.strCells,bQ]
theorem mkB(n:Nat)(h:n<=1000)(w:World):(Instr.makeSlice 60 (.int .i64 n) (.int .i64 n)).run prog w=.ok (.slice (some ⟨w.heap.size,0,none⟩) n n) (w.alloc (.cells (fe (bQ n)) 5)):=by
 obtain⟨b,c,d,e,f⟩:=info_parts Tryz.infoB;have a:=run_make (P:=prog) w 60 5 b _ underlying60 c d .i64 .i64 n n (by omega) (Int.le_refl _) (by rw[f];omega) (by omega);simp only[aU,e,Nat.mul_one,acD]at a;exact a
theorem aiu(w:World)(n:Nat):Pl ((w.alloc (.cells (fe (bQ n)) 5)).alloc (.cells #[.slice (some ⟨w.heap.size,0,none⟩) n n,.int .i64 (-1)] 225)) (w.heap.size+1) w.heap.size (bQ n) (-1):=
 ⟨by omega,by rw[heap_alloc2_new,dk],heap_alloc2_old w _ _⟩
theorem xm(n:Nat)(w:World)(h:n<=512):Calls prog 155 #[.int .i64 n] w fun e w'=>e=.returned (.tuple #[.pointer (some ⟨w.heap.size+1,0,none⟩),.nilIface])∧Pl w' (w.heap.size+1) w.heap.size (bQ n) (-1)∧Below w.heap.size w w'∧w'.heap.size=w.heap.size+2:=by
 have b:=mkB n (by omega);have a:=hid (aiu w n)
 go_enter func155,ntmps155
 go_wp2
 go_ret2
 exact⟨rfl,a,(aD).alloc (by simp) _,by simp⟩
theorem Pl.put{w:World}{p q:Nat}{B s:ByteArray}{a k:Nat}{l:Int}(h:Pl w p q (eW B a s k) l)(c:a+k<B.size)(b:k<s.size):Pl (w.setCell ⟨q,a+k,none⟩ (.int .u8 ((s[k]'b).toNat:Int))) p q (eW B a s (k+1)) l:=by
 refine⟨h.ne,?_,?_⟩
 ·rw[dS w _ p _ h.ne,h.head,gA (by omega) (by omega),gA (by omega) (by omega)]
 ·rw[aE w q (a+k) _ _ _ h.row]
  unfold fe;rw[acn c b]
theorem Pl.bytes{w:World}{p q:Nat}{B s:ByteArray}{a k:Nat}{l:Int}(h:Pl w p q (eW B a s k) l)(b:a+k<=B.size)(c:k<=s.size):w.cell? ⟨p,0,none⟩=some (.slice (some ⟨q,0,none⟩) B.size B.size):=by
 rw[h.c0,gA b c]
theorem Pl.cq{w:World}{p q:Nat}{B:ByteArray}{j:Nat}{l:Int}(h:Pl w p q B l)(a:j<B.size):w.cell? ⟨q,j,none⟩=some (.int .u8 ((B[j]'a).toNat:Int)):=by
 rw[aG w q j _ _ _ h.row,so a]
theorem Pl.fq{w:World}{p q:Nat}{B:ByteArray}{l:Int}(h:Pl w p q B l)(j:Nat):w.frozen? ⟨q,j,none⟩=false:=aK w q j _ _ h.row
theorem un(A:Nat->Addr)(p q:Nat)(B s:ByteArray)(l a:Int)(w:World)(h:Pl w p q B l)(b:HeldE w A)(c:B.size<=1000)(g:s.size<=1000)(i:a<0∨(B.size:Int)-s.size<a):Calls prog 258 #[.pointer (some ⟨p,0,none⟩),.int .i64 a,.string s] w fun e w'=>e=.returned (.iface 318 (.pointer (some (A 1))))∧w'=w:=by
 have d:=hid h;have f:=hid b;clear h b
 go_enter func258,ntmps258
 go_wp2_with (go_at_call 224;refine(om A p q B l _ _ _ d f c (by omega) (by omega)).mono ?_;rintro e w' ⟨rfl,rfl⟩)
 go_ret
 exact⟨rfl,rfl⟩
theorem aaz(A:Nat->Addr)(p q:Nat)(B s:ByteArray)(a:Int)(w:World)(h:Pl w p q B (-2))(b:HeldE w A)(c:B.size<=1000)(g:s.size<=1000)(i:¬(a<0∨(B.size:Int)-s.size<a)):Calls prog 258 #[.pointer (some ⟨p,0,none⟩),.int .i64 a,.string s] w fun e w'=>e=.returned (.iface 318 (.pointer (some (A 5))))∧w'=w:=by
 have d:=hid h;have f:=hid b;clear h b
 go_enter func258,ntmps258
 go_wp2_with (go_at_call 224;refine(hG A p q B _ _ _ _ d f c (by omega)).mono ?_;rw[af rfl];rintro e w' ⟨rfl,rfl⟩)
 go_ret
 exact⟨rfl,rfl⟩
theorem xe(A:Nat->Addr)(p q:Nat)(B s:ByteArray)(a:Nat)(l:Int)(w:World)(h:Pl w p q B l)(g:HeldE w A)(o:B.size<=1000)(y:a+s.size<=B.size)(r:l<0)(i:¬l=-2):Calls prog 258 #[.pointer (some ⟨p,0,none⟩),.int .i64 a,.string s] w fun e w'=>e=.returned .nilIface∧Pl w' p q (eW B a s s.size) l∧Kept (In2 p q) w w':=by
 have j:=hid h;have t:=hid g;have u:=hid i;clear h g i
 go_enter func258,ntmps258
 go_wp2_with (go_at_call 224;refine(hG A p q B _ _ _ _ j t o (by omega)).mono ?_;rw[aa u.out];rintro e d ⟨rfl,v⟩;subst d)
 go_loopw [19] (fun f wr=>∃b:Nat,b<=s.size∧f=iV b∧Pl wr p q (eW B a s b) l∧Kept (In2 p q) w wr) (fun f _=>s.size-(intOf f).toNat)
 case atStart=>exact⟨0,Nat.zero_le _,rfl,by rw[nA];exact j,Kept.refl _ _⟩
 case round =>
  obtain⟨b,z,rfl,k,m⟩:=hrel;have c:=hid k;have n:=hid m;clear k m
  by_cases x:b<s.size
  ·have C:=c.bytes (by omega) (by omega)
   have D:=c.cq (j:=a+b) (by rw[gA (by omega) (by omega)];omega);have E:=c.fq (a+b)
   go_wp2_with (go_at_call 265;refine(zb p q _ l _ c r).mono ?_;rintro e d ⟨rfl,v⟩;subst d)
   go_region
   all_goals go_wp2
   all_goals go_roundw
   case rel=>exact⟨b+1,by omega,by go_num,(c.put (by omega) x).drew,(n.setCell (.inr rfl) _).drew⟩
   case measure=>simp[intOf];omega
  ·obtain rfl:b=s.size:=by omega
   go_wp2
   go_ret
   exact⟨rfl,c,n⟩
theorem tX{P:Program}{w:World}(d f ty elem:TypeId)(h:P.underlying d=some (.slice elem))(e:(P.info? elem).map (·.size)=some 1)(g cap:Nat)(x:ByteArray)(a:Array Value)(t:TypeId)(i:w.heap[g]?=some (.cells a t (0,0)))(n:a.size=x.size):(Builtin.copy_ #[d,f] ty #[.slice (some ⟨g,0,none⟩) x.size cap,.string x]).run P w=.ok (goInt x.size) (w.setRow g (fe x)):=by
 have j:=Lib.run_firstCells_string (P:=P) w 1 x;have b:=run_storeCells_at P g 0 t (Lib.strCells x) 0 a w i (by rw[Lib.strCells_length];omega) (Lib.strCells_oneCell x);rw[Lib.strCells_length]at b;have k:a.toList.drop (0+0+x.size)=[]:=List.drop_eq_nil_of_le (by simp;omega);rw[k]at b;simp only[Nat.add_zero,List.take_zero,List.nil_append,List.append_nil]at b
 cases c:P.info? elem with
 | none=>simp[c]at e
 | some l =>
  have m:l.size=1:=by simpa [c]using e
  simp[Builtin.copy_,run_underlying h,Builtin.lenOf,sizeOf,typeInfo,c,m,j,b,fe]
theorem adO:(prog.info? 5).map (·.size)=some 1:=by kernel_rfl
theorem Pl.row_set{w:World}{p q:Nat}{B s:ByteArray}{l:Int}(h:Pl w p q B l)(a:s.size=B.size):Pl (w.setRow q (fe s)) p q s l:=
 ⟨h.ne,by rw[setRow_other w q p _ h.ne,h.head,a],setRow_heap w q _ _ _ _ h.row⟩
theorem wQ{w:World}(p q:Nat)(a:Array Value):Kept (In2 p q) w (w.setRow q a):=⟨rfl,rfl,rfl,by simp,fun b _ c=>setRow_other w q b a (fun d=>c (.inr d))⟩
theorem afg(s:ByteArray)(w:World)(h:s.size<=512):Calls prog 186 #[.string s] w fun e w'=>e=.returned (.tuple #[.pointer (some ⟨w.heap.size+1,0,none⟩),.nilIface])∧Pl w' (w.heap.size+1) w.heap.size s (-1)∧Below w.heap.size w w'∧w'.heap.size=w.heap.size+2:=by
 go_enter func186,ntmps186
 go_wp2_with (go_at_call 155;refine(xm _ _ h).mono ?_;rintro e i ⟨rfl,a,b,c⟩;have d:=a.c0;rw[dk]at d;have j:=fun f=>tX (P:=prog) 60 9 f 5 underlying60 adO w.heap.size s.size s _ _ a.row (by rw[xd,dk]))
 go_ret2
 exact⟨rfl,a.row_set (dk _).symm,Kept.below (wQ (w.heap.size+1) w.heap.size _) b.size (fun k g=>by unfold In2 at g;omega) b,by simpa using c⟩
theorem pM{w:World}{p q:Nat}{B:ByteArray}{l:Int}(h:Pl w p q B l)(o n cap:Nat)(b:o+n<=B.size):(convert 60 9 (.slice (some ⟨q,o,none⟩) n cap)).run prog w=.ok (.string (B.extract o (o+n))) w:=by
 have a:((B.extract o (o+n)).data.toList).length=n:=by
  rw[dE];rw[bj]at b;simp only[bI,List.length_drop];omega
 have:=run_convert_bytes_back (P:=prog) w 60 9 5 ⟨q,o,none⟩ cap (B.extract o (o+n)).data.toList underlying60 underlying5 underlying9 (fun d c=>by
  rw[a]at c;rw[Addr.add_lit,h.cq (by omega),jC (by omega)]
  congr 3
  simp only[dE,List.getElem_take,List.getElem_drop])
 rw[a]at this;rw[this]
theorem afq{w:World}{p q:Nat}{B:ByteArray}{l:Int}(h:Pl w p q B l):(convert 60 9 (.slice (some ⟨q,0,none⟩) B.size B.size)).run prog w=.ok (.string B) w:=by
 have:=pM h 0 B.size B.size (by omega);rw[Nat.zero_add,show B.extract 0 B.size=B by simp]at this;exact this
theorem yN(p q:Nat)(B:ByteArray)(l:Int)(w:World)(h:Pl w p q B l):Calls prog 187 #[.pointer (some ⟨p,0,none⟩)] w fun e w'=>e=.returned (.string B)∧w'=w:=by
 have a:=h.c0;have b:=afq h;clear h
 go_enter func187,ntmps187
 go_wp2
 go_ret
 exact⟨rfl,rfl⟩
theorem yS(A:Nat->Addr)(p q:Nat)(B s:ByteArray)(a:Nat)(l:Int)(w:World)(h:Pl w p q B l)(f:HeldE w A)(r:B.size<=1000)(z:a+s.size<=B.size)(C:(s.size:Int)<=l)(D:l<=9223372036854775807):Calls prog 258 #[.pointer (some ⟨p,0,none⟩),.int .i64 a,.string s] w fun e w'=>e=.returned .nilIface∧Pl w' p q (eW B a s s.size) (l-s.size)∧Kept (In2 p q) w w':=by
 have g:=hid h;have t:=hid f;have u:Hid (¬l=-2):=by unfold Hid;omega
 clear h f
 go_enter func258,ntmps258
 go_wp2_with (go_at_call 224;refine(hG A p q B _ _ _ _ g t r (by omega)).mono ?_;rw[aa u.out];rintro e v ⟨rfl,E⟩;subst v)
 go_loopw [19] (fun d wr=>∃b:Nat,b<=s.size∧d=iV b∧Pl wr p q (eW B a s b) (l-b)∧Kept (In2 p q) w wr) (fun d _=>s.size-(intOf d).toNat)
 case atStart=>exact⟨0,Nat.zero_le _,rfl,by rw[nA];simpa using g.out,Kept.refl _ _⟩
 case round =>
  obtain⟨b,F,rfl,i,j⟩:=hrel;have k:=hid i;have m:=hid j;clear i j
  by_cases x:b<s.size
  ·go_wp2_with (go_at_call 265;refine(qm p q _ (l-b) _ k (by omega) (by omega)).mono ?_;rintro e G ⟨rfl,n,o⟩;have c:=hid n;have y:=hid o;clear n o;have H:=c.bytes (by omega) (by omega);have I:=c.cq (j:=a+b) (by rw[gA (by omega) (by omega)];omega);have J:=c.fq (a+b))
   go_region
   all_goals go_wp2
   all_goals go_roundw
   case rel =>
    refine⟨b+1,by omega,by go_num,?_,((m.trans y).setCell (.inr rfl) _).drew⟩;rw[show l-((b+1:Nat):Int)=l-b-1 by omega];exact(c.put (by omega) x).drew
   case measure=>simp[intOf];omega
  ·obtain rfl:b=s.size:=by omega
   go_wp2
   go_ret
   exact⟨rfl,k,m⟩
theorem wF(A:Nat->Addr)(p q:Nat)(B s:ByteArray)(a l:Nat)(w:World)(h:Pl w p q B l)(i:HeldE w A)(v:B.size<=1000)(H:a+s.size<=B.size)(I:l<s.size)(x:5≠p)(y:5≠q):Calls prog 258 #[.pointer (some ⟨p,0,none⟩),.int .i64 a,.string s] w fun e w'=>e=.returned (.iface 318 (.pointer (some (A 5))))∧Pl w' p q (eW B a s l) (-2)∧Kept (In2 p q) w w':=by
 have n:=hid h;have z:=hid i;have C:Hid (¬(l:Int)=-2):=by unfold Hid;omega
 have D:Hid (∀f,Kept (In2 p q) w f->f.cell? ⟨5,0,none⟩=some (.iface 318 (.pointer (some (A 5))))):=fun f o=>by
  rw[World.cell?_of_block (w:=w) (o.block 5 (bY i.g5) (fun e=>e.elim x y))];exact i.g5
 clear h i
 go_enter func258,ntmps258
 go_wp2_with (go_at_call 224;refine(hG A p q B _ _ _ _ n z v (by omega)).mono ?_;rw[aa C.out];rintro e f ⟨rfl,J⟩;subst f)
 go_loopw [19] (fun j wr=>∃b:Nat,b<=l∧j=iV b∧Pl wr p q (eW B a s b) (l-b)∧Kept (In2 p q) w wr) (fun j _=>l-(intOf j).toNat)
 case atStart=>exact⟨0,Nat.zero_le _,rfl,by rw[nA];simpa using n.out,Kept.refl _ _⟩
 case round =>
  obtain⟨b,o,rfl,r,t⟩:=hrel;have u:=hid r;have k:=hid t;clear r t;have E:b<s.size:=by omega
  by_cases K:b<l
  ·go_wp2_with (go_at_call 265;refine(qm p q _ (l-b) _ u (by omega) (by omega)).mono ?_;rintro e F ⟨rfl,g,c⟩;have d:=hid g;have m:=hid c;clear g c;have L:=d.bytes (by omega) (by omega);have M:=d.cq (j:=a+b) (by rw[gA (by omega) (by omega)];omega);have N:=d.fq (a+b))
   go_region
   all_goals go_wp2
   all_goals go_roundw
   case rel =>
    refine⟨b+1,by omega,by go_num,?_,((k.trans m).setCell (.inr rfl) _).drew⟩;rw[show(l:Int)-((b+1:Nat):Int)=l-b-1 by omega];exact(d.put (by omega) E).drew
   case measure=>simp[intOf];omega
  ·obtain rfl:b=l:=by omega
   have G:Hid (Pl wr p q (eW B a s b) 0):=by have:=u.out;rw[show(b:Int)-b=0 by omega]at this;exact this
   go_wp2_with (go_at_call 265;refine(wG p q _ _ G).mono ?_;rintro e F ⟨rfl,g,c⟩;have O:=D.out _ (k.trans c);have d:=hid g;have m:=hid c;clear g c)
   go_ret
   exact⟨rfl,d,k.trans m⟩
theorem wS(A:Nat->Addr)(p q:Nat)(B:ByteArray)(l a n:Int)(w:World)(h:Pl w p q B l)(b:HeldE w A)(d:B.size<=1000)(f:n<=9223372036854775807)(c:a<0∨n<0∨(B.size:Int)-n<a):Calls prog 197 #[.pointer (some ⟨p,0,none⟩),.int .i64 a,.int .i64 n] w fun e w'=>e=.returned (.tuple #[.string ⟨#[]⟩,.iface 318 (.pointer (some (A 1)))])∧w'=w:=by
 have g:=hid h;have i:=hid b;have j:=hid c;clear h b c
 go_enter func197,ntmps197
 go_wp2_with (go_at_call 224;refine(om A p q B l _ _ _ g i d f j).mono ?_;rintro e w' ⟨rfl,rfl⟩)
 go_ret2
 exact⟨rfl,rfl⟩
theorem sv(A:Nat->Addr)(p q:Nat)(B:ByteArray)(a n:Int)(w:World)(h:Pl w p q B (-2))(b:HeldE w A)(d:B.size<=1000)(c:¬(a<0∨n<0∨(B.size:Int)-n<a)):Calls prog 197 #[.pointer (some ⟨p,0,none⟩),.int .i64 a,.int .i64 n] w fun e w'=>e=.returned (.tuple #[.string ⟨#[]⟩,.iface 318 (.pointer (some (A 5)))])∧w'=w:=by
 have f:=hid h;have g:=hid b;have i:=hid c;clear h b c
 go_enter func197,ntmps197
 go_wp2_with (go_at_call 224;refine(hG A p q B _ _ _ _ f g d i).mono ?_;rw[af rfl];rintro e w' ⟨rfl,rfl⟩)
 go_ret2
 exact⟨rfl,rfl⟩
theorem um(A:Nat->Addr)(p q:Nat)(B:ByteArray)(l:Int)(a n:Nat)(w:World)(h:Pl w p q B l)(b:HeldE w A)(d:B.size<=1000)(c:¬l=-2)(o:a+n<=B.size):Calls prog 197 #[.pointer (some ⟨p,0,none⟩),.int .i64 a,.int .i64 n] w fun e w'=>e=.returned (.tuple #[.string (B.extract a (a+n)),.nilIface])∧w'=w:=by
 have f:=hid h;have g:=hid b;have i:=hid c;have r:=h.c0
 by_cases s:a<B.size
 ·have j:=pM h a n (B.size-a) o
  clear h b c
  go_enter func197,ntmps197
  go_wp2_with (go_at_call 224;refine(hG A p q B _ _ _ _ f g d (by omega)).mono ?_;rw[aa i.out];rintro e w' ⟨rfl,rfl⟩)
  go_ret2
  exact⟨rfl,rfl⟩
 ·obtain rfl:n=0:=by omega
  have j:=pM h 0 0 0 (by omega);have k:B.extract 0 (0+0)=ByteArray.empty:=by
   apply kG;rw[dE];simp
  have m:B.extract a (a+0)=ByteArray.empty:=by
   apply kG;rw[dE];simp
  rw[k]at j;rw[m];clear h b c k m
  go_enter func197,ntmps197
  go_wp2_with (go_at_call 224;refine(hG A p q B _ _ _ _ f g d (by omega)).mono ?_;rw[aa i.out];rintro e w' ⟨rfl,rfl⟩)
  go_ret2
  exact⟨rfl,rfl⟩
def Lk(l:Int)(off:Bool)(l':Int)(cuts:Bool):Prop:=
 (off=true∧l=-2)∨(off=false∧cuts=false∧l=-1)∨(off=false∧cuts=true∧l=l'∧0<=l∧l<=9223372036854775807)
abbrev ji(B s:ByteArray)(a:Int):Prop:=a<0∨(B.size:Int)-s.size<a
def wC(B s:ByteArray)(l a:Int):Nat:=if ji B s a then 2 else if l=-2 then 6 else if 0<=l∧l<s.size then 6 else 0
def wB(B s:ByteArray)(l a:Int):ByteArray:=if ji B s a then B else if l=-2 then B else if 0<=l∧l<s.size then eW B a.toNat s l.toNat else eW B a.toNat s s.size
def wL(B s:ByteArray)(l a:Int):Int:=if ji B s a then l else if l=-2 then -2 else if 0<=l∧l<s.size then -2 else if l<0 then l else l-s.size
theorem km(B s:ByteArray)(l a:Int):(wB B s l a).size=B.size:=by
 unfold wB
 split
 ·rfl
 ·rename_i b
  unfold ji at b
  split
  ·rfl
  ·split
   ·rename_i c;exact gA (by omega) (by omega)
   ·exact gA (by omega) (by omega)
theorem afh(A:Nat->Addr)(p q:Nat)(B s:ByteArray)(l a:Int)(w:World)(h:Pl w p q B l)(c:HeldE w A)(d:B.size<=1000)(k:s.size<=1000)(h1:-2<=l)(n:l<=9223372036854775807)(o:5≠p)(r:5≠q):Calls prog 258 #[.pointer (some ⟨p,0,none⟩),.int .i64 a,.string s] w fun e w'=>e=.returned (ev A (wC B s l a))∧Pl w' p q (wB B s l a) (wL B s l a)∧Kept (In2 p q) w w':=by
 by_cases b:ji B s a
 ·simp only[wC,wB,wL,af b]
  refine(un A p q B s l a w h c d k b).mono ?_;rintro e w' ⟨rfl,rfl⟩;exact⟨rfl,h,Kept.refl _ _⟩
 ·by_cases g:l=-2
  ·subst g
   simp only[wC,wB,wL,aa b,af];refine(aaz A p q B s a w h c d k b).mono ?_;rintro e w' ⟨rfl,rfl⟩;exact⟨rfl,h,Kept.refl _ _⟩
  ·have t:=b
   unfold ji at t;obtain⟨f,rfl⟩:∃f:Nat,a=f:=⟨a.toNat,by omega⟩
   by_cases m:0<=l∧l<s.size
   ·obtain⟨i,rfl⟩:∃i:Nat,l=i:=⟨l.toNat,by omega⟩
    simp only[wC,wB,wL,aa b,aa g,af m,aU];exact wF A p q B s f i w h c d (by omega) (by omega) o r
   ·simp only[wC,wB,wL,aa b,aa g,aa m,aU]
    by_cases j:l<0
    ·rw[af j]
     exact xe A p q B s f l w h c d (by omega) j g
    ·rw[aa j]
     exact yS A p q B s f l w h c d (by omega) (by omega) n
def cC(l n:Int):Nat:=if n<0 then 2 else if l=-2 then 6 else 0
def cL(l n:Int):Int:=if n<0 then l else if l=-2 then l else n
theorem aiz(A:Nat->Addr)(p q:Nat)(B:ByteArray)(l n:Int)(w:World)(h:Pl w p q B l)(c:HeldE w A):Calls prog 120 #[.pointer (some ⟨p,0,none⟩),.int .i64 n] w fun e w'=>e=.returned (ev A (cC l n))∧Pl w' p q B (cL l n)∧Kept (In2 p q) w w':=by
 by_cases a:n<0
 ·simp only[cC,cL,af a]
  refine(aaR A _ n w c a).mono ?_;rintro e w' ⟨rfl,rfl⟩;exact⟨rfl,h,Kept.refl _ _⟩
 ·by_cases b:l=-2
  ·subst b
   simp only[cC,cL,aa a,af];refine(aeE A p q B n w h c a).mono ?_;rintro e w' ⟨rfl,rfl⟩;exact⟨rfl,h,Kept.refl _ _⟩
  ·simp only[cC,cL,aa a,aa b]
   exact agf p q B l n w h b a
def rC(B:ByteArray)(l a n:Int):Nat:=if a<0∨n<0∨(B.size:Int)-n<a then 2 else if l=-2 then 6 else 0
theorem adR(A:Nat->Addr)(p q:Nat)(B:ByteArray)(l a n:Int)(c:Nat)(w:World)(h:Pl w p q B l)(f:HeldE w A)(g:B.size<=1000)(i:n<=9223372036854775807)(b:rC B l a n=c+1):Calls prog 197 #[.pointer (some ⟨p,0,none⟩),.int .i64 a,.int .i64 n] w fun e w'=>e=.returned (.tuple #[.string ⟨#[]⟩,.iface 318 (.pointer (some (A c)))])∧w'=w:=by
 unfold rC at b
 split at b
 ·rename_i d
  obtain rfl:c=1:=by omega
  exact wS A p q B l a n w h f g i d
 ·rename_i d
  split at b
  ·rename_i j
   subst j;obtain rfl:c=5:=by omega
   exact sv A p q B a n w h f g d
  ·omega
end Go.Proofs.YtaehdgemkafinaaGreatDoor
namespace Go.Proofs.YtaehdgemkafinaaGreatDoor
open Go.Proofs.Tryz
structure S3 where
 p:Int
 r:Int
 a:Int
def gv(p:Int)(L:List S3):Bool:=L.any fun s=>decide (s.p=p)
theorem je(p:Int)(L:List S3):gv p L=true ↔ ∃s,s∈L∧s.p=p:=by simp[gv]
def grS(p:Int)(x:Int×Bool)(s:S3):Int×Bool:=if s.p=p∧(x.2=false∨x.1<s.a)then(s.a,true)else x
def gr(p:Int)(L:List S3):Int×Bool:=L.foldl (grS p) (0,false)
theorem xl(p:Int)(L:List S3)(s:S3):gr p (L++[s])=grS p (gr p L) s:=by simp[gr,List.foldl_append]
def zW(p:Int)(L:List S3)(x:Int×Bool):Prop:=
 (x.2=true∧(∃s,s∈L∧s.p=p∧s.a=x.1)∧∀s,s∈L->s.p=p->s.a<=x.1)∨(x=(0,false)∧∀s,s∈L->s.p≠p)
theorem ah2{p:Int}{L:List S3}{x:Int×Bool}(s:S3)(h:zW p L x):zW p (L++[s]) (grS p x s):=by
 obtain⟨e,k⟩:=x;unfold grS;rcases h with⟨f,⟨l,m,n,i⟩,g⟩|⟨f,j⟩
 ·simp only at f i g
  subst f
  by_cases c:s.p=p∧((true:Bool)=false∨e<s.a)
  ·rw[af c]
   refine .inl ⟨rfl,⟨s,by simp,c.1,rfl⟩,fun b a d=>?_⟩;rcases List.mem_append.1 a with a|a
   ·have:=g b a d
    rcases c.2 with h|h
    ·cases h
    ·show b.a<=s.a;omega
   ·obtain rfl:b=s:=by simpa using a
    exact Int.le_refl _
  ·rw[aa c]
   refine .inl ⟨rfl,⟨l,by simp[m],n,i⟩,fun b a d=>?_⟩;rcases List.mem_append.1 a with a|a
   ·exact g b a d
   ·obtain rfl:b=s:=by simpa using a
    have:¬e<b.a:=fun h=>c ⟨d,.inr h⟩
    show b.a<=e;omega
 ·obtain⟨rfl,rfl⟩:e=0∧k=false:=by simpa using f
  by_cases c:s.p=p
  ·rw[af ⟨c,.inl rfl⟩]
   refine .inl ⟨rfl,⟨s,by simp,c,rfl⟩,fun b a d=>?_⟩;rcases List.mem_append.1 a with a|a
   ·exact absurd d (j b a)
   ·obtain rfl:b=s:=by simpa using a
    exact Int.le_refl _
  ·rw[aa (fun h=>c h.1)]
   refine .inr ⟨rfl,fun b a=>?_⟩;rcases List.mem_append.1 a with a|a
   ·exact j b a
   ·obtain rfl:b=s:=by simpa using a
    exact c
theorem uw{α:Type}{C:List α->Prop}(h0:C [])(h1:∀l x,C l->C (l++[x]))(l:List α):C l:=by
 have:∀a,∀l:List α,l.length=a->C l:=by
  intro a
  induction a with
  | zero=>intro l b;cases l with
   | nil=>exact h0
   | cons x g=>simp at b
  | succ a c =>
   intro l b;have d:l≠[]:=by intro e;subst e;simp at b
   have f:=List.dropLast_concat_getLast d;rw[<-f];exact h1 _ _ (c _ (by rw[List.length_dropLast];omega))
 exact this _ l rfl
theorem mD(p:Int)(L:List S3):zW p L (gr p L):=by
 refine uw (C:=fun L=>zW p L (gr p L)) ?_ ?_ L
 ·exact .inr ⟨rfl,fun a b=>by cases b⟩
 ·intro d a c
  rw[xl];exact ah2 a c
theorem na(p:Int)(L:List S3):(gr p L).2=gv p L:=by
 rcases mD p L with⟨a,⟨c,d,b,-⟩,-⟩|⟨a,e⟩
 ·rw[a];exact((je p L).2 ⟨c,d,b⟩).symm
 ·rw[a]
  refine(Bool.eq_false_iff.2 fun f=>?_).symm;obtain⟨g,h,b⟩:=(je p L).1 f;exact e g h b
def cD(L:List S3):Int×Bool:=
 if(gr 2 L).2=true then(2,true)else if(gr 3 L).2=true then(3,true)
 else if(gr 4 L).2=true∧((gr 5 L).2=false∨(gr 5 L).1<=(gr 4 L).1)then(4,false)else(5,false)
def beS(x:Bool×Int)(s:S3):Bool×Int:=if s.p=4∨s.p=5 then(false,if x.1=true∨x.2<s.a then s.a else x.2)else x
def be(L:List S3):Bool×Int:=L.foldl beS (true,0)
theorem xJ(L:List S3)(s:S3):be (L++[s])=beS (be L) s:=by simp[be,List.foldl_append]
def yE(L:List S3)(x:Bool×Int):Prop:=
 (x.1=false∧(∃s,s∈L∧(s.p=4∨s.p=5)∧s.a=x.2)∧∀s,s∈L->(s.p=4∨s.p=5)->s.a<=x.2)∨(x=(true,0)∧∀s,s∈L->¬(s.p=4∨s.p=5))
theorem aid{L:List S3}{x:Bool×Int}(s:S3)(h:yE L x):yE (L++[s]) (beS x s):=by
 obtain⟨o,i⟩:=x;unfold beS
 by_cases e:s.p=4∨s.p=5
 ·rw[af e]
  rcases h with⟨c,⟨j,k,l,g⟩,f⟩|⟨c,m⟩
  ·simp only at c g f
   subst c
   by_cases n:i<s.a
   ·rw[af (.inr n)]
    refine .inl ⟨rfl,⟨s,by simp,e,rfl⟩,fun b a d=>?_⟩;rcases List.mem_append.1 a with a|a
    ·have:=f b a d
     show b.a<=s.a;omega
    ·obtain rfl:b=s:=by simpa using a
     exact Int.le_refl _
   ·rw[aa (by simpa using n)]
    refine .inl ⟨rfl,⟨j,by simp[k],l,g⟩,fun b a d=>?_⟩;rcases List.mem_append.1 a with a|a
    ·exact f b a d
    ·obtain rfl:b=s:=by simpa using a
     show b.a<=i;omega
  ·obtain⟨rfl,rfl⟩:o=true∧i=0:=by simpa using c
   rw[af (.inl rfl)];refine .inl ⟨rfl,⟨s,by simp,e,rfl⟩,fun b a d=>?_⟩;rcases List.mem_append.1 a with a|a
   ·exact absurd d (m b a)
   ·obtain rfl:b=s:=by simpa using a
    exact Int.le_refl _
 ·rw[aa e]
  rcases h with⟨c,⟨j,k,l,g⟩,f⟩|⟨c,m⟩
  ·refine .inl ⟨c,⟨j,by simp[k],l,g⟩,fun b a d=>?_⟩
   rcases List.mem_append.1 a with a|a
   ·exact f b a d
   ·obtain rfl:b=s:=by simpa using a
    exact absurd d e
  ·refine .inr ⟨c,fun b a=>?_⟩
   rcases List.mem_append.1 a with a|a
   ·exact m b a
   ·obtain rfl:b=s:=by simpa using a
    exact e
theorem aft(L:List S3):yE L (be L):=by
 refine uw (C:=fun L=>yE L (be L)) ?_ ?_ L
 ·exact .inr ⟨rfl,fun a b=>by cases b⟩
 ·intro d a c
  rw[xJ];exact aid a c
def ie(b:Int)(L:List S3):Bool:=L.any fun s=>decide (s.p=4∧s.a=b)
theorem uL(b:Int)(L:List S3):ie b L=true ↔ ∃s,s∈L∧s.p=4∧s.a=b:=by simp[ie]
def gc(L:List S3):Int×Bool:=if gv 2 L=true then(2,true)else if gv 3 L=true then(3,true)else if ie (be L).2 L=true then(4,false)else(5,false)
theorem aaZ(L:List S3):cD L=gc L:=by
 unfold cD gc;rw[na 2,na 3];have key:((gr 4 L).2=true∧((gr 5 L).2=false∨(gr 5 L).1<=(gr 4 L).1)) ↔ ie (be L).2 L=true:=by
  rw[uL];rcases mD 4 L with⟨e,⟨f,g,h,A⟩,r⟩|⟨e,t⟩
  ·rcases mD 5 L with⟨l,⟨u,v,w,B⟩,x⟩|⟨l,y⟩
   ·rcases aft L with⟨-,⟨c,d,a,s⟩,m⟩|⟨-,n⟩
    ·constructor
     ·rintro⟨-,b|b⟩
      ·rw[l]at b;cases b
      ·refine⟨f,g,h,?_⟩
       have z:=m f g (.inl h);rcases a with a|a
       ·have:=r c d a;omega
       ·have:=x c d a;omega
     ·rintro⟨o,p,q,C⟩
      refine⟨e,.inr ?_⟩;have z:=m u v (.inr w);have D:=r o p q;omega
    ·exact absurd (.inl h) (n f g)
   ·rcases aft L with⟨-,⟨c,d,a,s⟩,m⟩|⟨-,n⟩
    ·refine⟨fun _=>⟨c,d,?_,s⟩,fun _=>⟨e,.inl (by rw[l])⟩⟩
     rcases a with a|a
     ·exact a
     ·exact absurd a (y c d)
    ·exact absurd (.inl h) (n f g)
  ·refine⟨fun b=>?_,fun⟨o,p,q,_⟩=>absurd q (t o p)⟩
   have:=b.1;rw[e]at this
   cases this
 by_cases i:gv 2 L=true
 ·rw[af i,af i]
 ·rw[aa i,aa i]
  by_cases j:gv 3 L=true
  ·rw[af j,af j]
  ·rw[aa j,aa j]
   by_cases k:ie (be L).2 L=true
   ·rw[af k,af (key.2 k)]
   ·rw[aa k,aa (fun b=>k (key.1 b))]
def eN(a:Int):Int:=if a=4 then 2 else if a=5 then 3 else 0
theorem wN(L:List S3):cD L=(2,true)∨cD L=(3,true)∨cD L=(4,false)∨cD L=(5,false):=by
 unfold cD
 repeat' split
 ·exact .inl rfl
 ·exact .inr (.inl rfl)
 ·exact .inr (.inr (.inl rfl))
 ·exact .inr (.inr (.inr rfl))
end Go.Proofs.YtaehdgemkafinaaGreatDoor
namespace Go.Proofs.YtaehdgemkafinaaGreatDoor
open Go.RowKit
open Go.Proofs.Tryz
theorem zl(a:Int)(w:World):Calls prog 222 #[.int .i64 a] w fun e w'=>e=.returned (.int .i64 (eN a))∧w'=w:=by
 unfold eN
 by_cases b:a=4
 ·subst b
  go_enter func222,ntmps222
  go_wp2
  go_ret
  exact⟨rfl,rfl⟩
 ·rw[aa b]
  by_cases c:a=5
  ·subst c
   go_enter func222,ntmps222
   go_wp2
   go_ret
   exact⟨rfl,rfl⟩
  ·rw[aa c]
   go_enter func222,ntmps222
   go_wp2
   go_ret
   exact⟨rfl,rfl⟩
def SL(w:World)(a:Option Addr)(L:List S3):Prop:=
 ∀i (h:i<L.length),∃b off,a=some ⟨b,off,none⟩∧w.cell? ⟨b,off+i*3,none⟩=some (.int .i64 (L[i]'h).p)∧w.cell? ⟨b,off+i*3+1,none⟩=some (.int .i64 (L[i]'h).r)∧w.cell? ⟨b,off+i*3+2,none⟩=some (.int .i64 (L[i]'h).a)
theorem SL.later{w w':World}{a:Option Addr}{L:List S3}(h:SL w a L)(b:Below w.heap.size w w'):SL w' a L:=fun c d=>by
 obtain⟨e,f,g,i,j,k⟩:=h c d;exact⟨e,f,g,ag b i,ag b j,ag b k⟩
theorem SL.nil(w:World)(a:Option Addr):SL w a []:=fun _ b=>absurd b (Nat.not_lt_zero _)
theorem iv{α:Type}(L:List α)(k:Nat)(h:k<L.length):L.take (k+1)=L.take k++[L[k]]:=by
 rw[List.take_add_one,cG h];rfl
theorem agh(p:Int)(L:List S3)(k:Nat)(h:k<L.length):gr p (L.take (k+1))=grS p (gr p (L.take k)) L[k]:=by rw[iv L k h,xl]
theorem uM(pb:Nat)(a:Option Addr)(cap:Nat)(L:List S3)(ph:Int)(w:World)(D:w.cell? ⟨pb,0,none⟩=some (.slice a L.length cap))(E:L.length<=200)(t:SL w a L):Calls prog 247 #[.int .i64 ph,.pointer (some ⟨pb,0,none⟩)] w fun e w'=>e=.returned (.tuple #[.int .i64 (gr ph L).1,.bool (gr ph L).2])∧Below w.heap.size w w':=by
 have z:=hid t;have A:Hid (gr ph (L.take L.length)=gr ph L):=by unfold Hid;rw[List.take_length]
 clear t
 go_enter func247,ntmps247
 go_wp2_with fail
 go_loopw [3,4,9] (fun f i m wr=>∃b:Nat,b<=L.length∧f=iV (gr ph (L.take b)).1∧i=.bool (gr ph (L.take b)).2∧m=iV (b:Int)∧bW w wr) (fun _ _ m _=>L.length-(intOf m).toNat)
 case atStart=>exact⟨0,Nat.zero_le _,rfl,rfl,rfl,aF⟩
 case round =>
  obtain⟨b,F,rfl,rfl,rfl,g⟩:=hrel;have n:=hid g
  by_cases o:b<L.length
  ·have d:=hid (agh ph L b o)
   obtain⟨G,j,rfl,p,q,r⟩:=z.out b o;obtain⟨⟨k,H,s⟩,u⟩:∃B,Hid (L[b]'o=B):=⟨_,rfl⟩;rw[u.out]at p q r d;replace p:=ag g p;replace q:=ag g q;replace r:=ag g r;obtain⟨⟨f,i⟩,v⟩:∃C,Hid (gr ph (L.take b)=C):=⟨_,rfl⟩;rw[v.out]at d ⊢;have l:∀j,Hid (bW w (wr.alloc j)):=fun j=>hid (n.alloc n.size j)
   clear g u v
   by_cases x:k=ph
   ·subst x
    cases i with
    | false =>
     have c:Hid (gr k (L.take (b+1))=(s,true)):=by unfold Hid;rw[d.out];unfold grS;exact af ⟨rfl,.inl rfl⟩
     clear d
     go_wp2_with fail
     go_roundw
     case rel=>exact⟨b+1,by omega,by rw[c.out],by rw[c.out],by go_num,(l _).out⟩
     case measure=>simp[intOf];omega
    | true =>
     by_cases y:f<s
     ·have c:Hid (gr k (L.take (b+1))=(s,true)):=by unfold Hid;rw[d.out];unfold grS;exact af ⟨rfl,.inr y⟩
      clear d
      go_wp2_with fail
      go_roundw
      case rel=>exact⟨b+1,by omega,by rw[c.out],by rw[c.out],by go_num,(l _).out⟩
      case measure=>simp[intOf];omega
     ·have c:Hid (gr k (L.take (b+1))=(f,true)):=by
       unfold Hid;rw[d.out];unfold grS;exact aa (fun h=>h.2.elim (fun h=>by cases h) y)
      clear d
      go_wp2_with fail
      go_roundw
      case rel=>exact⟨b+1,by omega,by rw[c.out],by rw[c.out],by go_num,(l _).out⟩
      case measure=>simp[intOf];omega
   ·have c:Hid (gr ph (L.take (b+1))=(f,i)):=by unfold Hid;rw[d.out];unfold grS;exact aa (fun h=>x h.1)
    clear d
    go_wp2_with fail
    go_roundw
    case rel=>exact⟨b+1,by omega,by rw[c.out],by rw[c.out],by go_num,(l _).out⟩
    case measure=>simp[intOf];omega
  ·obtain rfl:b=L.length:=by omega
   rw[A.out]
   go_wp2_with fail
   go_ret2
   exact⟨rfl,n⟩
theorem dF(pb:Nat)(a:Option Addr)(cap:Nat)(L:List S3)(ph m:Int)(b:Bool)(w:World)(c:w.cell? ⟨pb,0,none⟩=some (.slice a L.length cap))(d:L.length<=200)(f:SL w a L)(h:gr ph L=(m,b)):Calls prog 247 #[.int .i64 ph,.pointer (some ⟨pb,0,none⟩)] w fun e w'=>e=.returned (.tuple #[.int .i64 m,.bool b])∧Below w.heap.size w w':=by
 have:=uM pb a cap L ph w c d f;rw[h]at this;exact this
theorem aaM(a:Option Addr)(cap:Nat)(L:List S3)(w:World)(d:L.length<=200)(I:SL w a L):Calls prog 221 #[.slice a L.length cap] w fun e w'=>e=.returned (.tuple #[.int .i64 (cD L).1,.bool (cD L).2])∧Below w.heap.size w w':=by
 have R:=hid I;obtain⟨⟨h,i⟩,x⟩:∃g,Hid (cD L=g):=⟨_,rfl⟩;rw[x.out];obtain⟨⟨J,y⟩,z⟩:∃g,Hid (gr 2 L=g):=⟨_,rfl⟩;obtain⟨⟨K,A⟩,B⟩:∃g,Hid (gr 3 L=g):=⟨_,rfl⟩;obtain⟨⟨m,C⟩,r⟩:∃g,Hid (gr 4 L=g):=⟨_,rfl⟩;obtain⟨⟨n,u⟩,s⟩:∃g,Hid (gr 5 L=g):=⟨_,rfl⟩;have q:Hid ((if y=true then((2:Int),true)else if A=true then(3,true)else if C=true∧(u=false∨n<=m)then(4,false)else(5,false))=(h,i)):=by
  unfold Hid;rw[<-x.out];unfold cD;rw[z.out,B.out,r.out,s.out]
 clear I x;have S:∀(M:Fn) (first cap:Array Value) (w:World),(Instr.makeFunc M first cap).run prog w=.ok (.func M first cap) w:=fun _ _ _ _=>rfl
 go_enter func221,ntmps221
 go_wp2_with fail
 go_loopw [16] (fun D wr=>∃j:Nat,j<=2∧D=.int .i64 (j:Int)∧(0<j->y=false)∧(1<j->A=false)∧Below w.heap.size w wr∧wr.cell? ⟨w.heap.size,0,none⟩=some (.slice a L.length cap)∧wr.cell? ⟨w.heap.size+1,0,none⟩=some (.int .i64 2)∧wr.cell? ⟨w.heap.size+1,1,none⟩=some (.int .i64 3)) (fun D _=>2-(intOf D).toNat)
 case atStart =>
  refine⟨0,by omega,rfl,by omega,by omega,(aD).alloc (by simp) _,?_,?_,?_⟩
  ·exact bM _ (by simp)
  ·rw[World.cell?_alloc_at _ _ _ _ (by simp)];rfl
  ·rw[World.cell?_alloc_at _ _ _ _ (by simp)];rfl
 case round =>
  obtain⟨j,T,rfl,t,v,E,F,G,N⟩:=hrel;have k:=hid E;have c:=hid F;have O:=hid G;have P:=hid N;have f:=hid (R.out.later E);have U:=bY F;have V:=bY G;clear E;rcases (by omega:j=0∨j=1∨j=2)with rfl|rfl|rfl
  ·clear t v
   cases y with
   | true =>
    obtain⟨rfl,rfl⟩:(2:Int)=h∧true=i:=by simpa using q.out
    clear q
    go_wp2_with (go_at_call 247;refine(dF w.heap.size a cap L 2 J true _ c.out d f.out z.out).mono ?_;rintro e o ⟨rfl,b⟩)
    go_ret2
    exact⟨rfl,ao k.out b⟩
   | false =>
    go_wp2_with (go_at_call 247;refine(dF w.heap.size a cap L 2 J false _ c.out d f.out z.out).mono ?_;rintro e o ⟨rfl,b⟩)
    go_roundw
    case rel=>exact⟨1,by omega,by go_num,(by intros;trivial),by omega,ao k.out b,ag b c.out,ag b O.out,ag b P.out⟩
    case measure=>simp[intOf]
  ·obtain rfl:=t (by omega)
   clear t v
   cases A with
   | true =>
    obtain⟨rfl,rfl⟩:(3:Int)=h∧true=i:=by simpa using q.out
    clear q
    go_wp2_with (go_at_call 247;refine(dF w.heap.size a cap L 3 K true _ c.out d f.out B.out).mono ?_;rintro e o ⟨rfl,b⟩)
    go_ret2
    exact⟨rfl,ao k.out b⟩
   | false =>
    go_wp2_with (go_at_call 247;refine(dF w.heap.size a cap L 3 K false _ c.out d f.out B.out).mono ?_;rintro e o ⟨rfl,b⟩)
    go_roundw
    case rel=>exact⟨2,by omega,by go_num,(by intros;trivial),(by intros;trivial),ao k.out b,ag b c.out,ag b O.out,ag b P.out⟩
    case measure=>simp[intOf]
  ·obtain rfl:=t (by omega)
   obtain rfl:=v (by omega);clear t v F G N;have l:Hid ((if C=true∧(u=false∨n<=m)then((4:Int),false)else(5,false))=(h,i)):=by unfold Hid;simpa using q.out
   clear q
   cases C with
   | false =>
    obtain⟨rfl,rfl⟩:(5:Int)=h∧false=i:=by simpa using l.out
    clear l
    go_wp2_with (go_at_call 247;first
     | ((with_reducible refine(dF w.heap.size a cap L 5 n u _ (ag b c.out) d (f.out.later b) s.out).mono ?_);rintro e H ⟨rfl,p⟩)
     | ((with_reducible refine(dF w.heap.size a cap L 4 m false _ c.out d f.out r.out).mono ?_);rintro e o ⟨rfl,b⟩))
    go_ret2
    exact⟨rfl,ao (ao k.out b) p⟩
   | true =>
    cases u with
    | false =>
     obtain⟨rfl,rfl⟩:(4:Int)=h∧false=i:=by simpa using l.out
     clear l
     go_wp2_with (go_at_call 247;first
      | ((with_reducible refine(dF w.heap.size a cap L 5 n false _ (ag b c.out) d (f.out.later b) s.out).mono ?_);rintro e H ⟨rfl,p⟩)
      | ((with_reducible refine(dF w.heap.size a cap L 4 m true _ c.out d f.out r.out).mono ?_);rintro e o ⟨rfl,b⟩))
     go_ret2
     exact⟨rfl,ao (ao k.out b) p⟩
    | true =>
     by_cases Q:n<=m
     ·obtain⟨rfl,rfl⟩:(4:Int)=h∧false=i:=by simpa [Q]using l.out
      clear l
      go_wp2_with (go_at_call 247;first
       | ((with_reducible refine(dF w.heap.size a cap L 5 n true _ (ag b c.out) d (f.out.later b) s.out).mono ?_);rintro e H ⟨rfl,p⟩)
       | ((with_reducible refine(dF w.heap.size a cap L 4 m true _ c.out d f.out r.out).mono ?_);rintro e o ⟨rfl,b⟩))
      go_ret2
      exact⟨rfl,ao (ao k.out b) p⟩
     ·obtain⟨rfl,rfl⟩:(5:Int)=h∧false=i:=by simpa [Q]using l.out
      clear l
      go_wp2_with (go_at_call 247;first
       | ((with_reducible refine(dF w.heap.size a cap L 5 n true _ (ag b c.out) d (f.out.later b) s.out).mono ?_);rintro e H ⟨rfl,p⟩)
       | ((with_reducible refine(dF w.heap.size a cap L 4 m true _ c.out d f.out r.out).mono ?_);rintro e o ⟨rfl,b⟩))
      go_ret2
      exact⟨rfl,ao (ao k.out b) p⟩
structure E3 where
 s:Int
 d:Int
 p:Int
def e3L(x:E3):List Value:=[.int .i64 x.s,.int .i64 x.d,.int .i64 x.p]
def bu(L:List E3):List Value:=L.flatMap e3L
def EL(w:World)(a:Option Addr)(L:List E3):Prop:=
 ∀i (h:i<L.length),∃b off,a=some ⟨b,off,none⟩∧w.cell? ⟨b,off+i*3,none⟩=some (.int .i64 (L[i]'h).s)∧w.cell? ⟨b,off+i*3+1,none⟩=some (.int .i64 (L[i]'h).d)∧w.cell? ⟨b,off+i*3+2,none⟩=some (.int .i64 (L[i]'h).p)
theorem EL.later{w w':World}{a:Option Addr}{L:List E3}(h:EL w a L)(b:Below w.heap.size w w'):EL w' a L:=fun c d=>by
 obtain⟨e,f,g,i,j,k⟩:=h c d;exact⟨e,f,g,ag b i,ag b j,ag b k⟩
theorem EL.nil(w:World)(a:Option Addr):EL w a []:=fun _ b=>absurd b (Nat.not_lt_zero _)
theorem jH:∀(L:List E3) (i j:Nat) (h:i<L.length),j<3->(bu L)[i*3+j]?=(e3L (L[i]'h))[j]?
 | [],i,_,h,_=>absurd h (Nat.not_lt_zero _)
 | x::L,0,j,_,a=>by
  show(e3L x++bu L)[0*3+j]?=_;rw[Nat.zero_mul,Nat.zero_add,List.getElem?_append_left (by show j<3;exact a)];rfl
 | x::L,i+1,j,h,a=>by
  show(e3L x++bu L)[(i+1)*3+j]?=_;rw[List.getElem?_append_right (by show 3<=(i+1)*3+j;omega),show(i+1)*3+j-(e3L x).length=i*3+j by show(i+1)*3+j-3=i*3+j;omega];exact jH L i j (by simpa using h) a
theorem ra{w:World}{base:Nat}{t:TypeId}{v:Value}{L:List E3}(h:w.ownsRow base t 3 v L.length (bu L)):∃d cap,v=.slice d L.length cap∧L.length<=cap∧cap<=maxLen∧EL w d L:=by
 have b:=h;rcases h.2 with⟨rfl,e⟩|⟨f,cap,k,rfl,l,m,g,i,n,o⟩
 ·have j:L=[]:=List.length_eq_zero_iff.1 e
  subst j;exact⟨none,0,rfl,aj,Nat.zero_le _,EL.nil _ _⟩
 ·refine⟨_,cap,rfl,g,i,fun a c=>⟨f,0,rfl,?_,?_,?_⟩⟩
  ·have:=b.cellAt (a*3+0) (by omega)
   rw[jH L a 0 c (by decide)]at this;rw[Nat.zero_add];exact this
  ·have:=b.cellAt (a*3+1) (by omega)
   rw[jH L a 1 c (by decide)]at this;rw[Nat.zero_add];exact this
  ·have:=b.cellAt (a*3+2) (by omega)
   rw[jH L a 2 c (by decide)]at this;rw[Nat.zero_add];exact this
theorem Tryz.infoS3:(prog.info? 80).map (fun i=>(i.zero,i.size,i.bytes))=some (some (.agg #[.int .i64 0,.int .i64 0,.int .i64 0]),3,24):=by kernel_rfl
def cV(L:List S3):List Value:=L.flatMap fun s=>[.int .i64 s.p,.int .i64 s.r,.int .i64 s.a]
theorem nf(s:S3)(L:List S3):cV (s::L)=.int .i64 s.p::.int .i64 s.r::.int .i64 s.a::cV L:=rfl
theorem sc(L M:List S3):cV (L++M)=cV L++cV M:=by simp[cV,List.flatMap_append]
theorem jl:∀L:List S3,(cV L).length=L.length*3
 | []=>rfl
 | s::L=>by rw[nf];simp[jl L];omega
theorem ij:∀(L:List S3) (i:Nat) (h:i<L.length),(cV L)[i*3]?=some (.int .i64 (L[i]'h).p)∧(cV L)[i*3+1]?=some (.int .i64 (L[i]'h).r)∧(cV L)[i*3+2]?=some (.int .i64 (L[i]'h).a)
 | [],i,h=>absurd h (Nat.not_lt_zero _)
 | s::L,0,_=>⟨rfl,rfl,rfl⟩
 | s::L,i+1,h=>by
  have a:=ij L i (by simpa using h);rw[nf,show(i+1)*3=i*3+1+1+1 by omega]
  simpa using a
theorem wK(L:List S3):∀a∈cV L,a.oneCell'=true:=by
 intro a c;obtain⟨d,-,b⟩:=List.mem_flatMap.1 c;simp at b;rcases b with rfl|rfl|rfl<;>rfl
theorem SL.cells{w:World}{d:Addr}{L:List S3}(h:SL w (some d) L):∀j c,(cV L)[j]?=some c->w.cell? (d.add j)=some c:=by
 intro j c b;have n:j<(cV L).length:=(List.getElem?_eq_some_iff.1 b).1;rw[jl]at n;have e:j / 3<L.length:=by omega
 obtain⟨o,p,a,f,g,i⟩:=h (j / 3) e;obtain⟨k,l,m⟩:=ij L (j / 3) e;obtain rfl:=bF a;rw[cZ];rcases (by omega:j=j / 3*3∨j=j / 3*3+1∨j=j / 3*3+2)with a|a|a
 ·rw[<-a]at k f;rw[k]at b;rw[<-b];exact f
 ·rw[<-a]at l;rw[Nat.add_assoc,<-a]at g;rw[l]at b;rw[<-b];exact g
 ·rw[<-a]at m;rw[Nat.add_assoc,<-a]at i;rw[m]at b;rw[<-b];exact i
theorem SL.owned{w:World}{base:Nat}{v:Value}{L:List S3}(h:w.ownsRow base 80 3 v L.length (cV L)):∃a cap,v=.slice a L.length cap∧(a=none->cap=0)∧SL w a L:=by
 have c:=h;rcases h.2 with⟨rfl,e⟩|⟨f,cap,i,rfl,j,k,l,m,n,o⟩
 ·have g:L=[]:=List.length_eq_zero_iff.1 e
  subst g;exact⟨none,0,rfl,fun _=>rfl,SL.nil _ _⟩
 ·refine⟨_,cap,rfl,(fun h=>by cases h),fun b d=>⟨f,0,rfl,?_,?_,?_⟩⟩
  ·have:=c.cellAt (b*3) (by omega)
   rw[Nat.zero_add,this];exact(ij L b d).1
  ·have:=c.cellAt (b*3+1) (by omega)
   rw[Nat.zero_add,this];exact(ij L b d).2.1
  ·have:=c.cellAt (b*3+2) (by omega)
   rw[Nat.zero_add,this];exact(ij L b d).2.2
theorem qb{ops:Array Oper}{rest:List Oper}{o:Oper}{a:Act}{Q:Exit->Act->World->Prop}{w:World}(d:o.guard=none)(s x:Operand)(e:o.op=.call { callee:=.builtin .append,args:=#[s,x],argTypes:=#[115,115] })(base:Nat)(v:Value)(M:List S3)(f:a.eval s=v)(c:w.ownsRow base 80 3 v M.length (cV M))(b:Option Addr)(n cap:Nat)(L:List S3)(g:a.eval x=.slice b n cap)(p:n=L.length)(q:b=none->cap=0)(i:SL w b L)(h1:M.length<=100)(D:L.length<=100)(j:base<=w.heap.size)(h:∀v' w',w'.ownsRow base 80 3 v' (M++L).length (cV (M++L))->Below base w w'->wpList prog ops Q rest (a.put o.dst v') w'):wpList prog ops Q (o::rest) a w:=by
 obtain⟨k,l,r,t,u⟩:=info_parts Tryz.infoS3;subst p
 cases b with
 | none =>
  have y:=q rfl;subst y;have z:L=[]:=by
   cases L with
   | nil=>rfl
   | cons E F=>obtain⟨G,H,A,_⟩:=i 0 (by simp);cases A
  subst z;refine wpList_append_own_none d s x 115 e base 80 k 3 underlying115 l v M.length (cV M) f c g ?_;exact h v w (by rw[List.append_nil];exact c) aF
 | some b =>
  refine wpList_append_own _ d s x 115 e base 80 k _ 3 24 underlying115 l r t u rfl (by decide) v M.length (cV M) f c b L.length cap (cV L) g (jl L) i.cells (wK L) (by unfold maxLen;omega) (by omega) j ?_;intro v' w' B C _;refine h v' w' (by rw[aR,sc];exact B) (aF.grown C j fun I m=>?_);rcases c.2 with⟨rfl,_⟩|⟨J,K,N,rfl,O,_⟩
  ·cases m
  ·simp[Value.ownBlock]at m;omega
theorem aaT(a:Int)(w:World):Calls prog 150 #[.int .i64 a] w fun e w'=>e=.returned (.int .i64 (eN a))∧w'=w:=by
 unfold eN
 by_cases b:a=4
 ·subst b
  go_enter func150,ntmps150
  go_wp2
  go_ret
  exact⟨rfl,rfl⟩
 ·rw[aa b]
  by_cases c:a=5
  ·subst c
   go_enter func150,ntmps150
   go_wp2
   go_ret
   exact⟨rfl,rfl⟩
  ·rw[aa c]
   go_enter func150,ntmps150
   go_wp2
   go_ret
   exact⟨rfl,rfl⟩
end Go.Proofs.YtaehdgemkafinaaGreatDoor
