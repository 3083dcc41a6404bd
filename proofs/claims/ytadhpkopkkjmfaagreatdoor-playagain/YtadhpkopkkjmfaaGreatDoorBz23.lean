/-
  On the way to WStepsProof, WCommitsProof, WAgreesProof, WEndsProof, WWaitsProof, JTampersProof, PAgreesProof, PAgainProof: JI JK JL JM JN JO JQ JS RVP S5.
-/
import Derived.Test.YtadhpkopkkjmfaaGreatDoorBz14
import Derived.Test.YtadhpkopkkjmfaaGreatDoorBz13
import Derived.Maps.OwnSet
set_option maxHeartbeats 8000000
set_option maxRecDepth 100000
namespace Go.Proofs.YtadhpkopkkjmfaaGreatDoor
open Go.RowKit
theorem wr_of (B s:ByteArray) (l:Int) (a:Nat) (h:a+s.size≤B.size) (h0:0<s.size):Wr B.data.toList a s.data.toList (wB B s l a).data.toList (wC B s l a):=by
 have hb:¬ wBad B s a:=by unfold wBad; omega
 by_cases hl:l=-2
 ·simp only [wC,wB,if_neg hb,if_pos hl]
  exact .inr ⟨rfl,0,by rw [← size_list]; exact h0,by rw [List.take_zero,putL_nil]⟩
 ·by_cases hn:0≤l∧l<s.size
  ·simp only [wC,wB,if_neg hb,if_neg hl,if_pos hn,Int.toNat_natCast]
   refine .inr ⟨rfl,l.toNat,by rw [← size_list]; omega,?_⟩
   rw [putB_putL (by omega)]
  ·simp only [wC,wB,if_neg hb,if_neg hl,if_neg hn,Int.toNat_natCast]
   refine .inl ⟨rfl,?_⟩
   rw [putB_putL (Nat.le_refl _),size_list,List.take_length]
theorem wL_off (B s:ByteArray) (l:Int) (a:Nat) (h:wC B s l a=6):wL B s l a=-2:=by
 unfold wC at h
 unfold wL
 split at h
 ·cases h
 ·rename_i hb
  rw [if_neg hb]
  split at h
  ·rename_i hl; rw [if_pos hl]
  ·rename_i hl
   rw [if_neg hl]
   split at h
   ·rename_i hn; rw [if_pos hn]
   ·cases h
end Go.Proofs.YtadhpkopkkjmfaaGreatDoor
namespace Go.Proofs.YtadhpkopkkjmfaaGreatDoor
open Go.RowKit
theorem slotL_take (L:List UInt8) (k:Nat) (hk:k<12):slotL (L.take 216) k=slotL L k:=by
 apply List.ext_getElem?
 intro m
 rw [slotL_get,slotL_get]
 split
 ·rw [List.getElem?_take,if_pos (by omega)]
 ·rfl
theorem dealL_take (L:List UInt8) (d:Nat) (hd:d<6):dealL (L.take 216) d=dealL L d:=by
 unfold dealL
 rw [slotL_take L _ (by omega),slotL_take L _ (by omega)]
theorem newest_is (B:ByteArray) (d n ph pr a:Nat) (w:World) (hB:B.size=216) (hd:d<6) (h:dealL B.data.toList d=(n,⟨ph,pr,a⟩)) :
  Calls Tryz.prog 137 #[.string B,.int .i64 (d:Int)] w fun e w'=>e=.returned (.agg #[.int .i64 (ph:Int),.int .i64 (pr:Int),.int .i64 (a:Int),.int .u32 (n:Int)])∧Below w.heap.size w w':=by
 have:=newest_any B d w hB hd
 rw [h] at this
 exact this
def openE (L:List UInt8) (k:Nat):Nat→Nat×St:=fun d=>if d<k then dealL L d else (0,St.zero)
theorem openE_step (L:List UInt8) (k:Nat):openE L (k+1)=updE (openE L k) k (dealL L k):=by
 funext d
 unfold openE updE
 by_cases h:d=k
 ·subst h; rw [if_pos (by omega),if_pos rfl]
 ·rw [if_neg h]
  show _=if d<k then dealL L d else (0,St.zero)
  by_cases h2:d<k
  ·rw [if_pos (by omega),if_pos h2]
  ·rw [if_neg (by omega),if_neg h2]
theorem place6 (w:World):Calls Tryz.prog 136 #[.int .i64 6,.int .u32 0] w fun e w'=>e=.returned (.int .i64 216)∧w'=w:=place_any 6 0 w (by omega) (by omega)
theorem read6 (A:Nat→Addr) (p q:Nat) (B X:ByteArray) (l:Int) (w:World) (h:Pl w p q B l) (hE:HeldE w A) (hB:B.size≤1000) (hl:¬ l=-2) (hb:216≤B.size) (hX:B.extract 0 (0+216)=X) :
  Calls Tryz.prog 135 #[.pointer (some ⟨p,0,none⟩),.int .i64 0,.int .i64 216] w fun e w'=>e=.returned (.tuple #[.string X,.nilIface])∧w'=w:=by
 rw [← hX]; exact pread_ok A p q B l 0 216 w h hE hB hl (by omega)
theorem openE_all (L:List UInt8) (d:Nat) (hd:d<6):openE L 6 d=dealL L d:=if_pos hd
theorem open_ok (A:Nat→Addr) (p q:Nat) (B:ByteArray) (l:Int) (w:World) (h:Pl w p q B l) (hE:HeldE w A) (hB:B.size≤1000) (h6:216≤B.size) (hl:¬ l=-2) :
  Calls Tryz.prog 102 #[.pointer (some ⟨p,0,none⟩)] w fun e w'=>∃ j,e=.returned (.tuple #[.pointer (some ⟨j,0,none⟩),.nilIface])∧JR w' j p (dealL B.data.toList) false∧Below w.heap.size w w'∧w.heap.size≤j:=by
 have H:=hid h
 have HE:=hid hE
 have HL:=hid hl
 obtain ⟨X,HX⟩:∃ X,Hid (B.extract 0 (0+216)=X):=⟨_,rfl⟩
 have HXl:Hid (X.data.toList=B.data.toList.take 216):=by rw [← HX.out,]; unfold Hid; rw [ext_list]; rfl
 have hX:X.size=216:=by rw [size_list,HXl.out,List.length_take,← size_list]; omega
 have HF:Hid (∀ w' j,JR w' j p (openE X.data.toList 6) false→JR w' j p (dealL B.data.toList) false):=fun w' j hj=>hj.ext (fun d hd=>by rw [openE_all _ _ hd,HXl.out,dealL_take _ _ hd])
 have HS:Hid (∀ k,openE X.data.toList (k+1)=updE (openE X.data.toList k) k (dealL X.data.toList k)):=openE_step _
 have H0:Hid (openE X.data.toList 0=fun _=>(0,St.zero)):=by unfold Hid openE; funext d; rw [if_neg (by omega)]
 clear h hE hl
 go_enter Tryz.func102,Tryz.ntmps102
 go_wp2_with (first|(go_at_call 136; refine (place6 _).mono ?_; rintro e wx ⟨rfl,hx⟩; subst wx)|(go_at_call 135; refine (read6 A p q B X l _ H.out HE.out hB HL.out h6 HX.out).mono ?_; rintro e wx ⟨rfl,hx⟩; subst wx))
 go_loopw [23] (fun i wr=>∃ k:Nat,k≤6∧i=.int .i64 (k:Int)∧JR wr w.heap.size p (openE X.data.toList k) false∧Below w.heap.size w wr) (fun i _=>6 - (intOf i).toNat)
 case atStart=>exact ⟨0,by omega,rfl,by rw [H0.out]; exact heap_alloc_new w _,(Below.refl _ _).alloc (Nat.le_refl _) _⟩
 case round =>
  obtain ⟨k,hk,rfl,hJ,hb⟩:=hrel
  have HJ:=hid hJ
  have HB:=hid hb
  clear hJ hb
  by_cases hlt:k<6
  ·obtain ⟨⟨n,ph,pr,a⟩,HD⟩:∃ x,Hid (dealL X.data.toList k=x):=⟨_,rfl⟩
   go_wp2_with fail
   go_region_held3 (fun _=>True) (trivial) (first|(go_at_call 137; (with_reducible refine (newest_is X k n ph pr a _ hX hlt HD.out).mono ?_); rintro e w2 ⟨rfl,hb2⟩; have HJ2:=hid (HJ.out.drew.later hb2 HJ.out.lt); have HB2:=hid (HB.out.drew.trans (hb2.mono HB.out.size)); obtain ⟨c0,c1,c2,c3⟩:=HJ2.out.ent hlt; have f0:=HJ2.out.fz (1+k * 4); have f1:=HJ2.out.fz (1+k * 4+1); have f2:=HJ2.out.fz (1+k * 4+2); have f3:=HJ2.out.fz (1+k * 4+3); clear hb2))
   all_goals go_wp2_with fail
   all_goals go_roundw
   case rel=>exact ⟨k+1,by omega,by go_num,by rw [HS.out,HD.out]; exact HJ2.out.set hlt (n,⟨ph,pr,a⟩),(((HB2.out.setCell (Nat.le_refl _) _).setCell (Nat.le_refl _) _).setCell (Nat.le_refl _) _).setCell (Nat.le_refl _) _⟩
   case measure=>simp [intOf]; omega
  ·obtain rfl:k=6:=by omega
   go_wp2_with fail
   go_ret2
   exact ⟨w.heap.size,rfl,HF.out _ _ HJ.out,HB.out,Nat.le_refl _⟩
theorem sizeState:(Tryz.prog.info? 43).map (·.size)=some 3:=by kernel_rfl
theorem set3 {w:World} {g:Nat} {a b c:Value} {t:TypeId} (h:w.heap[g]? = some (.cells #[a,b,c] t (0,0))) (x0 x1 x2:Value) :
  (((w.setCell ⟨g,0,none⟩ x0).setCell ⟨g,1,none⟩ x1).setCell ⟨g,2,none⟩ x2).heap[g]? = some (.cells #[x0,x1,x2] t (0,0)):=by
 have h0:=heap_setCell_same w g 0 _ _ x0 h
 have h1:=heap_setCell_same _ g 1 _ _ x1 h0
 exact heap_setCell_same _ g 2 _ _ x2 h1
def stV (s:St):Value:=.agg #[.int .i64 s.ph,.int .i64 s.pr,.int .i64 s.at_]
theorem get_ok (j p d:Nat) (E:Nat→Nat×St) (over:Bool) (w:World) (h:JR w j p E over) (hd:d<6) :
  Calls Tryz.prog 103 #[.pointer (some ⟨j,0,none⟩),.int .i64 (d:Int)] w fun e w'=>e=.returned (.tuple #[stV (E d).2,.nilIface])∧Below w.heap.size w w':=by
 have HK:Hid (decide (0≤(d:Int)∧(d:Int)<6)=true):=decide_eq_true ⟨by omega,by omega⟩
 obtain ⟨c0,c1,c2,c3⟩:=h.ent hd
 have hj:=h.lt
 unfold stV
 generalize (E d).2.ph=ph at c0 ⊢
 generalize (E d).2.pr=pr at c1 ⊢
 generalize (E d).2.at_=a at c2 ⊢
 clear h
 go_enter Tryz.func103,Tryz.ntmps103
 go_wp2_with (go_at_call 138; refine (known_any d _).mono ?_; rw [HK.out]; rintro e wx ⟨rfl,hx⟩; subst wx)
 refine bodyPost_ret (results_row2 rfl _ _ w.heap.size 43 #[.int .i64 (ph:Int),.int .i64 (pr:Int),.int .i64 (a:Int)] (0,0) _ rfl (heap_alloc_new w _) Tryz.underlying43 rfl sizeState) rfl ?_
 exact ⟨rfl,(Below.refl _ _).alloc (Nat.le_refl _) _⟩
structure JP (w0 w:World) (j p q:Nat) (E:Nat→Nat×St) (over:Bool) (B:ByteArray) (l:Int):Prop where
 bel:Below w0.heap.size w0 w
 jr:JR w j p E over
 pl:Pl w p q B l
 jp:j≠p
 jq:j≠q
 j0:w0.heap.size≤j
 p0:w0.heap.size≤p
 q0:w0.heap.size≤q
 l0:-2≤l
 l1:l≤9223372036854775807
 sz:B.size≤1000
 s6:216≤B.size
section
variable {w0 w w':World} {j p q:Nat} {E:Nat→Nat×St} {over:Bool} {B B':ByteArray} {l l':Int} {A:Nat→Addr}
theorem JP.later (h:JP w0 w j p q E over B l) (hb:Below w.heap.size w w'):JP w0 w' j p q E over B l :=
 ⟨h.bel.trans (hb.mono h.bel.size),h.jr.later hb h.jr.lt,h.pl.kept (S:=fun _=>False) (Kept.of_below hb) (fun x=>x) (fun x=>x),h.jp,h.jq,h.j0,h.p0,h.q0,h.l0,h.l1,h.sz,h.s6⟩
theorem JP.drew (h:JP w0 w j p q E over B l):JP w0 w.drew j p q E over B l:=h.later (Below.refl _ _).drew
theorem JP.plate (h:JP w0 w j p q E over B l) (hk:Kept (In2 p q) w w') (hp:Pl w' p q B' l') (h0:-2≤l') (h1:l'≤9223372036854775807) (hs:B'.size=B.size):JP w0 w' j p q E over B' l' :=
 ⟨hk.below h.bel.size (fun k g=>by have:=h.p0; have:=h.q0; unfold In2 at g; omega) h.bel,hk.row h.jr (fun g=>g.elim h.jp h.jq),hp,h.jp,h.jq,h.j0,h.p0,h.q0,h0,h1,by rw [hs]; exact h.sz,by rw [hs]; exact h.s6⟩
theorem JP.held (h:JP w0 w j p q E over B l) (hE:HeldE w0 A):HeldE w A:=hE.later h.bel
theorem JP.gp (h:JP w0 w j p q E over B l) (hE:HeldE w0 A):5≠p∧5≠q:=by
 have:=cell_lt hE.g5
 have:=h.p0
 have:=h.q0
 exact ⟨fun e=>by subst e; simp at *; omega,fun e=>by subst e; simp at *; omega⟩
theorem JP.own {E':Nat→Nat×St} {over':Bool} (h:JP w0 w j p q E over B l) (hk:Kept (In1 j) w w') (hj:JR w' j p E' over'):JP w0 w' j p q E' over' B l :=
 ⟨hk.below h.bel.size (fun k g=>by have:=h.j0; unfold In1 at g; omega) h.bel,hj,h.pl.kept hk (fun g=>h.jp g.symm) (fun g=>h.jq g.symm),h.jp,h.jq,h.j0,h.p0,h.q0,h.l0,h.l1,h.sz,h.s6⟩
end
theorem wL_ge (B s:ByteArray) (l a:Int) (h:-2≤l):-2≤wL B s l a:=by
 unfold wL
 repeat' split
 all_goals omega
theorem wL_le (B s:ByteArray) (l a:Int) (h:l≤9223372036854775807):wL B s l a≤9223372036854775807:=by
 unfold wL
 repeat' split
 all_goals omega
theorem write_jp (A:Nat→Addr) (w0 w:World) (j p q:Nat) (E:Nat→Nat×St) (over:Bool) (B s:ByteArray) (l a:Int) (h:JP w0 w j p q E over B l) (hE:HeldE w0 A) (hs:s.size≤1000) (c:Nat) (hc:wC B s l a=c) :
  Calls Tryz.prog 210 #[.pointer (some ⟨p,0,none⟩),.int .i64 a,.string s] w fun e w'=>e=.returned (ev A c)∧JP w0 w' j p q E over (wB B s l a) (wL B s l a)∧Kept (In2 p q) w w':=by
 rw [← hc]
 refine (write_pl A p q B s l a w h.pl (h.held hE) h.sz hs h.l0 h.l1 (h.gp hE).1 (h.gp hE).2).mono ?_
 rintro e w' ⟨rfl,hp,hk⟩
 exact ⟨rfl,h.plate hk hp (wL_ge B s l a h.l0) (wL_le B s l a h.l1) (wB_size B s l a),hk⟩
structure Out where
 c:Nat
 b:ByteArray
 l:Int
def wOut (B s:ByteArray) (l:Int) (a:Nat):Out:=⟨wC B s l a,wB B s l a,wL B s l a⟩
def fill1 (B:ByteArray) (l:Int) (k:Nat):Out:=if l=-2 then ⟨6,B,l⟩ else if B.data.toList[18 * k+17]? = some 0 then ⟨0,B,l⟩ else wOut B (bA [0]) l (18 * k+17)
def fill2 (B:ByteArray) (l:Int) (k n:Nat) (s:St):Out:=if (fill1 B l k).c=0 then wOut (fill1 B l k).b (bA (bodyL n s)) (fill1 B l k).l (18 * k) else fill1 B l k
def fill3 (B:ByteArray) (l:Int) (k n:Nat) (s:St):Out:=if (fill2 B l k n s).c=0 then wOut (fill2 B l k n s).b (bA [165]) (fill2 B l k n s).l (18 * k+17) else fill2 B l k n s
theorem read17 (A:Nat→Addr) (w0 w:World) (j p q:Nat) (E:Nat→Nat×St) (over:Bool) (B:ByteArray) (l:Int) (k:Nat) (z:Int) (x:UInt8) (h:JP w0 w j p q E over B l) (hE:HeldE w0 A) (hk:k<12) (hl:¬ l=-2) (hz:z=((18 * k+17:Nat):Int)) (hx:B.data.toList[18 * k+17]? = some x) :
  Calls Tryz.prog 135 #[.pointer (some ⟨p,0,none⟩),.int .i64 z,.int .i64 1] w fun e w'=>e=.returned (.tuple #[.string (bA [x]),.nilIface])∧w'=w:=by
 subst hz
 have e:B.extract (18 * k+17) (18 * k+17+1)=bA [x]:=by
  apply ba_ext
  rw [ext_list,bA_list]
  obtain ⟨h1,h2⟩:=List.getElem?_eq_some_iff.1 hx
  rw [List.drop_eq_getElem_cons h1,h2]
  simp
 have:=pread_ok A p q B l (18 * k+17) 1 w h.pl (h.held hE) h.sz hl (by have:=h.s6; omega)
 rw [e] at this
 exact this
theorem read17_off (A:Nat→Addr) (w0 w:World) (j p q:Nat) (E:Nat→Nat×St) (over:Bool) (B:ByteArray) (k:Nat) (z:Int) (h:JP w0 w j p q E over B (-2)) (hE:HeldE w0 A) (hk:k<12) (hz:z=((18 * k+17:Nat):Int)) :
  Calls Tryz.prog 135 #[.pointer (some ⟨p,0,none⟩),.int .i64 z,.int .i64 1] w fun e w'=>e=.returned (.tuple #[.string ⟨#[]⟩,.iface 276 (.pointer (some (A 5)))])∧w'=w:=by
 subst hz
 exact pread_off A p q B _ 1 w h.pl (h.held hE) h.sz (by have:=h.s6; omega)
theorem write_ok (A:Nat→Addr) (w0 w:World) (j p q:Nat) (E:Nat→Nat×St) (over:Bool) (B s:ByteArray) (l a:Int) (h:JP w0 w j p q E over B l) (hE:HeldE w0 A) (hs:s.size≤1000) (hc:wC B s l a=0) :
  Calls Tryz.prog 210 #[.pointer (some ⟨p,0,none⟩),.int .i64 a,.string s] w fun e w'=>e=.returned .nilIface∧JP w0 w' j p q E over (wB B s l a) (wL B s l a)∧Kept (In2 p q) w w':=write_jp A w0 w j p q E over B s l a h hE hs 0 hc
theorem write_no (A:Nat→Addr) (w0 w:World) (j p q:Nat) (E:Nat→Nat×St) (over:Bool) (B s:ByteArray) (l a:Int) (h:JP w0 w j p q E over B l) (hE:HeldE w0 A) (hs:s.size≤1000) (c:Nat) (hc:wC B s l a=c+1) :
  Calls Tryz.prog 210 #[.pointer (some ⟨p,0,none⟩),.int .i64 a,.string s] w fun e w'=>e=.returned (.iface 276 (.pointer (some (A c))))∧JP w0 w' j p q E over (wB B s l a) (wL B s l a)∧Kept (In2 p q) w w':=write_jp A w0 w j p q E over B s l a h hE hs (c+1) hc
theorem ext17 (n:Nat) (s:St):(bA (bodyL n s ++ [165])).extract 0 17=bA (bodyL n s):=by
 apply ba_ext
 rw [ext_list,bA_list,bA_list,List.drop_zero,Nat.sub_zero]
 exact take_app (bodyL_length n s)
theorem ext18 (n:Nat) (s:St):(bA (bodyL n s ++ [165])).extract 17 (bA (bodyL n s ++ [165])).size=bA [165]:=by
 apply ba_ext
 rw [ext_list,bA_list,bA_list,drop_app (bodyL_length n s),bA_size,List.length_append,bodyL_length]
 rfl
theorem fill_any (A:Nat→Addr) (w0 w:World) (j p q:Nat) (E:Nat→Nat×St) (over:Bool) (B:ByteArray) (l:Int) (k n:Nat) (s:St) (h:JP w0 w j p q E over B l) (hE:HeldE w0 A) (hk:k<12) :
  Calls Tryz.prog 198 #[.pointer (some ⟨j,0,none⟩),.int .i64 ((18 * k:Nat):Int),.string (bA (bodyL n s ++ [165]))] w fun e w'=>e=.returned (ev A (fill3 B l k n s).c)∧JP w0 w' j p q E over (fill3 B l k n s).b (fill3 B l k n s).l∧Kept (In2 p q) w w':=by
 have H:=hid h
 have HE:=hid hE
 have cj:=h.jr.plate
 obtain ⟨a,Ha⟩:∃ a,Hid (18 * k=a):=⟨_,rfl⟩
 have ha:a≤216:=by rw [← Ha.out]; omega
 have hwr:IntKind.i64.wrap ((a:Int)+17)=(a:Int)+17:=by rw [IntKind.wrap_i64]; omega
 have hz:Hid ((a:Int)+17=((18 * k+17:Nat):Int)):=by unfold Hid; rw [← Ha.out]; omega
 have hs1:=slice_high (bA (bodyL n s ++ [165])) 17 17 rfl (by rw [bA_size,List.length_append,bodyL_length]; decide)
 have hs2:=slice_low (bA (bodyL n s ++ [165])) 17 17 rfl (by rw [bA_size,List.length_append,bodyL_length]; decide)
 rw [ext17] at hs1
 rw [ext18] at hs2
 have Z1:Hid ((bA (bodyL n s)).size≤1000):=by unfold Hid; rw [bA_size,bodyL_length]; decide
 rw [Ha.out]
 by_cases hl:l=-2
 ·subst hl
  have F:Hid (fill3 B (-2) k n s=⟨6,B,-2⟩):=by unfold Hid fill3 fill2 fill1; simp
  rw [F.out]
  clear h hE
  go_enter Tryz.func198,Tryz.ntmps198
  go_wp2_with (go_at_call 135; refine (read17_off A w0 _ j p q E over B k _ H.out HE.out hk hz.out).mono ?_; rintro e wx ⟨rfl,hx⟩; subst wx)
  go_ret
  exact ⟨rfl,H.out,Kept.refl _ _⟩
 ·have hlen:18 * k+17<B.data.toList.length:=by rw [← size_list]; have:=h.s6; omega
  obtain ⟨x,hx⟩:∃ x,B.data.toList[18 * k+17]? = some x:=⟨_,List.getElem?_eq_getElem hlen⟩
  have HL:=hid hl
  have HX:=hid hx
  have ix:=idx_str (bA [x]) 0 0 (by rw [bA_size]; exact Nat.one_pos) rfl
  have ix0:((bA [x])[0]'(by rw [bA_size]; exact Nat.one_pos)).toNat=x.toNat:=rfl
  rw [ix0] at ix
  clear ix0 h hE hl hx hlen
  obtain ⟨⟨c1,B1,l1⟩,HF1⟩:∃ o,Hid (fill1 B l k=o):=⟨_,rfl⟩
  obtain ⟨c2,HC2⟩:∃ c,Hid (wC B1 (bA (bodyL n s)) l1 a=c):=⟨_,rfl⟩
  obtain ⟨c3,HC3⟩:∃ c,Hid (wC (wB B1 (bA (bodyL n s)) l1 a) (bA [165]) (wL B1 (bA (bodyL n s)) l1 a) ((a:Int)+17)=c):=⟨_,rfl⟩
  have f1:∀ c,c1=c+1→Hid (fill3 B l k n s=⟨c1,B1,l1⟩):=fun c e=>by
   unfold Hid fill3 fill2
   rw [HF1.out]
   simp [e]
  have f2:∀ c,c1=0→c2=c+1→Hid (fill3 B l k n s=⟨c2,wB B1 (bA (bodyL n s)) l1 a,wL B1 (bA (bodyL n s)) l1 a⟩):=fun c e e2=>by
   unfold Hid fill3 fill2
   rw [HF1.out,if_pos e]
   unfold wOut
   rw [Ha.out,HC2.out,if_neg (by simp [e2])]
  have f3:c1=0→c2=0→Hid (fill3 B l k n s=⟨c3,wB (wB B1 (bA (bodyL n s)) l1 a) (bA [165]) (wL B1 (bA (bodyL n s)) l1 a) ((a:Int)+17),wL (wB B1 (bA (bodyL n s)) l1 a) (bA [165]) (wL B1 (bA (bodyL n s)) l1 a) ((a:Int)+17)⟩):=fun e e2=>by
   unfold Hid fill3 fill2
   rw [HF1.out,if_pos e]
   unfold wOut
   rw [Ha.out,HC2.out,if_pos e2,show ((a+17:Nat):Int)=(a:Int)+17 by omega,HC3.out]
  obtain ⟨O,HO⟩:∃ o,Hid (fill3 B l k n s=o):=⟨_,rfl⟩
  rw [HO.out]
  rw [HO.out] at f1 f2 f3
  have Z2:Hid ((bA [165]).size≤1000):=by unfold Hid; rw [bA_size]; decide
  have Z0:Hid ((bA [0]).size≤1000):=by unfold Hid; rw [bA_size]; decide
  go_enter Tryz.func198,Tryz.ntmps198
  go_upto_if 26 with (go_at_call 135; refine (read17 A w0 _ j p q E over B l k _ x H.out HE.out hk HL.out hz.out HX.out).mono ?_; rintro e wx ⟨rfl,hx⟩; subst wx)
  go_cut [] from 7 (fun wx=>c1=0∧JP w0 wx j p q E over B1 l1∧Kept (In2 p q) w wx)
  case first =>
   by_cases hx0:x=0
   ·subst hx0
    have e1:fill1 B l k=⟨0,B,l⟩:=by unfold fill1; rw [if_neg HL.out,if_pos HX.out]
    rw [HF1.out] at e1
    injection e1 with e1 e2 e3
    subst e1 e2 e3
    go_wp2_with fail
    go_meet
    exact ⟨by first|trivial|rfl,H.out,Kept.refl _ _⟩
   ·have hx1:¬ x.toNat=0:=fun g=>hx0 (UInt8.toNat_inj.1 g)
    have e1:fill1 B l k=wOut B (bA [0]) l (18 * k+17):=by unfold fill1; rw [if_neg HL.out,if_neg (fun g=>hx0 (by rw [HX.out] at g; exact Option.some.inj g))]
    rw [HF1.out] at e1
    unfold wOut at e1
    rw [Ha.out] at e1
    injection e1 with e1 e2 e3
    have E1:=hid e1.symm
    subst e2 e3
    clear e1 f2 f3 HC2 HC3 HF1
    rcases c1 with _|c
    ·go_wp2_with (go_at_call 210; refine (write_ok A w0 _ j p q E over B (bA [0]) l _ H.out HE.out Z0.out E1.out).mono ?_; rintro e w2 ⟨rfl,h2,k2⟩; have K2:=hid k2; clear k2; have H2:=hid h2; clear h2)
     go_meet
     exact ⟨by first|trivial|rfl,H2.out,K2.out⟩
    ·have F:=f1 c rfl
     go_wp2_with (go_at_call 210; refine (write_no A w0 _ j p q E over B (bA [0]) l _ H.out HE.out Z0.out c E1.out).mono ?_; rintro e w2 ⟨rfl,h2,k2⟩; have K2:=hid k2; clear k2; have H2:=hid h2; clear h2)
     go_ret
     exact ⟨by rw [F.out]; rfl,by rw [F.out]; exact H2.out,K2.out⟩
  case rest =>
   obtain ⟨hc1,hj,hk0⟩:=hcut
   have HK:=hid hk0
   have HJ:=hid hj
   have HC1:=hid hc1
   have cjc:=hj.jr.plate
   clear hc1 hj hk0 cj H
   rcases c2 with _|c
   ·have F:=f3 HC1.out rfl
    clear f1 f2 f3
    go_wp2_with fail
    go_region_held3 (fun w'=>w'.cell? ⟨j,0,none⟩=some (.pointer (some ⟨p,0,none⟩))) (go_keep) (first|(go_at_call 210; (with_reducible refine (write_ok A w0 _ j p q E over B1 (bA (bodyL n s)) l1 a HJ.out.drew HE.out Z1.out HC2.out).mono ?_); rintro e w2 ⟨rfl,h2,k2⟩; have K2:=hid k2; clear k2; have cj2:=h2.jr.plate; have H2:=hid h2; clear h2))
    all_goals go_wp2_with fail
    go_region_held3 (fun w'=>w'.cell? ⟨j,0,none⟩=some (.pointer (some ⟨p,0,none⟩))) (go_keep) (first|(go_at_call 210; (with_reducible refine (write_jp A w0 _ j p q E over _ (bA [165]) _ _ H2.out.drew HE.out Z2.out c3 HC3.out).mono ?_); rintro e w3 ⟨rfl,h3,k3⟩; have K3:=hid k3; clear k3; have cj3:=h3.jr.plate; have H3:=hid h3; clear h3))
    all_goals go_wp2_with fail
    go_ret
    exact ⟨by rw [F.out]; rfl,by rw [F.out]; exact H3.out,(HK.out.drew.trans K2.out).drew.trans K3.out⟩
   ·have F:=f2 c HC1.out rfl
    clear f1 f2 f3
    go_wp2_with fail
    go_region_held3 (fun w'=>w'.cell? ⟨j,0,none⟩=some (.pointer (some ⟨p,0,none⟩))) (go_keep) (first|(go_at_call 210; (with_reducible refine (write_no A w0 _ j p q E over B1 (bA (bodyL n s)) l1 a HJ.out.drew HE.out Z1.out c HC2.out).mono ?_); rintro e w2 ⟨rfl,h2,k2⟩; have K2:=hid k2; clear k2; have cj2:=h2.jr.plate; have H2:=hid h2; clear h2))
    all_goals go_wp2_with fail
    go_ret
    exact ⟨by rw [F.out]; rfl,by rw [F.out]; exact H2.out,HK.out.drew.trans K2.out⟩
structure POut where
 c:Nat
 e:Nat→Nat×St
 over:Bool
 b:ByteArray
 l:Int
def putIn (E:Nat→Nat×St) (B:ByteArray) (l:Int) (d:Nat) (s:St):POut :=
 @ite POut ((E d).2=s) (stEq (E d).2 s) ⟨0,E,false,B,l⟩ <| if (E d).1=4294967295 then ⟨5,E,false,B,l⟩
 else if (fill3 B l (nextK d (E d).1) ((E d).1+1) s).c=0 then ⟨0,updE E d ((E d).1+1,s),false,(fill3 B l (nextK d (E d).1) ((E d).1+1) s).b,(fill3 B l (nextK d (E d).1) ((E d).1+1) s).l⟩
 else ⟨(fill3 B l (nextK d (E d).1) ((E d).1+1) s).c,E,true,(fill3 B l (nextK d (E d).1) ((E d).1+1) s).b,(fill3 B l (nextK d (E d).1) ((E d).1+1) s).l⟩
def In3 (j p q k:Nat):Prop:=k=j ∨ k=p ∨ k=q
theorem place_z (d n r:Nat) (z:Int) (w:World) (hz:z=(n:Int)) (hd:d≤100) (hn:n<4294967296) (hr:18 * (2 * d+n % 2)=r) :
  Calls Tryz.prog 136 #[.int .i64 (d:Int),.int .u32 z] w fun e w'=>e=.returned (.int .i64 (r:Int))∧w'=w:=by
 subst hz; exact place_is d n r w hd hn hr
theorem slot_z (n ph p a:Nat) (z:Int) (w:World) (hz:z=(n:Int)) (hn:n<4294967296) (h1:ph<256) (h2:p<4294967296) (h3:a<4294967296) :
  Calls Tryz.prog 188 #[.agg #[.int .i64 (ph:Int),.int .i64 (p:Int),.int .i64 (a:Int),.int .u32 z]] w fun e w'=>e=.returned (.string (bA (bodyL n ⟨ph,p,a⟩ ++ [165])))∧Below w.heap.size w w':=by
 subst hz; exact slot_ag n ph p a w hn h1 h2 h3
section
variable (A:Nat→Addr) (w0 w:World) (j p q:Nat) (E:Nat→Nat×St) (B:ByteArray) (l:Int)
theorem fill_ok (over:Bool) (k n r:Nat) (s:St) (h:JP w0 w j p q E over B l) (hE:HeldE w0 A) (hk:k<12) (hr:18 * k=r) (hc:(fill3 B l k n s).c=0) :
  Calls Tryz.prog 198 #[.pointer (some ⟨j,0,none⟩),.int .i64 (r:Int),.string (bA (bodyL n s ++ [165]))] w fun e w'=>e=.returned .nilIface∧JP w0 w' j p q E over (fill3 B l k n s).b (fill3 B l k n s).l∧Kept (In2 p q) w w':=by
 have:=fill_any A w0 w j p q E over B l k n s h hE hk
 rw [hc,hr] at this
 exact this
theorem fill_no (over:Bool) (k n r:Nat) (s:St) (c:Nat) (h:JP w0 w j p q E over B l) (hE:HeldE w0 A) (hk:k<12) (hr:18 * k=r) (hc:(fill3 B l k n s).c=c+1) :
  Calls Tryz.prog 198 #[.pointer (some ⟨j,0,none⟩),.int .i64 (r:Int),.string (bA (bodyL n s ++ [165]))] w fun e w'=>e=.returned (.iface 276 (.pointer (some (A c))))∧JP w0 w' j p q E over (fill3 B l k n s).b (fill3 B l k n s).l∧Kept (In2 p q) w w':=by
 have:=fill_any A w0 w j p q E over B l k n s h hE hk
 rw [hc,hr] at this
 exact this
theorem put_over (d ph pr a:Int) (h:JP w0 w j p q E true B l) (hE:HeldE w0 A) :
  Calls Tryz.prog 176 #[.pointer (some ⟨j,0,none⟩),.int .i64 d,.agg #[.int .i64 ph,.int .i64 pr,.int .i64 a]] w fun e w'=>e=.returned (.iface 276 (.pointer (some (A 5))))∧JP w0 w' j p q E true B l∧Kept (In3 j p q) w w':=by
 have c:=h.jr.over
 have hj:=h.jr.lt
 have g5:=(h.held hE).g5
 have g5b:=cell_allocJ (o:=.cells #[.int .i64 ph,.int .i64 pr,.int .i64 a] 43) g5
 have HJ:=hid (h.later ((Below.refl _ _).alloc (Nat.le_refl _) (.cells #[.int .i64 ph,.int .i64 pr,.int .i64 a] 43)))
 clear h hE
 go_enter Tryz.func176,Tryz.ntmps176
 go_wp2_with fail
 go_ret
 exact ⟨rfl,HJ.out,kept_alloc _ _ _⟩
theorem put_bound (d ph pr a:Int) (h:JP w0 w j p q E false B l) (hE:HeldE w0 A) (hb:¬ ((0≤d∧d<6)∧fitsB ph pr a=true)) :
  Calls Tryz.prog 176 #[.pointer (some ⟨j,0,none⟩),.int .i64 d,.agg #[.int .i64 ph,.int .i64 pr,.int .i64 a]] w fun e w'=>e=.returned (.iface 276 (.pointer (some (A 1))))∧JP w0 w' j p q E false B l∧Kept (In3 j p q) w w':=by
 have c:=h.jr.over
 have hj:=h.jr.lt
 have g1:=(h.held hE).g1
 have g1b:=cell_allocJ (o:=.cells #[.int .i64 ph,.int .i64 pr,.int .i64 a] 43) g1
 have HJ:=hid (h.later ((Below.refl _ _).alloc (Nat.le_refl _) (.cells #[.int .i64 ph,.int .i64 pr,.int .i64 a] 43)))
 have HE:=hid hE
 clear h hE
 by_cases hd:0≤d∧d<6
 ·have hf:fitsB ph pr a=false:=by
   cases hx:fitsB ph pr a
   ·rfl
   ·exact absurd ⟨hd,hx⟩ hb
  have HK:=hid (decide_eq_true hd)
  have HF:=hid hf
  clear hb hf hd
  go_enter Tryz.func176,Tryz.ntmps176
  go_wp2_with (first|(go_at_call 138; refine (known_any d _).mono ?_; rw [HK.out]; rintro e wx ⟨rfl,hx⟩; subst wx)|(go_at_call 197; refine (fits_any ph pr a _).mono ?_; rw [HF.out]; rintro e w1 ⟨rfl,hb1⟩; have HJ1:=hid (HJ.out.later hb1); have K1:=hid ((kept_alloc (In3 j p q) w _).trans (Kept.of_below hb1)); have g1c:=(HJ1.out.held HE.out).g1; clear hb1))
  go_ret
  exact ⟨rfl,HJ1.out,K1.out⟩
 ·have HK:=hid (decide_eq_false hd)
  clear hb hd
  go_enter Tryz.func176,Tryz.ntmps176
  go_wp2_with (go_at_call 138; refine (known_any d _).mono ?_; rw [HK.out]; rintro e wx ⟨rfl,hx⟩; subst wx)
  go_ret
  exact ⟨rfl,HJ.out,kept_alloc _ _ _⟩
theorem put_in (d:Nat) (s:St) (h:JP w0 w j p q E false B l) (hE:HeldE w0 A) (hd:d<6) (hf:fitsB s.ph s.pr s.at_=true) (hn:(E d).1<4294967296) :
  Calls Tryz.prog 176 #[.pointer (some ⟨j,0,none⟩),.int .i64 (d:Int),.agg #[.int .i64 (s.ph:Int),.int .i64 (s.pr:Int),.int .i64 (s.at_:Int)]] w fun e w'=>e=.returned (ev A (putIn E B l d s).c)∧JP w0 w' j p q (putIn E B l d s).e (putIn E B l d s).over (putIn E B l d s).b (putIn E B l d s).l∧Kept (In3 j p q) w w':=by
 have HK:Hid (decide (0≤(d:Int)∧(d:Int)<6)=true):=decide_eq_true ⟨by omega,by omega⟩
 have HF:=hid hf
 have HE:=hid hE
 obtain ⟨O,HO⟩:∃ o,Hid (putIn E B l d s=o):=⟨_,rfl⟩
 rw [HO.out]
 obtain ⟨ph,pr,a⟩:=s
 obtain ⟨W,HW⟩:∃ W,Hid (w.alloc (.cells #[.int .i64 (ph:Int),.int .i64 (pr:Int),.int .i64 (a:Int)] 43)=W):=⟨_,rfl⟩
 have hW:=HW.out
 have HJ:Hid (JP w0 W j p q E false B l):=by rw [← HW.out]; exact h.later ((Below.refl _ _).alloc (Nat.le_refl _) _)
 have RW:Hid (W.heap[w.heap.size]? = some (.cells #[.int .i64 (ph:Int),.int .i64 (pr:Int),.int .i64 (a:Int)] 43 (0,0))):=by rw [← HW.out]; exact heap_alloc_new w _
 have cW:=HJ.out.jr.over
 have b0:W.cell? ⟨w.heap.size,0,none⟩=some (.int .i64 (ph:Int)):=by rw [cell_of_row _ _ _ _ _ _ RW.out]; rfl
 have b1:W.cell? ⟨w.heap.size,1,none⟩=some (.int .i64 (pr:Int)):=by rw [cell_of_row _ _ _ _ _ _ RW.out]; rfl
 have b2:W.cell? ⟨w.heap.size,2,none⟩=some (.int .i64 (a:Int)):=by rw [cell_of_row _ _ _ _ _ _ RW.out]; rfl
 have hsW:w.heap.size<W.heap.size:=row_ltJ RW.out
 clear h hE hf
 go_enter Tryz.func176,Tryz.ntmps176
 go_wp2_with (go_at_call 138; refine (known_any d _).mono ?_; rw [HK.out]; rintro e wx ⟨rfl,hx⟩; subst wx)
 refine (fits_any ph pr a _).mono ?_
 rw [HF.out]
 rintro e w1 ⟨rfl,hb1⟩
 have HJ1:=hid (HJ.out.later hb1)
 have K1:Hid (Kept (In3 j p q) w w1):=by
  have k0:Kept (In3 j p q) w W:=by rw [← HW.out]; exact kept_alloc _ _ _
  exact k0.trans (Kept.of_below hb1)
 have R1:=hid ((hb1.block _ hsW).trans RW.out)
 have hs1:w.heap.size<w1.heap.size:=row_ltJ R1.out
 clear hb1
 obtain ⟨⟨n,ph',pr',a'⟩,HEd⟩:∃ x,Hid (E d=x):=⟨_,rfl⟩
 have hj1:=HJ1.out.jr.lt
 obtain ⟨c0,c1,c2,c3⟩:=HJ1.out.jr.ent hd
 rw [HEd.out] at c0 c1 c2 c3 hn
 obtain ⟨X1,HX1⟩:∃ X,Hid (w1.alloc (.cells #[.int .i64 (ph':Int),.int .i64 (pr':Int),.int .i64 (a':Int),.int .u32 (n:Int)] 134)=X):=⟨_,rfl⟩
 have hX1:=HX1.out
 have HJX:Hid (JP w0 X1 j p q E false B l):=by rw [← HX1.out]; exact HJ1.out.later ((Below.refl _ _).alloc (Nat.le_refl _) _)
 have KX:Hid (Kept (In3 j p q) w X1):=by rw [← HX1.out]; exact K1.out.trans (kept_alloc _ _ _)
 have RX:Hid (X1.heap[w1.heap.size]? = some (.cells #[.int .i64 (ph':Int),.int .i64 (pr':Int),.int .i64 (a':Int),.int .u32 (n:Int)] 134 (0,0))):=by rw [← HX1.out]; exact heap_alloc_new w1 _
 have RB:Hid (X1.heap[w.heap.size]? = some (.cells #[.int .i64 (ph:Int),.int .i64 (pr:Int),.int .i64 (a:Int)] 43 (0,0))):=by rw [← HX1.out]; exact (Below.heap_alloc w1 _ _ hs1).trans R1.out
 have d0:X1.cell? ⟨w.heap.size,0,none⟩=some (.int .i64 (ph:Int)):=by rw [cell_of_row _ _ _ _ _ _ RB.out]; rfl
 have d1:X1.cell? ⟨w.heap.size,1,none⟩=some (.int .i64 (pr:Int)):=by rw [cell_of_row _ _ _ _ _ _ RB.out]; rfl
 have d2:X1.cell? ⟨w.heap.size,2,none⟩=some (.int .i64 (a:Int)):=by rw [cell_of_row _ _ _ _ _ _ RB.out]; rfl
 have o0:X1.cell? ⟨w1.heap.size,0,none⟩=some (.int .i64 (ph':Int)):=by rw [cell_of_row _ _ _ _ _ _ RX.out]; rfl
 have o1:X1.cell? ⟨w1.heap.size,1,none⟩=some (.int .i64 (pr':Int)):=by rw [cell_of_row _ _ _ _ _ _ RX.out]; rfl
 have o2:X1.cell? ⟨w1.heap.size,2,none⟩=some (.int .i64 (a':Int)):=by rw [cell_of_row _ _ _ _ _ _ RX.out]; rfl
 have o3:X1.cell? ⟨w1.heap.size,3,none⟩=some (.int .u32 (n:Int)):=by rw [cell_of_row _ _ _ _ _ _ RX.out]; rfl
 obtain ⟨eqb,HQ⟩:∃ b:Bool,Hid (stSame ⟨ph',pr',a'⟩ ⟨ph,pr,a⟩=b):=⟨_,hid (Eq.refl _)⟩
 go_upto_region 6 with fail
 go_cut [33] from 10 (fun s33 wx=>s33=.bool eqb∧X1=wx)
 case first =>
  go_wp2_with fail
  all_goals go_meet
  all_goals refine ⟨congrArg Value.bool ?_,rfl⟩
  all_goals rw [← HQ.out]
  all_goals show _=decide (ph'=ph∧pr'=pr∧a'=a)
  all_goals first|(refine (decide_eq_true ?_).symm; omega)|(refine (decide_eq_false ?_).symm; omega)
 case rest =>
  obtain ⟨rfl,rfl⟩:=hcut
  cases eqb with
  | true =>
   have e:(⟨ph',pr',a'⟩:St)=⟨ph,pr,a⟩:=stSame_true HQ.out
   have F:Hid (O=⟨0,E,false,B,l⟩):=by rw [← HO.out]; unfold Hid putIn; rw [HEd.out,if_pos e]
   go_wp2_with fail
   go_ret
   exact ⟨by rw [F.out]; rfl,by rw [F.out]; exact HJX.out,KX.out⟩
  | false =>
   have ne:¬ (⟨ph',pr',a'⟩:St)=⟨ph,pr,a⟩:=stSame_false HQ.out
   have hjc:=HJX.out.jr.lt
   by_cases hmax:n=4294967295
   ·have F:Hid (O=⟨5,E,false,B,l⟩):=by rw [← HO.out]; unfold Hid putIn; rw [HEd.out,if_neg ne,if_pos hmax]
    have g4:=(HJX.out.held HE.out).g4
    subst hmax
    go_wp2_with fail
    go_ret
    exact ⟨by rw [F.out]; rfl,by rw [F.out]; exact HJX.out,KX.out⟩
   ·obtain ⟨kk,HKK⟩:∃ k,Hid (nextK d n=k):=⟨_,rfl⟩
    obtain ⟨r,HR⟩:∃ r,Hid (18 * kk=r):=⟨_,rfl⟩
    have HRp:Hid (18 * (2 * d+(n+1) % 2)=r):=by rw [← HR.out,← HKK.out]; rfl
    have hk12:Hid (kk<12):=by rw [← HKK.out]; unfold Hid nextK; omega
    have hf:=of_decide_eq_true HF.out
    have L1:Hid (ph<256):=by unfold Hid; omega
    have L2:Hid (pr<4294967296):=by unfold Hid; omega
    have L3:Hid (a<4294967296):=by unfold Hid; omega
    have hn1:n+1<4294967296:=by omega
    have HN1:Hid (((n:Int)+1)=((n+1:Nat):Int)):=by unfold Hid; omega
    clear hf
    obtain ⟨Y,HY⟩:∃ Y,Hid (X1.alloc (.cells #[.int .i64 (ph:Int),.int .i64 (pr:Int),.int .i64 (a:Int),.int .u32 ((n:Int)+1)] 134)=Y):=⟨_,rfl⟩
    have hY:=HY.out
    have HJY:Hid (JP w0 Y j p q E false B l):=by rw [← HY.out]; exact HJX.out.later ((Below.refl _ _).alloc (Nat.le_refl _) _)
    have KY:Hid (Kept (In3 j p q) w Y):=by rw [← HY.out]; exact KX.out.trans (kept_alloc _ _ _)
    have RY:Hid (Y.heap[X1.heap.size]? = some (.cells #[.int .i64 (ph:Int),.int .i64 (pr:Int),.int .i64 (a:Int),.int .u32 ((n:Int)+1)] 134 (0,0))):=by rw [← HY.out]; exact heap_alloc_new X1 _
    have hep:Hid (X1.heap.size≠p∧X1.heap.size≠q∧X1.heap.size≠j):=⟨by have:=row_lt HJX.out.pl.head; omega,by have:=row_lt HJX.out.pl.row; omega,by omega⟩
    have y0:Y.cell? ⟨X1.heap.size,0,none⟩=some (.int .i64 (ph:Int)):=by rw [cell_of_row _ _ _ _ _ _ RY.out]; rfl
    have y1:Y.cell? ⟨X1.heap.size,1,none⟩=some (.int .i64 (pr:Int)):=by rw [cell_of_row _ _ _ _ _ _ RY.out]; rfl
    have y2:Y.cell? ⟨X1.heap.size,2,none⟩=some (.int .i64 (a:Int)):=by rw [cell_of_row _ _ _ _ _ _ RY.out]; rfl
    have y3:Y.cell? ⟨X1.heap.size,3,none⟩=some (.int .u32 ((n:Int)+1)):=by rw [cell_of_row _ _ _ _ _ _ RY.out]; rfl
    have hsY:X1.heap.size<Y.heap.size:=row_ltJ RY.out
    rcases hc:(fill3 B l kk (n+1) ⟨ph,pr,a⟩).c with _|c
    ·have HC:=hid hc
     have F:Hid (O=⟨0,updE E d (n+1,⟨ph,pr,a⟩),false,(fill3 B l kk (n+1) ⟨ph,pr,a⟩).b,(fill3 B l kk (n+1) ⟨ph,pr,a⟩).l⟩):=by
      rw [← HO.out]; unfold Hid putIn; rw [HEd.out,if_neg ne,if_neg hmax]; simp only []; rw [HKK.out,if_pos hc]
     clear hc
     go_upto_region 11 with fail
     go_cut [9] from 10 (fun s9 wx=>s9=.nilIface∧JP w0 wx j p q E false (fill3 B l kk (n+1) ⟨ph,pr,a⟩).b (fill3 B l kk (n+1) ⟨ph,pr,a⟩).l∧wx.heap[X1.heap.size]? = some (.cells #[.int .i64 (ph:Int),.int .i64 (pr:Int),.int .i64 (a:Int),.int .u32 ((n:Int)+1)] 134 (0,0))∧Kept (In3 j p q) w wx)
     case first =>
      go_region_held3 (fun w'=>w'.cell? ⟨X1.heap.size,0,none⟩=some (.int .i64 (ph:Int))∧w'.cell? ⟨X1.heap.size,1,none⟩=some (.int .i64 (pr:Int))∧w'.cell? ⟨X1.heap.size,2,none⟩=some (.int .i64 (a:Int))∧w'.cell? ⟨X1.heap.size,3,none⟩=some (.int .u32 ((n:Int)+1))) (go_keep) (first|(go_at_call 136; (with_reducible refine (place_z d (n+1) r _ _ HN1.out (by omega) hn1 HRp.out).mono ?_); rintro e wx ⟨rfl,hx⟩; subst wx)|(go_at_call 188; (with_reducible refine (slot_z (n+1) ph pr a _ _ HN1.out hn1 L1.out L2.out L3.out).mono ?_); rintro e w2 ⟨rfl,hb2⟩; have HJ2:=hid (HJY.out.drew.later hb2); have K2:=hid (KY.out.drew.trans (Kept.of_below hb2)); have R2:=hid ((hb2.block _ hsY).trans RY.out); have z0:=(hb2.cell (p:=⟨X1.heap.size,0,none⟩) hsY).trans y0; have z1:=(hb2.cell (p:=⟨X1.heap.size,1,none⟩) hsY).trans y1; have z2:=(hb2.cell (p:=⟨X1.heap.size,2,none⟩) hsY).trans y2; have z3:=(hb2.cell (p:=⟨X1.heap.size,3,none⟩) hsY).trans y3; clear hb2)|(go_at_call 198; (with_reducible refine (fill_ok A w0 _ j p q E B l false kk (n+1) r ⟨ph,pr,a⟩ HJ2.out HE.out hk12.out HR.out HC.out).mono ?_); rintro e w3 ⟨rfl,h3,k3⟩; have HJ3:=hid h3; have K3:=hid (K2.out.trans (k3.mono (fun k g=>Or.inr g))); have R3:=hid (k3.row R2.out (fun g=>g.elim hep.out.1 hep.out.2.1)); have t0:w3.cell? ⟨X1.heap.size,0,none⟩=some (.int .i64 (ph:Int)):=(cell_of_row _ _ _ _ _ _ R3.out).trans rfl; have t1:w3.cell? ⟨X1.heap.size,1,none⟩=some (.int .i64 (pr:Int)):=(cell_of_row _ _ _ _ _ _ R3.out).trans rfl; have t2:w3.cell? ⟨X1.heap.size,2,none⟩=some (.int .i64 (a:Int)):=(cell_of_row _ _ _ _ _ _ R3.out).trans rfl; have t3:w3.cell? ⟨X1.heap.size,3,none⟩=some (.int .u32 ((n:Int)+1)):=(cell_of_row _ _ _ _ _ _ R3.out).trans rfl; clear h3 k3))
      all_goals go_step
      all_goals go_step
      all_goals go_meet
      all_goals exact ⟨rfl,HJ3.out,R3.out,K3.out⟩
     case rest =>
      obtain ⟨rfl,h3,r3,k3⟩:=hcut
      have K3:=hid k3
      have HJ3:=hid h3
      have R3:=hid r3
      obtain ⟨c0,c1,c2,c3⟩:=h3.jr.ent hd
      have f0:=h3.jr.fz (1+d * 4)
      have f1:=h3.jr.fz (1+d * 4+1)
      have f2:=h3.jr.fz (1+d * 4+2)
      have f3:=h3.jr.fz (1+d * 4+3)
      have t0:wc.cell? ⟨X1.heap.size,0,none⟩=some (.int .i64 (ph:Int)):=by rw [cell_of_row _ _ _ _ _ _ R3.out]; rfl
      have t1:wc.cell? ⟨X1.heap.size,1,none⟩=some (.int .i64 (pr:Int)):=by rw [cell_of_row _ _ _ _ _ _ R3.out]; rfl
      have t2:wc.cell? ⟨X1.heap.size,2,none⟩=some (.int .i64 (a:Int)):=by rw [cell_of_row _ _ _ _ _ _ R3.out]; rfl
      have t3:wc.cell? ⟨X1.heap.size,3,none⟩=some (.int .u32 ((n:Int)+1)):=by rw [cell_of_row _ _ _ _ _ _ R3.out]; rfl
      have hne:=hep.out.2.2
      clear h3 r3 k3
      go_wp2_with fail
      go_region
      all_goals go_wp2_with fail
      go_ret
      exact ⟨by rw [F.out]; rfl,by rw [F.out]; exact (HJ3.out.own (((((Kept.refl _ wc).set1 _ _).set1 _ _).set1 _ _).set1 _ _) (HJ3.out.jr.set hd (n+1,⟨ph,pr,a⟩))).drew,((((K3.out.setCell (.inl rfl) _).setCell (.inl rfl) _).setCell (.inl rfl) _).setCell (.inl rfl) _).drew⟩
    ·have HC:=hid hc
     have F:Hid (O=⟨c+1,E,true,(fill3 B l kk (n+1) ⟨ph,pr,a⟩).b,(fill3 B l kk (n+1) ⟨ph,pr,a⟩).l⟩):=by
      rw [← HO.out]; unfold Hid putIn; rw [HEd.out,if_neg ne,if_neg hmax]; simp only []; rw [HKK.out,if_neg (by omega),hc]
     clear hc
     go_upto_region 11 with fail
     go_cut [9] from 10 (fun s9 wx=>s9=.iface 276 (.pointer (some (A c)))∧JP w0 wx j p q E false (fill3 B l kk (n+1) ⟨ph,pr,a⟩).b (fill3 B l kk (n+1) ⟨ph,pr,a⟩).l∧wx.heap[X1.heap.size]? = some (.cells #[.int .i64 (ph:Int),.int .i64 (pr:Int),.int .i64 (a:Int),.int .u32 ((n:Int)+1)] 134 (0,0))∧Kept (In3 j p q) w wx)
     case first =>
      go_region_held3 (fun w'=>w'.cell? ⟨X1.heap.size,0,none⟩=some (.int .i64 (ph:Int))∧w'.cell? ⟨X1.heap.size,1,none⟩=some (.int .i64 (pr:Int))∧w'.cell? ⟨X1.heap.size,2,none⟩=some (.int .i64 (a:Int))∧w'.cell? ⟨X1.heap.size,3,none⟩=some (.int .u32 ((n:Int)+1))) (go_keep) (first|(go_at_call 136; (with_reducible refine (place_z d (n+1) r _ _ HN1.out (by omega) hn1 HRp.out).mono ?_); rintro e wx ⟨rfl,hx⟩; subst wx)|(go_at_call 188; (with_reducible refine (slot_z (n+1) ph pr a _ _ HN1.out hn1 L1.out L2.out L3.out).mono ?_); rintro e w2 ⟨rfl,hb2⟩; have HJ2:=hid (HJY.out.drew.later hb2); have K2:=hid (KY.out.drew.trans (Kept.of_below hb2)); have R2:=hid ((hb2.block _ hsY).trans RY.out); have z0:=(hb2.cell (p:=⟨X1.heap.size,0,none⟩) hsY).trans y0; have z1:=(hb2.cell (p:=⟨X1.heap.size,1,none⟩) hsY).trans y1; have z2:=(hb2.cell (p:=⟨X1.heap.size,2,none⟩) hsY).trans y2; have z3:=(hb2.cell (p:=⟨X1.heap.size,3,none⟩) hsY).trans y3; clear hb2)|(go_at_call 198; (with_reducible refine (fill_no A w0 _ j p q E B l false kk (n+1) r ⟨ph,pr,a⟩ c HJ2.out HE.out hk12.out HR.out HC.out).mono ?_); rintro e w3 ⟨rfl,h3,k3⟩; have HJ3:=hid h3; have K3:=hid (K2.out.trans (k3.mono (fun k g=>Or.inr g))); have R3:=hid (k3.row R2.out (fun g=>g.elim hep.out.1 hep.out.2.1)); have t0:w3.cell? ⟨X1.heap.size,0,none⟩=some (.int .i64 (ph:Int)):=(cell_of_row _ _ _ _ _ _ R3.out).trans rfl; have t1:w3.cell? ⟨X1.heap.size,1,none⟩=some (.int .i64 (pr:Int)):=(cell_of_row _ _ _ _ _ _ R3.out).trans rfl; have t2:w3.cell? ⟨X1.heap.size,2,none⟩=some (.int .i64 (a:Int)):=(cell_of_row _ _ _ _ _ _ R3.out).trans rfl; have t3:w3.cell? ⟨X1.heap.size,3,none⟩=some (.int .u32 ((n:Int)+1)):=(cell_of_row _ _ _ _ _ _ R3.out).trans rfl; clear h3 k3))
      all_goals go_step
      all_goals go_step
      all_goals go_meet
      all_goals exact ⟨rfl,HJ3.out,R3.out,K3.out⟩
     case rest =>
      obtain ⟨rfl,h3,r3,k3⟩:=hcut
      have K3:=hid k3
      have HJ3:=hid h3
      have c25:=h3.jr.over
      have f25:=h3.jr.fz 25
      clear h3 r3 k3
      go_wp2_with fail
      go_ret
      exact ⟨by rw [F.out]; rfl,by rw [F.out]; exact HJ3.out.own ((Kept.refl _ wc).set1 _ _) (HJ3.out.jr.setOver true),K3.out.setCell (.inl rfl) _⟩
end
end Go.Proofs.YtadhpkopkkjmfaaGreatDoor
namespace Go.Proofs.YtadhpkopkkjmfaaGreatDoor
theorem wL_on (B s:ByteArray) (l a:Int) (h:wC B s l a=0):wL B s l a≠-2:=by
 unfold wC at h
 unfold wL
 split at h
 ·cases h
 ·rename_i hb
  rw [if_neg hb]
  split at h
  ·cases h
  ·rename_i hl
   rw [if_neg hl]
   split at h
   ·cases h
   ·rename_i hn
    rw [if_neg hn]
    split <;> omega
theorem wFree (B s:ByteArray) (a:Nat) (h:a+s.size≤B.size):wC B s (-1) a=0∧wL B s (-1) a=-1:=by
 have hb:¬ wBad B s a:=by unfold wBad; omega
 unfold wC wL
 have h1:¬ ((-1:Int)=-2):=by decide
 have h2:¬ (0≤(-1:Int)∧(-1:Int)<s.size):=by omega
 rw [if_neg hb,if_neg hb,if_neg h1,if_neg h1,if_neg h2,if_neg h2,if_pos (by decide)]
 exact ⟨rfl,rfl⟩
section
variable {B:ByteArray} {l:Int} {k n:Nat} {s:St}
theorem fill1_out (hB:18 * (k+1)≤B.size):((fill1 B l k).c=0∧Zeroed B.data.toList k (fill1 B l k).b.data.toList∧(fill1 B l k).l≠-2) ∨ ((fill1 B l k).c=6∧Torn B.data.toList k (fill1 B l k).b.data.toList∧(fill1 B l k).l=-2):=by
 unfold fill1
 by_cases hl:l=-2
 ·rw [if_pos hl]
  exact .inr ⟨rfl,⟨Only.refl _ _,.inl rfl⟩,hl⟩
 ·rw [if_neg hl]
  by_cases hz:B.data.toList[18 * k+17]? = some 0
  ·rw [if_pos hz]
   exact .inl ⟨rfl,zero_skip hz,hl⟩
  ·rw [if_neg hz]
   have hw:=wr_of B (bA [0]) l (18 * k+17) (by rw [bA_size]; simp; omega) (by rw [bA_size]; exact Nat.one_pos)
   rw [bA_list] at hw
   rcases zero_wr (by rw [← size_list]; exact hB) hw with ⟨c,z⟩|⟨c,t⟩
   ·exact .inl ⟨c,z,wL_on _ _ _ _ c⟩
   ·exact .inr ⟨c,t,wL_off _ _ _ _ c⟩
theorem fill1_size:(fill1 B l k).b.size=B.size:=by
 unfold fill1
 repeat' split
 ·rfl
 ·rfl
 ·exact wB_size _ _ _ _
theorem fill2_size:(fill2 B l k n s).b.size=B.size:=by
 unfold fill2
 split
 ·exact (wB_size _ _ _ _).trans fill1_size
 ·exact fill1_size
theorem fill3_size:(fill3 B l k n s).b.size=B.size:=by
 unfold fill3
 split
 ·exact (wB_size _ _ _ _).trans fill2_size
 ·exact fill2_size
theorem fill2_out (hB:18 * (k+1)≤B.size):((fill2 B l k n s).c=0∧Bodied B.data.toList k n s (fill2 B l k n s).b.data.toList∧(fill2 B l k n s).l≠-2) ∨ ((fill2 B l k n s).c=6∧Torn B.data.toList k (fill2 B l k n s).b.data.toList∧(fill2 B l k n s).l=-2):=by
 have hs:=fill1_size (B:=B) (l:=l) (k:=k)
 unfold fill2
 rcases fill1_out (l:=l) hB with ⟨c,z,ho⟩|⟨c,t,ho⟩
 ·rw [if_pos c]
  have hw:=wr_of (fill1 B l k).b (bA (bodyL n s)) (fill1 B l k).l (18 * k) (by rw [bA_size,bodyL_length,hs]; omega) (by rw [bA_size,bodyL_length]; decide)
  rw [bA_list] at hw
  rcases body_wr (by rw [← size_list]; exact hB) z hw with ⟨c2,z2⟩|⟨c2,t2⟩
  ·exact .inl ⟨c2,z2,wL_on _ _ _ _ c2⟩
  ·exact .inr ⟨c2,t2,wL_off _ _ _ _ c2⟩
 ·rw [if_neg (by omega)]
  exact .inr ⟨c,t,ho⟩
theorem fill3_out (hB:18 * (k+1)≤B.size):((fill3 B l k n s).c=0∧Done B.data.toList k n s (fill3 B l k n s).b.data.toList∧(fill3 B l k n s).l≠-2) ∨ ((fill3 B l k n s).c=6∧Torn B.data.toList k (fill3 B l k n s).b.data.toList∧(fill3 B l k n s).l=-2):=by
 have hs:=fill2_size (B:=B) (l:=l) (k:=k) (n:=n) (s:=s)
 unfold fill3
 rcases fill2_out (l:=l) (n:=n) (s:=s) hB with ⟨c,z,ho⟩|⟨c,t,ho⟩
 ·rw [if_pos c]
  have hw:=wr_of (fill2 B l k n s).b (bA [165]) (fill2 B l k n s).l (18 * k+17) (by rw [bA_size,hs]; simp; omega) (by rw [bA_size]; exact Nat.one_pos)
  rw [bA_list] at hw
  rcases last_wr (by rw [← size_list]; exact hB) z hw with ⟨c2,z2⟩|⟨c2,t2⟩
  ·exact .inl ⟨c2,z2,wL_on _ _ _ _ c2⟩
  ·exact .inr ⟨c2,t2,wL_off _ _ _ _ c2⟩
 ·rw [if_neg (by omega)]
  exact .inr ⟨c,t,ho⟩
theorem fill3_free (hB:18 * (k+1)≤B.size):(fill3 B (-1) k n s).c=0∧(fill3 B (-1) k n s).l=-1:=by
 have h1:(fill1 B (-1) k).c=0∧(fill1 B (-1) k).l=-1:=by
  unfold fill1
  rw [if_neg (by decide)]
  split
  ·exact ⟨rfl,rfl⟩
  ·exact wFree _ _ (18 * k+17) (by rw [bA_size]; simp; omega)
 have s1:=fill1_size (B:=B) (l:=-1) (k:=k)
 have h2:(fill2 B (-1) k n s).c=0∧(fill2 B (-1) k n s).l=-1:=by
  unfold fill2
  rw [if_pos h1.1,h1.2]
  exact wFree _ _ (18 * k) (by rw [bA_size,bodyL_length,s1]; omega)
 have s2:=fill2_size (B:=B) (l:=-1) (k:=k) (n:=n) (s:=s)
 unfold fill3
 rw [if_pos h2.1,h2.2]
 exact wFree _ _ (18 * k+17) (by rw [bA_size,s2]; simp; omega)
end
end Go.Proofs.YtadhpkopkkjmfaaGreatDoor
namespace Go.Proofs.YtadhpkopkkjmfaaGreatDoor
open Go.RowKit
theorem fits_of {s:St} (h:fitsB s.ph s.pr s.at_=true):s.fits:=by
 have:=of_decide_eq_true h
 refine ⟨by omega,by omega,by omega⟩
section
variable {B:ByteArray} {l:Int} {d:Nat} {s:St}
theorem nextK_le (hd:d<6) (m:Nat):nextK d m<12:=by unfold nextK; omega
theorem putIn_size (E:Nat→Nat×St):(putIn E B l d s).b.size=B.size:=by
 unfold putIn
 repeat' split
 ·rfl
 ·rfl
 ·exact fill3_size
 ·exact fill3_size
theorem put_out (hB:216≤B.size) (hd:d<6) (hs:s.fits) (hn:(dealL B.data.toList d).1+1<4294967295) (hl:l≠-2) :
  ((putIn (dealL B.data.toList) B l d s).c=0∧(putIn (dealL B.data.toList) B l d s).over=false∧(putIn (dealL B.data.toList) B l d s).e=dealL (putIn (dealL B.data.toList) B l d s).b.data.toList∧(putIn (dealL B.data.toList) B l d s).l≠-2 ∧
   (dealL (putIn (dealL B.data.toList) B l d s).b.data.toList d).2=s∧(∀ e,e≠d→dealL (putIn (dealL B.data.toList) B l d s).b.data.toList e=dealL B.data.toList e)∧(dealL (putIn (dealL B.data.toList) B l d s).b.data.toList d).1≤(dealL B.data.toList d).1+1) ∨
  ((putIn (dealL B.data.toList) B l d s).c=6∧(putIn (dealL B.data.toList) B l d s).over=true∧(putIn (dealL B.data.toList) B l d s).l=-2∧dealL (putIn (dealL B.data.toList) B l d s).b.data.toList=dealL B.data.toList):=by
 have hk:=nextK_le hd (dealL B.data.toList d).1
 have ho:=fill3_out (B:=B) (l:=l) (k:=nextK d (dealL B.data.toList d).1) (n:=(dealL B.data.toList d).1+1) (s:=s) (by omega)
 unfold putIn
 by_cases h1:(dealL B.data.toList d).2=s
 ·rw [if_pos h1]
  exact .inl ⟨rfl,rfl,rfl,hl,h1,fun _ _=>rfl,by show (dealL B.data.toList d).1≤_; omega⟩
 ·rw [if_neg h1,if_neg (by omega)]
  rcases ho with ⟨c,z,o⟩|⟨c,t,o⟩
  ·rw [if_pos c]
   have e1:=deal_done (by omega) hs z
   have e2:∀ e,e≠d→dealL (fill3 B l (nextK d (dealL B.data.toList d).1) ((dealL B.data.toList d).1+1) s).b.data.toList e=dealL B.data.toList e:=fun e he=>deal_other z.1 he
   refine .inl ⟨rfl,rfl,?_,o,?_,e2,?_⟩
   ·funext e
    show updE _ d _ e=_
    unfold updE
    by_cases he:e=d
    ·subst he; rw [if_pos rfl]; exact e1.symm
    ·rw [if_neg he]; exact (e2 e he).symm
   ·show (dealL _ d).2=s; rw [e1]
   ·show (dealL _ d).1≤_; rw [e1]; exact Nat.le_refl _
  ·rw [if_neg (by omega)]
   refine .inr ⟨c,rfl,o,?_⟩
   funext e
   by_cases he:e=d
   ·subst he; exact deal_torn (by rw [← size_list]; omega) t
   ·exact deal_other t.1 he
theorem put_free (hB:216≤B.size) (hd:d<6) (hn:(dealL B.data.toList d).1+1<4294967295):(putIn (dealL B.data.toList) B (-1) d s).c=0∧(putIn (dealL B.data.toList) B (-1) d s).l=-1:=by
 have hk:=nextK_le hd (dealL B.data.toList d).1
 have ho:=fill3_free (B:=B) (k:=nextK d (dealL B.data.toList d).1) (n:=(dealL B.data.toList d).1+1) (s:=s) (by omega)
 unfold putIn
 by_cases h1:(dealL B.data.toList d).2=s
 ·rw [if_pos h1]; exact ⟨rfl,rfl⟩
 ·rw [if_neg h1,if_neg (by omega),if_pos ho.1]; exact ⟨rfl,ho.2⟩
end
theorem slot_zero (n k:Nat) (h:18 * (k+1)≤n):(slotL (zeroB n).data.toList k)[17]? = some 0:=by
 have e:(zeroB n).data.toList=List.replicate n 0:=by simp [zeroB]
 rw [slotL_get,if_pos (by decide),e,List.getElem?_replicate,if_pos (by omega)]
theorem deal_zero (n d:Nat) (h:36 * (d+1)≤n):dealL (zeroB n).data.toList d=(0,St.zero):=by
 have hz:∀ k,18 * (k+1)≤n→heldL k (slotL (zeroB n).data.toList k)=(0,St.zero):=fun k hk=>heldL_torn k _ 0 (last_of_17 (slotL_length (by rw [← size_list,zeroB_size]; exact hk)) (slot_zero n k hk)) (by decide)
 unfold dealL
 rw [hz _ (by omega),hz _ (by omega),if_neg (Nat.lt_irrefl _)]
section
variable {w0 w w1 w2:World} {j p q:Nat} {E:Nat→Nat×St} {over:Bool} {B:ByteArray} {l:Int} {A:Nat→Addr}
theorem jp_new (hb:Below w0.heap.size w0 w1) (h:Pl w1 p q B l) (hp:w0.heap.size≤p) (hq:w0.heap.size≤q) (hj:JR w2 j p E over) (hb2:Below w1.heap.size w1 w2) (hj0:w1.heap.size≤j) (h0:-2≤l) (h1:l≤9223372036854775807) (hs:B.size≤1000) (h6:216≤B.size):JP w0 w2 j p q E over B l:=by
 have e1:=row_lt h.head
 have e2:=row_lt h.row
 exact ⟨hb.trans (hb2.mono hb.size),hj,h.kept (S:=fun _=>False) (Kept.of_below hb2) (fun x=>x) (fun x=>x),by omega,by omega,Nat.le_trans hb.size hj0,hp,hq,h0,h1,hs,h6⟩
end
def sts (B:ByteArray):Nat→St:=fun d=>(dealL B.data.toList d).2
theorem st_neq (x0 x1 x2:Int) (w:World) :
  (binOp .neq 43 (.agg #[.int .i64 x0,.int .i64 x1,.int .i64 x2]) (.agg #[.int .i64 x0,.int .i64 x1,.int .i64 x2])).run Tryz.prog w=.ok (.bool false) w:=by
 go_simp
theorem get_is (j p d:Nat) (E:Nat→Nat×St) (over:Bool) (h1 h2 h3:Nat) (w:World) (h:JR w j p E over) (hd:d<6) (hs:(E d).2=⟨h1,h2,h3⟩) :
  Calls Tryz.prog 103 #[.pointer (some ⟨j,0,none⟩),.int .i64 (d:Int)] w fun e w'=>e=.returned (.tuple #[.agg #[.int .i64 (h1:Int),.int .i64 (h2:Int),.int .i64 (h3:Int)],.nilIface])∧Below w.heap.size w w':=by
 have:=get_ok j p d E over w h hd
 rw [hs] at this
 exact this
end Go.Proofs.YtadhpkopkkjmfaaGreatDoor
namespace Go.Proofs.YtadhpkopkkjmfaaGreatDoor
open Go.RowKit
def pOut (E:Nat→Nat×St) (over:Bool) (B:ByteArray) (l:Int) (dl ph pr a:Int):POut :=
 if over=true then ⟨6,E,true,B,l⟩ else if (0≤dl∧dl<6)∧fitsB ph pr a=true then putIn E B l dl.toNat ⟨ph.toNat,pr.toNat,a.toNat⟩ else ⟨2,E,false,B,l⟩
section
variable {w0 w w':World} {j p q m gn gs r:Nat} {E:Nat→Nat×St} {over dead:Bool} {B:ByteArray} {l:Int} {A:Nat→Addr}
theorem in_nat {dl ph pr a:Int} (h:(0≤dl∧dl<6)∧fitsB ph pr a=true):∃ d h1 h2 h3:Nat,dl=d∧ph=h1∧pr=h2∧a=h3:=by
 obtain ⟨b1,b2,b3,b4,b5,b6⟩:=of_decide_eq_true h.2
 exact ⟨dl.toNat,ph.toNat,pr.toNat,a.toNat,by omega,by omega,by omega,by omega⟩
theorem jput_any (dl ph pr a:Int) (o:POut) (ho:pOut E over B l dl ph pr a=o) (h:JP w0 w j p q E over B l) (hE:HeldE w0 A) (hn:∀ d,d<6→(E d).1<4294967296) :
  Calls Tryz.prog 176 #[.pointer (some ⟨j,0,none⟩),.int .i64 dl,.agg #[.int .i64 ph,.int .i64 pr,.int .i64 a]] w fun e w'=>e=.returned (ev A o.c)∧JP w0 w' j p q o.e o.over o.b o.l∧Kept (In3 j p q) w w':=by
 subst ho
 unfold pOut
 cases over with
 | true=>rw [if_pos rfl]; exact put_over A w0 w j p q E B l dl ph pr a h hE
 | false =>
  rw [if_neg (by decide)]
  by_cases hb:(0≤dl∧dl<6)∧fitsB ph pr a=true
  ·rw [if_pos hb]
   obtain ⟨d,h1,h2,h3,rfl,rfl,rfl,rfl⟩:=in_nat hb
   simp only [Int.toNat_natCast]
   exact put_in A w0 w j p q E B l d ⟨h1,h2,h3⟩ h hE (by omega) hb.2 (hn d (by omega))
  ·rw [if_neg hb]; exact put_bound A w0 w j p q E B l dl ph pr a h hE hb
theorem JP.far {S:Nat→Prop} (h:JP w0 w j p q E over B l) (k:Kept S w w') (hS:∀ x,S x→w0.heap.size≤x) (hd:∀ x,In3 j p q x→¬ S x):JP w0 w' j p q E over B l :=
 ⟨k.below h.bel.size hS h.bel,k.row h.jr (hd j (.inl rfl)),h.pl.kept k (hd p (.inr (.inl rfl))) (hd q (.inr (.inr rfl))),h.jp,h.jq,h.j0,h.p0,h.q0,h.l0,h.l1,h.sz,h.s6⟩
theorem In2.in3 {x:Nat} (h:In2 p q x):In3 j p q x:=.inr h
end
theorem mlaw:Maps.Keyed Tryz.prog 3:=Maps.int_keyed Tryz.underlying3
theorem munit (w:World):(zeroValue 126).run Tryz.prog w=.ok (.agg #[]) w:=by kernel_rfl
theorem mkey {a:Int} (h:-9223372036854775808≤a∧a≤9223372036854775807):keyOf Tryz.prog 3 (.int .i64 a)=some (.int .i64 a):=by
 refine Maps.keyOf_int_mk Tryz.underlying3 ?_
 have h1:IntKind.i64.min=-9223372036854775808:=by decide
 have h2:IntKind.i64.max=9223372036854775807:=by decide
 simp only [Lit.wf,Bool.and_eq_true,decide_eq_true_eq,h1,h2]
 exact h
theorem mkeyN {d:Nat} (h:d<6):keyOf Tryz.prog 3 (.int .i64 (d:Int))=some (.int .i64 (d:Int)):=mkey (by omega)
structure SR (w:World) (s j mb:Nat) (id:Int) (R:Nat→Bool) (n:Nat):Prop where
 row:w.heap[s]? = some (.cells #[.pointer (some ⟨j,0,none⟩),.int .i64 id,.map (some mb)] 131 (0,0))
 ref:∃ D:DataW Unit,w.ownsMap Tryz.prog 3 unitElem mb n D∧∀ d:Nat,d<6→Maps.has D (.int .i64 (d:Int))=R d
theorem ownsMap_kept {S:Nat→Prop} {w w':World} {P:Program} {k:TypeId} {H:Type} {R:Value→Option (DataW H×List MemPlace)} {b n:Nat} {D:DataW H} (h:w.ownsMap P k R b n D) (hk:Kept S w w') (hs:¬ S b):w'.ownsMap P k R b n D:=by
 obtain ⟨es,cl,hb,r⟩:=h
 exact ⟨es,cl,hk.row hb hs,r⟩
section
variable {w w':World} {s j mb n:Nat} {id:Int} {R:Nat→Bool}
theorem SR.kept {S:Nat→Prop} (h:SR w s j mb id R n) (k:Kept S w w') (h1:¬ S s) (h2:¬ S mb):SR w' s j mb id R n:=by
 obtain ⟨r,D,hD,hh⟩:=h
 exact ⟨k.row r h1,D,ownsMap_kept hD k h2,hh⟩
theorem SR.later (h:SR w s j mb id R n) (hb:Below w.heap.size w w'):SR w' s j mb id R n:=h.kept (S:=fun _=>False) (Kept.of_below hb) (fun x=>x) (fun x=>x)
theorem SR.drew (h:SR w s j mb id R n):SR w.drew s j mb id R n:=h.later (Below.refl _ _).drew
theorem SR.mono {m:Nat} (h:SR w s j mb id R n) (hn:n≤m):SR w s j mb id R m:=by
 obtain ⟨r,D,hD,hh⟩:=h
 exact ⟨r,D,hD.mono hn,hh⟩
theorem SR.cells (h:SR w s j mb id R n):w.cell? ⟨s,0,none⟩=some (.pointer (some ⟨j,0,none⟩))∧w.cell? ⟨s,1,none⟩=some (.int .i64 id)∧w.cell? ⟨s,2,none⟩=some (.map (some mb)):=by
 refine ⟨?_,?_,?_⟩ <;> rw [cell_of_row _ _ _ _ _ _ h.row] <;> rfl
theorem SR.lts (h:SR w s j mb id R n):s<w.heap.size∧mb<w.heap.size:=by
 obtain ⟨r,D,hD,_⟩:=h
 exact ⟨row_ltJ r,hD.lt⟩
end
def updR (R:Nat→Bool) (d:Nat):Nat→Bool:=fun e=>if e=d then true else R e
structure SP (w0 w:World) (s j mb p q:Nat) (id:Int) (R:Nat→Bool) (n:Nat) (E:Nat→Nat×St) (over:Bool) (B:ByteArray) (l:Int):Prop where
 jp:JP w0 w j p q E over B l
 sr:SR w s j mb id R n
 ns:¬ In3 j p q s
 nm:¬ In3 j p q mb
 sm:s≠mb
 s0:w0.heap.size≤s
 m0:w0.heap.size≤mb
section
variable {w0 w w':World} {s j mb p q n:Nat} {id:Int} {R:Nat→Bool} {E E':Nat→Nat×St} {over over':Bool} {B B':ByteArray} {l l':Int}
theorem SP.later (h:SP w0 w s j mb p q id R n E over B l) (hb:Below w.heap.size w w'):SP w0 w' s j mb p q id R n E over B l:=⟨h.jp.later hb,h.sr.later hb,h.ns,h.nm,h.sm,h.s0,h.m0⟩
theorem SP.drew (h:SP w0 w s j mb p q id R n E over B l):SP w0 w.drew s j mb p q id R n E over B l:=h.later (Below.refl _ _).drew
theorem SP.mono {m:Nat} (h:SP w0 w s j mb p q id R n E over B l) (hn:n≤m):SP w0 w s j mb p q id R m E over B l:=⟨h.jp,h.sr.mono hn,h.ns,h.nm,h.sm,h.s0,h.m0⟩
theorem SP.turn (h:SP w0 w s j mb p q id R n E over B l) (hj:JP w0 w' j p q E' over' B' l') (hk:Kept (In3 j p q) w w'):SP w0 w' s j mb p q id R n E' over' B' l':=⟨hj,h.sr.kept hk h.ns h.nm,h.ns,h.nm,h.sm,h.s0,h.m0⟩
theorem SP.far {S:Nat→Prop} (h:SP w0 w s j mb p q id R n E over B l) (k:Kept S w w') (hS:∀ x,S x→w0.heap.size≤x) (hd:∀ x,In3 j p q x→¬ S x) (h1:¬ S s) (h2:¬ S mb):SP w0 w' s j mb p q id R n E over B l:=⟨h.jp.far k hS hd,h.sr.kept k h1 h2,h.ns,h.nm,h.sm,h.s0,h.m0⟩
theorem SP.lts (h:SP w0 w s j mb p q id R n E over B l):s<w.heap.size∧mb<w.heap.size∧j<w.heap.size∧p<w.heap.size∧q<w.heap.size:=⟨h.sr.lts.1,h.sr.lts.2,h.jp.jr.lt,row_lt h.jp.pl.head,row_lt h.jp.pl.row⟩
end
end Go.Proofs.YtadhpkopkkjmfaaGreatDoor
