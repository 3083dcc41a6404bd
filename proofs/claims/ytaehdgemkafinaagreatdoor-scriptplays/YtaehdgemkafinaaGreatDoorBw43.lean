/-
  On the way to SPlaysProof: X6E X7.
-/
import Derived.Test.YtaehdgemkafinaaGreatDoorBw41
set_option maxHeartbeats 8000000
set_option maxRecDepth 100000
namespace Go.Proofs.YtaehdgemkafinaaGreatDoor
open Go.RowKit
section
variable {Q:Exit→Act→World→Prop} {a0:Act} {w0 wr W W3:World} {C:Nat→Nat} {nv:Value} {K:Nat→RB} {aw:Option Addr} {cap k:Nat} {zs:List Int}
theorem nw_region (H:NwH Q a0 w0 wr W W3 C nv K aw cap k zs) (hz:a0.tmps.size=37) (e3:a0.eval (.tmp 3)=.pointer (some ⟨w0.heap.size,0,none⟩)) (e4:a0.eval (.tmp 4)=.int .i64 (k:Int)) (e5:a0.eval (.tmp 5)=.pointer (some ⟨W3.heap.size,0,none⟩)):(Code.region 6 nwOps true).wp Tryz.prog Q a0 W:=by
 have HQp:=hid H.qp
 have HH:=hid H
 have HZ0:=hid hz
 have HZ:=hid hz
 have m0:Sm a0 a0:=⟨rfl,rfl,fun _ _=>rfl⟩
 refine wp_region_any (by kernel_rfl) ?_
 clear H hz
 refine wpAny_take (i:=0) (oi:={ dst:=some 19,op:=Op.move (Operand.tmp 3),type:=40,pos:= "world.go:231",after:=#[],guard:=none }) (v:=(.pointer (some ⟨w0.heap.size,0,none⟩))) rfl (by kernel_rfl) (by kernel_rfl) (by kernel_rfl) (fun c a w h=>HQp.out c _ _ a w h) (Or.inl ⟨by rfl,?_⟩) ?_
 ·intro w
  have f0:=eval_form e3
  go_simp
 change wpAny _ _ _ _ _ _ (Act.put a0 (some 19) (.pointer (some ⟨w0.heap.size,0,none⟩))) _
 obtain ⟨b1,Hb1⟩:∃ x,Hid (x=Act.put a0 (some 19) (.pointer (some ⟨w0.heap.size,0,none⟩))):=⟨_,rfl⟩
 rw [← Hb1.out]
 have HZ1:Hid (b1.tmps.size=37):=by show b1.tmps.size=37; rw [Hb1.out,Act.size_put]; exact HZ0.out
 have m1:Sm a0 b1:=by rw [Hb1.out]; exact m0.put (by omega) (by omega)
 have e3:b1.eval (.tmp 3)=(.pointer (some ⟨w0.heap.size,0,none⟩)):=by rw [Hb1.out,Act.eval_put_ne _ _ _ _ (by decide)]; exact e3
 have e4:b1.eval (.tmp 4)=(.int .i64 (k:Int)):=by rw [Hb1.out,Act.eval_put_ne _ _ _ _ (by decide)]; exact e4
 have e5:b1.eval (.tmp 5)=(.pointer (some ⟨W3.heap.size,0,none⟩)):=by rw [Hb1.out,Act.eval_put_ne _ _ _ _ (by decide)]; exact e5
 have e19:b1.eval (.tmp 19)=(.pointer (some ⟨w0.heap.size,0,none⟩)):=by rw [Hb1.out]; exact Act.eval_put_same _ _ _ (by have:=HZ0.out; omega)
 clear Hb1
 refine wpAny_take (i:=1) (oi:={ dst:=some 20,op:=Op.move (Operand.tmp 3),type:=40,pos:= "world.go:231",after:=#[],guard:=none }) (v:=(.pointer (some ⟨w0.heap.size,0,none⟩))) rfl (by kernel_rfl) (by kernel_rfl) (by kernel_rfl) (fun c a w h=>HQp.out c _ _ a w h) (Or.inl ⟨by rfl,?_⟩) ?_
 ·intro w
  have f0:=eval_form e3
  go_simp
 change wpAny _ _ _ _ _ _ (Act.put b1 (some 20) (.pointer (some ⟨w0.heap.size,0,none⟩))) _
 obtain ⟨b2,Hb2⟩:∃ x,Hid (x=Act.put b1 (some 20) (.pointer (some ⟨w0.heap.size,0,none⟩))):=⟨_,rfl⟩
 rw [← Hb2.out]
 have HZ2:Hid (b2.tmps.size=37):=by show b2.tmps.size=37; rw [Hb2.out,Act.size_put]; exact HZ1.out
 have m2:Sm a0 b2:=by rw [Hb2.out]; exact m1.put (by omega) (by omega)
 have e3:b2.eval (.tmp 3)=(.pointer (some ⟨w0.heap.size,0,none⟩)):=by rw [Hb2.out,Act.eval_put_ne _ _ _ _ (by decide)]; exact e3
 have e4:b2.eval (.tmp 4)=(.int .i64 (k:Int)):=by rw [Hb2.out,Act.eval_put_ne _ _ _ _ (by decide)]; exact e4
 have e5:b2.eval (.tmp 5)=(.pointer (some ⟨W3.heap.size,0,none⟩)):=by rw [Hb2.out,Act.eval_put_ne _ _ _ _ (by decide)]; exact e5
 have e19:b2.eval (.tmp 19)=(.pointer (some ⟨w0.heap.size,0,none⟩)):=by rw [Hb2.out,Act.eval_put_ne _ _ _ _ (by decide)]; exact e19
 have e20:b2.eval (.tmp 20)=(.pointer (some ⟨w0.heap.size,0,none⟩)):=by rw [Hb2.out]; exact Act.eval_put_same _ _ _ (by have:=HZ1.out; omega)
 clear Hb2
 refine wpAny_take (i:=2) (oi:={ dst:=some 21,op:=Op.nilCheck (Operand.tmp 20),type:=0,pos:= "world.go:231",after:=#[{ on:=1,ground:=Ground.data }],guard:=none }) (v:=(.pointer (some ⟨w0.heap.size,0,none⟩))) rfl (by kernel_rfl) (by kernel_rfl) (by kernel_rfl) (fun c a w h=>HQp.out c _ _ a w h) (Or.inl ⟨by rfl,?_⟩) ?_
 ·intro w
  have f0:=eval_form e20
  go_simp
 change wpAny _ _ _ _ _ _ (Act.put b2 (some 21) (.pointer (some ⟨w0.heap.size,0,none⟩))) _
 obtain ⟨b3,Hb3⟩:∃ x,Hid (x=Act.put b2 (some 21) (.pointer (some ⟨w0.heap.size,0,none⟩))):=⟨_,rfl⟩
 rw [← Hb3.out]
 have HZ3:Hid (b3.tmps.size=37):=by show b3.tmps.size=37; rw [Hb3.out,Act.size_put]; exact HZ2.out
 have m3:Sm a0 b3:=by rw [Hb3.out]; exact m2.put (by omega) (by omega)
 have e3:b3.eval (.tmp 3)=(.pointer (some ⟨w0.heap.size,0,none⟩)):=by rw [Hb3.out,Act.eval_put_ne _ _ _ _ (by decide)]; exact e3
 have e4:b3.eval (.tmp 4)=(.int .i64 (k:Int)):=by rw [Hb3.out,Act.eval_put_ne _ _ _ _ (by decide)]; exact e4
 have e5:b3.eval (.tmp 5)=(.pointer (some ⟨W3.heap.size,0,none⟩)):=by rw [Hb3.out,Act.eval_put_ne _ _ _ _ (by decide)]; exact e5
 have e19:b3.eval (.tmp 19)=(.pointer (some ⟨w0.heap.size,0,none⟩)):=by rw [Hb3.out,Act.eval_put_ne _ _ _ _ (by decide)]; exact e19
 have e20:b3.eval (.tmp 20)=(.pointer (some ⟨w0.heap.size,0,none⟩)):=by rw [Hb3.out,Act.eval_put_ne _ _ _ _ (by decide)]; exact e20
 have e21:b3.eval (.tmp 21)=(.pointer (some ⟨w0.heap.size,0,none⟩)):=by rw [Hb3.out]; exact Act.eval_put_same _ _ _ (by have:=HZ2.out; omega)
 clear Hb3
 refine wpAny_take (i:=3) (oi:={ dst:=some 22,op:=Op.fieldAddr 58 (Operand.tmp 21) 1,type:=0,pos:= "world.go:231",after:=#[{ on:=2,ground:=Ground.data }],guard:=none }) (v:=(.pointer (some ⟨w0.heap.size,1,none⟩))) rfl (by kernel_rfl) (by kernel_rfl) (by kernel_rfl) (fun c a w h=>HQp.out c _ _ a w h) (Or.inl ⟨by rfl,?_⟩) ?_
 ·intro w
  have f0:=eval_form e21
  go_simp
 change wpAny _ _ _ _ _ _ (Act.put b3 (some 22) (.pointer (some ⟨w0.heap.size,1,none⟩))) _
 obtain ⟨b4,Hb4⟩:∃ x,Hid (x=Act.put b3 (some 22) (.pointer (some ⟨w0.heap.size,1,none⟩))):=⟨_,rfl⟩
 rw [← Hb4.out]
 have HZ4:Hid (b4.tmps.size=37):=by show b4.tmps.size=37; rw [Hb4.out,Act.size_put]; exact HZ3.out
 have m4:Sm a0 b4:=by rw [Hb4.out]; exact m3.put (by omega) (by omega)
 have e3:b4.eval (.tmp 3)=(.pointer (some ⟨w0.heap.size,0,none⟩)):=by rw [Hb4.out,Act.eval_put_ne _ _ _ _ (by decide)]; exact e3
 have e4:b4.eval (.tmp 4)=(.int .i64 (k:Int)):=by rw [Hb4.out,Act.eval_put_ne _ _ _ _ (by decide)]; exact e4
 have e5:b4.eval (.tmp 5)=(.pointer (some ⟨W3.heap.size,0,none⟩)):=by rw [Hb4.out,Act.eval_put_ne _ _ _ _ (by decide)]; exact e5
 have e19:b4.eval (.tmp 19)=(.pointer (some ⟨w0.heap.size,0,none⟩)):=by rw [Hb4.out,Act.eval_put_ne _ _ _ _ (by decide)]; exact e19
 have e20:b4.eval (.tmp 20)=(.pointer (some ⟨w0.heap.size,0,none⟩)):=by rw [Hb4.out,Act.eval_put_ne _ _ _ _ (by decide)]; exact e20
 have e21:b4.eval (.tmp 21)=(.pointer (some ⟨w0.heap.size,0,none⟩)):=by rw [Hb4.out,Act.eval_put_ne _ _ _ _ (by decide)]; exact e21
 have e22:b4.eval (.tmp 22)=(.pointer (some ⟨w0.heap.size,1,none⟩)):=by rw [Hb4.out]; exact Act.eval_put_same _ _ _ (by have:=HZ3.out; omega)
 clear Hb4
 refine wpAny_take (i:=5) (oi:={ dst:=some 24,op:=Op.move (Operand.tmp 4),type:=3,pos:= "world.go:231",after:=#[],guard:=none }) (v:=(.int .i64 (k:Int))) rfl (by kernel_rfl) (by kernel_rfl) (by kernel_rfl) (fun c a w h=>HQp.out c _ _ a w h) (Or.inl ⟨by rfl,?_⟩) ?_
 ·intro w
  have f0:=eval_form e4
  go_simp
 change wpAny _ _ _ _ _ _ (Act.put b4 (some 24) (.int .i64 (k:Int))) _
 obtain ⟨b5,Hb5⟩:∃ x,Hid (x=Act.put b4 (some 24) (.int .i64 (k:Int))):=⟨_,rfl⟩
 rw [← Hb5.out]
 have HZ5:Hid (b5.tmps.size=37):=by show b5.tmps.size=37; rw [Hb5.out,Act.size_put]; exact HZ4.out
 have m5:Sm a0 b5:=by rw [Hb5.out]; exact m4.put (by omega) (by omega)
 have e3:b5.eval (.tmp 3)=(.pointer (some ⟨w0.heap.size,0,none⟩)):=by rw [Hb5.out,Act.eval_put_ne _ _ _ _ (by decide)]; exact e3
 have e4:b5.eval (.tmp 4)=(.int .i64 (k:Int)):=by rw [Hb5.out,Act.eval_put_ne _ _ _ _ (by decide)]; exact e4
 have e5:b5.eval (.tmp 5)=(.pointer (some ⟨W3.heap.size,0,none⟩)):=by rw [Hb5.out,Act.eval_put_ne _ _ _ _ (by decide)]; exact e5
 have e19:b5.eval (.tmp 19)=(.pointer (some ⟨w0.heap.size,0,none⟩)):=by rw [Hb5.out,Act.eval_put_ne _ _ _ _ (by decide)]; exact e19
 have e20:b5.eval (.tmp 20)=(.pointer (some ⟨w0.heap.size,0,none⟩)):=by rw [Hb5.out,Act.eval_put_ne _ _ _ _ (by decide)]; exact e20
 have e21:b5.eval (.tmp 21)=(.pointer (some ⟨w0.heap.size,0,none⟩)):=by rw [Hb5.out,Act.eval_put_ne _ _ _ _ (by decide)]; exact e21
 have e22:b5.eval (.tmp 22)=(.pointer (some ⟨w0.heap.size,1,none⟩)):=by rw [Hb5.out,Act.eval_put_ne _ _ _ _ (by decide)]; exact e22
 have e24:b5.eval (.tmp 24)=(.int .i64 (k:Int)):=by rw [Hb5.out]; exact Act.eval_put_same _ _ _ (by have:=HZ4.out; omega)
 clear Hb5
 refine wpAny_take (i:=6) (oi:={ dst:=some 25,op:=Op.move (Operand.tmp 5),type:=59,pos:= "world.go:231",after:=#[],guard:=none }) (v:=(.pointer (some ⟨W3.heap.size,0,none⟩))) rfl (by kernel_rfl) (by kernel_rfl) (by kernel_rfl) (fun c a w h=>HQp.out c _ _ a w h) (Or.inl ⟨by rfl,?_⟩) ?_
 ·intro w
  have f0:=eval_form e5
  go_simp
 change wpAny _ _ _ _ _ _ (Act.put b5 (some 25) (.pointer (some ⟨W3.heap.size,0,none⟩))) _
 obtain ⟨b6,Hb6⟩:∃ x,Hid (x=Act.put b5 (some 25) (.pointer (some ⟨W3.heap.size,0,none⟩))):=⟨_,rfl⟩
 rw [← Hb6.out]
 have HZ6:Hid (b6.tmps.size=37):=by show b6.tmps.size=37; rw [Hb6.out,Act.size_put]; exact HZ5.out
 have m6:Sm a0 b6:=by rw [Hb6.out]; exact m5.put (by omega) (by omega)
 have e3:b6.eval (.tmp 3)=(.pointer (some ⟨w0.heap.size,0,none⟩)):=by rw [Hb6.out,Act.eval_put_ne _ _ _ _ (by decide)]; exact e3
 have e4:b6.eval (.tmp 4)=(.int .i64 (k:Int)):=by rw [Hb6.out,Act.eval_put_ne _ _ _ _ (by decide)]; exact e4
 have e5:b6.eval (.tmp 5)=(.pointer (some ⟨W3.heap.size,0,none⟩)):=by rw [Hb6.out,Act.eval_put_ne _ _ _ _ (by decide)]; exact e5
 have e19:b6.eval (.tmp 19)=(.pointer (some ⟨w0.heap.size,0,none⟩)):=by rw [Hb6.out,Act.eval_put_ne _ _ _ _ (by decide)]; exact e19
 have e20:b6.eval (.tmp 20)=(.pointer (some ⟨w0.heap.size,0,none⟩)):=by rw [Hb6.out,Act.eval_put_ne _ _ _ _ (by decide)]; exact e20
 have e21:b6.eval (.tmp 21)=(.pointer (some ⟨w0.heap.size,0,none⟩)):=by rw [Hb6.out,Act.eval_put_ne _ _ _ _ (by decide)]; exact e21
 have e22:b6.eval (.tmp 22)=(.pointer (some ⟨w0.heap.size,1,none⟩)):=by rw [Hb6.out,Act.eval_put_ne _ _ _ _ (by decide)]; exact e22
 have e24:b6.eval (.tmp 24)=(.int .i64 (k:Int)):=by rw [Hb6.out,Act.eval_put_ne _ _ _ _ (by decide)]; exact e24
 have e25:b6.eval (.tmp 25)=(.pointer (some ⟨W3.heap.size,0,none⟩)):=by rw [Hb6.out]; exact Act.eval_put_same _ _ _ (by have:=HZ5.out; omega)
 clear Hb6
 refine wpAny_take (i:=8) (oi:={ dst:=some 27,op:=Op.move (Operand.tmp 5),type:=59,pos:= "world.go:231",after:=#[],guard:=none }) (v:=(.pointer (some ⟨W3.heap.size,0,none⟩))) rfl (by kernel_rfl) (by kernel_rfl) (by kernel_rfl) (fun c a w h=>HQp.out c _ _ a w h) (Or.inl ⟨by rfl,?_⟩) ?_
 ·intro w
  have f0:=eval_form e5
  go_simp
 change wpAny _ _ _ _ _ _ (Act.put b6 (some 27) (.pointer (some ⟨W3.heap.size,0,none⟩))) _
 obtain ⟨b7,Hb7⟩:∃ x,Hid (x=Act.put b6 (some 27) (.pointer (some ⟨W3.heap.size,0,none⟩))):=⟨_,rfl⟩
 rw [← Hb7.out]
 have HZ7:Hid (b7.tmps.size=37):=by show b7.tmps.size=37; rw [Hb7.out,Act.size_put]; exact HZ6.out
 have m7:Sm a0 b7:=by rw [Hb7.out]; exact m6.put (by omega) (by omega)
 have e3:b7.eval (.tmp 3)=(.pointer (some ⟨w0.heap.size,0,none⟩)):=by rw [Hb7.out,Act.eval_put_ne _ _ _ _ (by decide)]; exact e3
 have e4:b7.eval (.tmp 4)=(.int .i64 (k:Int)):=by rw [Hb7.out,Act.eval_put_ne _ _ _ _ (by decide)]; exact e4
 have e5:b7.eval (.tmp 5)=(.pointer (some ⟨W3.heap.size,0,none⟩)):=by rw [Hb7.out,Act.eval_put_ne _ _ _ _ (by decide)]; exact e5
 have e19:b7.eval (.tmp 19)=(.pointer (some ⟨w0.heap.size,0,none⟩)):=by rw [Hb7.out,Act.eval_put_ne _ _ _ _ (by decide)]; exact e19
 have e20:b7.eval (.tmp 20)=(.pointer (some ⟨w0.heap.size,0,none⟩)):=by rw [Hb7.out,Act.eval_put_ne _ _ _ _ (by decide)]; exact e20
 have e21:b7.eval (.tmp 21)=(.pointer (some ⟨w0.heap.size,0,none⟩)):=by rw [Hb7.out,Act.eval_put_ne _ _ _ _ (by decide)]; exact e21
 have e22:b7.eval (.tmp 22)=(.pointer (some ⟨w0.heap.size,1,none⟩)):=by rw [Hb7.out,Act.eval_put_ne _ _ _ _ (by decide)]; exact e22
 have e24:b7.eval (.tmp 24)=(.int .i64 (k:Int)):=by rw [Hb7.out,Act.eval_put_ne _ _ _ _ (by decide)]; exact e24
 have e25:b7.eval (.tmp 25)=(.pointer (some ⟨W3.heap.size,0,none⟩)):=by rw [Hb7.out,Act.eval_put_ne _ _ _ _ (by decide)]; exact e25
 have e27:b7.eval (.tmp 27)=(.pointer (some ⟨W3.heap.size,0,none⟩)):=by rw [Hb7.out]; exact Act.eval_put_same _ _ _ (by have:=HZ6.out; omega)
 clear Hb7
 exact nw_0000 (t:=0) (mm:=0) (gn:=0) (gs:=0) (gb:=0) (ls:=0) (dn:=0) HH.out ⟨m7,HZ0.out,e19,e22,e24,e25,e27,(Below.refl _ W).drew,fun q=>(by cases q),fun q=>(by cases q),fun q=>(by cases q),fun q=>(by cases q),fun q=>(by cases q),fun q=>(by cases q),fun q=>(by cases q)⟩
end
theorem arr37 (ts:Array Value) (h:ts.size=37):∃ x0 x1 x2 x3 x4 x5 x6 x7 x8 x9 x10 x11 x12 x13 x14 x15 x16 x17 x18 x19 x20 x21 x22 x23 x24 x25 x26 x27 x28 x29 x30 x31 x32 x33 x34 x35 x36:Value,ts=#[x0,x1,x2,x3,x4,x5,x6,x7,x8,x9,x10,x11,x12,x13,x14,x15,x16,x17,x18,x19,x20,x21,x22,x23,x24,x25,x26,x27,x28,x29,x30,x31,x32,x33,x34,x35,x36]:=by
 obtain ⟨l⟩:=ts
 have hl:l.length=37:=h
 obtain ⟨x0,l,rfl⟩:∃ x m,l=x :: m:=List.exists_cons_of_length_pos (by omega)
 simp only [List.length_cons] at hl
 obtain ⟨x1,l,rfl⟩:∃ x m,l=x :: m:=List.exists_cons_of_length_pos (by omega)
 simp only [List.length_cons] at hl
 obtain ⟨x2,l,rfl⟩:∃ x m,l=x :: m:=List.exists_cons_of_length_pos (by omega)
 simp only [List.length_cons] at hl
 obtain ⟨x3,l,rfl⟩:∃ x m,l=x :: m:=List.exists_cons_of_length_pos (by omega)
 simp only [List.length_cons] at hl
 obtain ⟨x4,l,rfl⟩:∃ x m,l=x :: m:=List.exists_cons_of_length_pos (by omega)
 simp only [List.length_cons] at hl
 obtain ⟨x5,l,rfl⟩:∃ x m,l=x :: m:=List.exists_cons_of_length_pos (by omega)
 simp only [List.length_cons] at hl
 obtain ⟨x6,l,rfl⟩:∃ x m,l=x :: m:=List.exists_cons_of_length_pos (by omega)
 simp only [List.length_cons] at hl
 obtain ⟨x7,l,rfl⟩:∃ x m,l=x :: m:=List.exists_cons_of_length_pos (by omega)
 simp only [List.length_cons] at hl
 obtain ⟨x8,l,rfl⟩:∃ x m,l=x :: m:=List.exists_cons_of_length_pos (by omega)
 simp only [List.length_cons] at hl
 obtain ⟨x9,l,rfl⟩:∃ x m,l=x :: m:=List.exists_cons_of_length_pos (by omega)
 simp only [List.length_cons] at hl
 obtain ⟨x10,l,rfl⟩:∃ x m,l=x :: m:=List.exists_cons_of_length_pos (by omega)
 simp only [List.length_cons] at hl
 obtain ⟨x11,l,rfl⟩:∃ x m,l=x :: m:=List.exists_cons_of_length_pos (by omega)
 simp only [List.length_cons] at hl
 obtain ⟨x12,l,rfl⟩:∃ x m,l=x :: m:=List.exists_cons_of_length_pos (by omega)
 simp only [List.length_cons] at hl
 obtain ⟨x13,l,rfl⟩:∃ x m,l=x :: m:=List.exists_cons_of_length_pos (by omega)
 simp only [List.length_cons] at hl
 obtain ⟨x14,l,rfl⟩:∃ x m,l=x :: m:=List.exists_cons_of_length_pos (by omega)
 simp only [List.length_cons] at hl
 obtain ⟨x15,l,rfl⟩:∃ x m,l=x :: m:=List.exists_cons_of_length_pos (by omega)
 simp only [List.length_cons] at hl
 obtain ⟨x16,l,rfl⟩:∃ x m,l=x :: m:=List.exists_cons_of_length_pos (by omega)
 simp only [List.length_cons] at hl
 obtain ⟨x17,l,rfl⟩:∃ x m,l=x :: m:=List.exists_cons_of_length_pos (by omega)
 simp only [List.length_cons] at hl
 obtain ⟨x18,l,rfl⟩:∃ x m,l=x :: m:=List.exists_cons_of_length_pos (by omega)
 simp only [List.length_cons] at hl
 obtain ⟨x19,l,rfl⟩:∃ x m,l=x :: m:=List.exists_cons_of_length_pos (by omega)
 simp only [List.length_cons] at hl
 obtain ⟨x20,l,rfl⟩:∃ x m,l=x :: m:=List.exists_cons_of_length_pos (by omega)
 simp only [List.length_cons] at hl
 obtain ⟨x21,l,rfl⟩:∃ x m,l=x :: m:=List.exists_cons_of_length_pos (by omega)
 simp only [List.length_cons] at hl
 obtain ⟨x22,l,rfl⟩:∃ x m,l=x :: m:=List.exists_cons_of_length_pos (by omega)
 simp only [List.length_cons] at hl
 obtain ⟨x23,l,rfl⟩:∃ x m,l=x :: m:=List.exists_cons_of_length_pos (by omega)
 simp only [List.length_cons] at hl
 obtain ⟨x24,l,rfl⟩:∃ x m,l=x :: m:=List.exists_cons_of_length_pos (by omega)
 simp only [List.length_cons] at hl
 obtain ⟨x25,l,rfl⟩:∃ x m,l=x :: m:=List.exists_cons_of_length_pos (by omega)
 simp only [List.length_cons] at hl
 obtain ⟨x26,l,rfl⟩:∃ x m,l=x :: m:=List.exists_cons_of_length_pos (by omega)
 simp only [List.length_cons] at hl
 obtain ⟨x27,l,rfl⟩:∃ x m,l=x :: m:=List.exists_cons_of_length_pos (by omega)
 simp only [List.length_cons] at hl
 obtain ⟨x28,l,rfl⟩:∃ x m,l=x :: m:=List.exists_cons_of_length_pos (by omega)
 simp only [List.length_cons] at hl
 obtain ⟨x29,l,rfl⟩:∃ x m,l=x :: m:=List.exists_cons_of_length_pos (by omega)
 simp only [List.length_cons] at hl
 obtain ⟨x30,l,rfl⟩:∃ x m,l=x :: m:=List.exists_cons_of_length_pos (by omega)
 simp only [List.length_cons] at hl
 obtain ⟨x31,l,rfl⟩:∃ x m,l=x :: m:=List.exists_cons_of_length_pos (by omega)
 simp only [List.length_cons] at hl
 obtain ⟨x32,l,rfl⟩:∃ x m,l=x :: m:=List.exists_cons_of_length_pos (by omega)
 simp only [List.length_cons] at hl
 obtain ⟨x33,l,rfl⟩:∃ x m,l=x :: m:=List.exists_cons_of_length_pos (by omega)
 simp only [List.length_cons] at hl
 obtain ⟨x34,l,rfl⟩:∃ x m,l=x :: m:=List.exists_cons_of_length_pos (by omega)
 simp only [List.length_cons] at hl
 obtain ⟨x35,l,rfl⟩:∃ x m,l=x :: m:=List.exists_cons_of_length_pos (by omega)
 simp only [List.length_cons] at hl
 obtain ⟨x36,l,rfl⟩:∃ x m,l=x :: m:=List.exists_cons_of_length_pos (by omega)
 simp only [List.length_cons] at hl
 obtain rfl:l=[]:=List.eq_nil_of_length_eq_zero (by omega)
 exact ⟨x0,x1,x2,x3,x4,x5,x6,x7,x8,x9,x10,x11,x12,x13,x14,x15,x16,x17,x18,x19,x20,x21,x22,x23,x24,x25,x26,x27,x28,x29,x30,x31,x32,x33,x34,x35,x36,rfl⟩
section
variable {w0 w w1 w':World} {C C':Nat→Nat} {aw:Option Addr} {cap k:Nat} {zs:List Int}
theorem rwnew_ok (hs:IsSl w (.slice aw zs.length cap) zs) (he:errW zs=0) :
  Calls Tryz.prog 14 #[.slice aw zs.length cap] w fun e w'=>∃ C Y,e=.returned (.pointer (some ⟨Y.xb,0,none⟩))∧RW w w' C Y aw cap zs newX 0:=by
 obtain ⟨n1,n7,-⟩:=errW_zero he
 have HSl:=hid hs
 have HE:=hid he
 obtain ⟨z,hz⟩:∃ z,Hid (zs.length=z):=⟨_,rfl⟩
 rw [hz.out] at n1 n7 ⊢
 obtain ⟨W1,HW1⟩:∃ W1,Hid (w.alloc (.cells #[.slice aw z cap,.slice none 0 0,.slice none 0 0,.slice none 0 0,.slice none 0 0] 58)=W1):=⟨_,rfl⟩
 have hW1:=HW1.out
 have HB1:Hid (Below w.heap.size w W1):=by rw [← HW1.out]; exact (Below.refl _ _).alloc (Nat.le_refl _) _
 have HR1:Hid (W1.heap[w.heap.size]? = some (.cells #[.slice aw zs.length cap,.slice none 0 0,.slice none 0 0,.slice none 0 0,.slice none 0 0] 58 (0,0))):=by rw [← HW1.out,hz.out]; exact heap_alloc_new w _
 have hmk:∀ w,(Instr.makeSlice 60 (.int .i64 512) (.int .i64 512)).run Tryz.prog w=.ok (.slice (some ⟨w.heap.size,0,none⟩) 512 512) (w.alloc (.cells (cellsB (zeroB 512)) 5)):=mkB 512 (by omega)
 have hmL:=mkRL
 have hmD:=mkBo
 clear hs he
 go_enter Tryz.func14,Tryz.ntmps14
 go_wp2_with fail
 go_loopw [4] (fun v wr=>∃ k:Nat,k≤z∧v=.int .i64 (k:Int)∧∃ C nv K,RWN w wr C w.heap.size nv K aw cap zs k) (fun v _=>z - (intOf v).toNat)
 case atStart =>
  have hsz:W1.heap.size=w.heap.size+1:=by rw [← HW1.out]; simp
  refine ⟨0,Nat.zero_le _,rfl,fun x=>if x=w.heap.size then 1001 else 2000,.slice none 0 0,fun _=>newRK 0 0 0 0 0 0 0 0 0,⟨HB1.out,HR1.out,World.ownsRow_nil _ _ _ _,fun i hi=>(by omega),if_pos rfl,fun g hg=>(by cases hg),fun x hx=>?_,fun x hx=>?_⟩⟩
  ·by_cases e:x=w.heap.size
   ·omega
   ·rw [if_neg e] at hx; omega
  ·by_cases e:x=w.heap.size
   ·omega
   ·rw [if_neg e] at hx; omega
 case round =>
  obtain ⟨k,hk,rfl,C,nv,K,hN⟩:=hrel
  rename_i wr
  have HN:=hid hN
  clear hN
  by_cases hlt:k<z
  ·obtain ⟨W3,HW3⟩:∃ W3,Hid ((wr.alloc (.cells (cellsB (zeroB 512)) 5))=W3):=⟨_,rfl⟩
   have hcv:(convert 60 9 (.slice (some ⟨wr.heap.size,0,none⟩) 512 512)).run Tryz.prog W3=.ok (.string (zeroB 512)) W3:=conv_z (by rw [← HW3.out]; exact heap_alloc_new wr _)
   have hW3:=HW3.out
   obtain ⟨W,HW⟩:∃ W,Hid (W3.alloc (.cells #[.string (zeroB 512),.bool false,.int .i64 0,.bool false] 62)=W):=⟨_,rfl⟩
   have hW:=HW.out
   have HB:Hid (Below wr.heap.size wr W):=by rw [← HW.out,← HW3.out]; exact ((Below.refl _ _).alloc (Nat.le_refl _) _).alloc (by simp) _
   have HRP:Hid (RP W W3.heap.size (zeroB 512) false 0 false):=by rw [← HW.out]; exact heap_alloc_new W3 _
   have HS3:Hid (W3.heap.size=wr.heap.size+1∧W.heap.size=wr.heap.size+2):=by
    have a1:W3.heap.size=wr.heap.size+1:=by rw [← HW3.out]; simp
    exact ⟨a1,by rw [← HW.out]; simp [a1]⟩
   go_wp2_with fail
   refine nw_region (w0:=w) (wr:=wr) (W:=W) (W3:=W3) (C:=C) (nv:=nv) (K:=K) (aw:=aw) (cap:=cap) (k:=k) (zs:=zs) ⟨HN.out,by omega,HB.out,HRP.out,HS3.out,fun a' w5 g5 c5 hsm hrw=>?_,fun c d v a w h=>h⟩ rfl rfl rfl rfl
   obtain ⟨ts,ds⟩:=a'
   obtain ⟨hs1,hs2,hs3⟩:=hsm
   obtain ⟨x0,x1,x2,x3,x4,x5,x6,x7,x8,x9,x10,x11,x12,x13,x14,x15,x16,x17,x18,x19,x20,x21,x22,x23,x24,x25,x26,x27,x28,x29,x30,x31,x32,x33,x34,x35,x36,rfl⟩:=arr37 ts hs1
   obtain rfl:ds=[]:=hs2
   obtain rfl:x0=.slice aw z cap:=hs3 0 (by omega)
   obtain rfl:x1=undef:=hs3 1 (by omega)
   obtain rfl:x2=.pointer none:=hs3 2 (by omega)
   obtain rfl:x3=.pointer (some ⟨w.heap.size,0,none⟩):=hs3 3 (by omega)
   obtain rfl:x4=.int .i64 (k:Int):=hs3 4 (by omega)
   obtain rfl:x5=.pointer (some ⟨W3.heap.size,0,none⟩):=hs3 5 (by omega)
   obtain rfl:x6=.slice aw z cap:=hs3 6 (by omega)
   obtain rfl:x7=.agg #[.slice aw z cap,.slice none 0 0,.slice none 0 0,.slice none 0 0,.slice none 0 0]:=hs3 7 (by omega)
   obtain rfl:x8=.pointer (some ⟨w.heap.size,0,none⟩):=hs3 8 (by omega)
   obtain rfl:x9=.int .i64 (k:Int):=hs3 9 (by omega)
   obtain rfl:x10=.slice aw z cap:=hs3 10 (by omega)
   obtain rfl:x11=.int .i64 (z:Int):=hs3 11 (by omega)
   obtain rfl:x12=.bool true:=hs3 12 (by omega)
   obtain rfl:x15=.slice (some ⟨wr.heap.size,0,none⟩) 512 512:=hs3 15 (by omega)
   obtain rfl:x16=.string (zeroB 512):=hs3 16 (by omega)
   obtain rfl:x17=.agg #[.string (zeroB 512),.bool false,.int .i64 0,.bool false]:=hs3 17 (by omega)
   obtain rfl:x18=.pointer (some ⟨W3.heap.size,0,none⟩):=hs3 18 (by omega)
   obtain rfl:x36=undef:=hs3 36 (by omega)
   clear hs1 hs3
   have HRw2:=hid hrw
   clear hrw
   go_wp2_with fail
   go_roundw
   case rel=>exact ⟨k+1,by omega,by go_num,by obtain ⟨C',K',h'⟩:=HRw2.out; exact ⟨C',_,K',h'⟩⟩
   case measure=>simp [intOf]; omega
  ·obtain rfl:k=z:=by omega
   have hN:=HN.out
   rw [← hz.out] at hN
   obtain ⟨Y,hx,hY⟩:=hN.done HE.out HSl.out
   have HY:=hid (And.intro hx hY)
   clear hN hx hY
   go_wp2_with fail
   go_ret
   refine ⟨C,Y,?_,HY.out.2⟩
   rw [HY.out.1]; rfl
end
end Go.Proofs.YtaehdgemkafinaaGreatDoor
