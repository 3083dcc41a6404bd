/-
  On the way to WStepsProof: XZ X0 X6E X7.
-/
import Derived.Test.YtadhpkopkkjmfaaGreatDoorBz74
import Derived.Test.YtadhpkopkkjmfaaGreatDoorBz73
set_option maxHeartbeats 8000000
set_option maxRecDepth 100000
namespace Go.Proofs.YtadhpkopkkjmfaaGreatDoor
open Go.RowKit
section
variable {w0 w:World} {C D:Nat→Nat} {X:XB} {Y:YB} {aw:Option Addr} {cap m:Nat} {zs:List Int} {V:PX} {A:Nat→Addr}
theorem four_of {w:World} {b:Nat} {a c e g:Value} {t:TypeId} {f:Nat×Nat} (h:w.heap[b]? = some (.cells #[a,c,e,g] t f)):w.cell? ⟨b,0,none⟩=some a∧w.cell? ⟨b,1,none⟩=some c∧w.cell? ⟨b,2,none⟩=some e∧w.cell? ⟨b,3,none⟩=some g :=
 ⟨by rw [cell_of_row _ _ _ _ _ _ h]; rfl,by rw [cell_of_row _ _ _ _ _ _ h]; rfl,by rw [cell_of_row _ _ _ _ _ _ h]; rfl,by rw [cell_of_row _ _ _ _ _ _ h]; rfl⟩
theorem KC.four {b:Nat} {w w':World} {p q r s:Value} (k:KC b w w') (h:w.cell? ⟨b,0,none⟩=some p∧w.cell? ⟨b,1,none⟩=some q∧w.cell? ⟨b,2,none⟩=some r∧w.cell? ⟨b,3,none⟩=some s):w'.cell? ⟨b,0,none⟩=some p∧w'.cell? ⟨b,1,none⟩=some q∧w'.cell? ⟨b,2,none⟩=some r∧w'.cell? ⟨b,3,none⟩=some s :=
 ⟨k 0 _ h.1,k 1 _ h.2.1,k 2 _ h.2.2.1,k 3 _ h.2.2.2⟩
theorem step_any (xk:ByteArray) (xs xd xn:Int) (h:Two w0 w C X D Y aw cap zs V V m m) (hE:Held9 w0 A) (hm:m<800000) (hn:xn≤9223372036854775807) :
  Calls Tryz.prog 41 #[.pointer (some ⟨X.xb,0,none⟩),.pointer (some ⟨Y.xb,0,none⟩),.agg #[.string xk,.int .i64 xs,.int .i64 xd,.int .i64 xn]] w fun e w'=>e=.returned (.bool true)∧∃ V',TwoOut w0 w' X Y aw cap zs V' (m+42):=by
 obtain ⟨W,HW⟩:∃ W,Hid (w.alloc (.cells #[.string xk,.int .i64 xs,.int .i64 xd,.int .i64 xn] 51)=W):=⟨_,rfl⟩
 have hW:=HW.out
 have HB:Hid (Below w.heap.size w W):=by rw [← HW.out]; exact (Below.refl _ _).alloc (Nat.le_refl _) _
 have HR:=hid (heap_alloc_new w (.cells #[.string xk,.int .i64 xs,.int .i64 xd,.int .i64 xn] 51))
 rw [HW.out] at HR
 have HF:=hid (four_of HR.out)
 obtain ⟨b0,b1,b2,b3⟩:=HF.out
 have H:=hid ((h.later HB.out).later (Below.refl _ _).drew)
 have HE:=hid hE
 have HN:=hid hn
 have HCb:Hid (2000≤C w.heap.size):=by
  rcases Nat.lt_or_ge (C w.heap.size) 2000 with q|q
  ·have:=h.wd.lt _ q; omega
  ·exact q
 have HDb:Hid (2000≤D w.heap.size):=by
  rcases Nat.lt_or_ge (D w.heap.size) 2000 with q|q
  ·have:=h.rw.lt _ q; omega
  ·exact q
 have HLb:Hid (w.heap.size<W.drew.heap.size):=row_ltJ HR.out
 clear h hE hn
 have hcs:((xk.toList == [98,101,103,105,110])=true) ∨ ((xk.toList == [98,101,103,105,110])=false∧(xk.toList == [114,101,102,117,115,101])=true) ∨ ((xk.toList == [98,101,103,105,110])=false∧(xk.toList == [114,101,102,117,115,101])=false∧(xk.toList == [116,105,99,107])=true) ∨ ((xk.toList == [98,101,103,105,110])=false∧(xk.toList == [114,101,102,117,115,101])=false∧(xk.toList == [116,105,99,107])=false∧(xk.toList == [100,111,119,110])=true) ∨ ((xk.toList == [98,101,103,105,110])=false∧(xk.toList == [114,101,102,117,115,101])=false∧(xk.toList == [116,105,99,107])=false∧(xk.toList == [100,111,119,110])=false∧(xk.toList == [117,112])=true) ∨ ((xk.toList == [98,101,103,105,110])=false∧(xk.toList == [114,101,102,117,115,101])=false∧(xk.toList == [116,105,99,107])=false∧(xk.toList == [100,111,119,110])=false∧(xk.toList == [117,112])=false∧(xk.toList == [100,114,111,112])=true) ∨ ((xk.toList == [98,101,103,105,110])=false∧(xk.toList == [114,101,102,117,115,101])=false∧(xk.toList == [116,105,99,107])=false∧(xk.toList == [100,111,119,110])=false∧(xk.toList == [117,112])=false∧(xk.toList == [100,114,111,112])=false∧(xk.toList == [116,119,105,99,101])=true) ∨ ((xk.toList == [98,101,103,105,110])=false∧(xk.toList == [114,101,102,117,115,101])=false∧(xk.toList == [116,105,99,107])=false∧(xk.toList == [100,111,119,110])=false∧(xk.toList == [117,112])=false∧(xk.toList == [100,114,111,112])=false∧(xk.toList == [116,119,105,99,101])=false∧(xk.toList == [108,105,110,107])=true) ∨ ((xk.toList == [98,101,103,105,110])=false∧(xk.toList == [114,101,102,117,115,101])=false∧(xk.toList == [116,105,99,107])=false∧(xk.toList == [100,111,119,110])=false∧(xk.toList == [117,112])=false∧(xk.toList == [100,114,111,112])=false∧(xk.toList == [116,119,105,99,101])=false∧(xk.toList == [108,105,110,107])=false∧(xk.toList == [98,114,101,97,107])=true) ∨ ((xk.toList == [98,101,103,105,110])=false∧(xk.toList == [114,101,102,117,115,101])=false∧(xk.toList == [116,105,99,107])=false∧(xk.toList == [100,111,119,110])=false∧(xk.toList == [117,112])=false∧(xk.toList == [100,114,111,112])=false∧(xk.toList == [116,119,105,99,101])=false∧(xk.toList == [108,105,110,107])=false∧(xk.toList == [98,114,101,97,107])=false∧(xk.toList == [99,117,116])=true) ∨ ((xk.toList == [98,101,103,105,110])=false∧(xk.toList == [114,101,102,117,115,101])=false∧(xk.toList == [116,105,99,107])=false∧(xk.toList == [100,111,119,110])=false∧(xk.toList == [117,112])=false∧(xk.toList == [100,114,111,112])=false∧(xk.toList == [116,119,105,99,101])=false∧(xk.toList == [108,105,110,107])=false∧(xk.toList == [98,114,101,97,107])=false∧(xk.toList == [99,117,116])=false):=by
  rcases k0:(xk.toList == [98,101,103,105,110]) with _|_
  rotate_left
  ·exact .inl rfl
  rcases k1:(xk.toList == [114,101,102,117,115,101]) with _|_
  rotate_left
  ·exact .inr (.inl ⟨rfl,rfl⟩)
  rcases k2:(xk.toList == [116,105,99,107]) with _|_
  rotate_left
  ·exact .inr (.inr (.inl ⟨rfl,rfl,rfl⟩))
  rcases k3:(xk.toList == [100,111,119,110]) with _|_
  rotate_left
  ·exact .inr (.inr (.inr (.inl ⟨rfl,rfl,rfl,rfl⟩)))
  rcases k4:(xk.toList == [117,112]) with _|_
  rotate_left
  ·exact .inr (.inr (.inr (.inr (.inl ⟨rfl,rfl,rfl,rfl,rfl⟩))))
  rcases k5:(xk.toList == [100,114,111,112]) with _|_
  rotate_left
  ·exact .inr (.inr (.inr (.inr (.inr (.inl ⟨rfl,rfl,rfl,rfl,rfl,rfl⟩)))))
  rcases k6:(xk.toList == [116,119,105,99,101]) with _|_
  rotate_left
  ·exact .inr (.inr (.inr (.inr (.inr (.inr (.inl ⟨rfl,rfl,rfl,rfl,rfl,rfl,rfl⟩))))))
  rcases k7:(xk.toList == [108,105,110,107]) with _|_
  rotate_left
  ·exact .inr (.inr (.inr (.inr (.inr (.inr (.inr (.inl ⟨rfl,rfl,rfl,rfl,rfl,rfl,rfl,rfl⟩)))))))
  rcases k8:(xk.toList == [98,114,101,97,107]) with _|_
  rotate_left
  ·exact .inr (.inr (.inr (.inr (.inr (.inr (.inr (.inr (.inl ⟨rfl,rfl,rfl,rfl,rfl,rfl,rfl,rfl,rfl⟩))))))))
  rcases k9:(xk.toList == [99,117,116]) with _|_
  rotate_left
  ·exact .inr (.inr (.inr (.inr (.inr (.inr (.inr (.inr (.inr (.inl ⟨rfl,rfl,rfl,rfl,rfl,rfl,rfl,rfl,rfl,rfl⟩)))))))))
  exact .inr (.inr (.inr (.inr (.inr (.inr (.inr (.inr (.inr (.inr ⟨rfl,rfl,rfl,rfl,rfl,rfl,rfl,rfl,rfl,rfl⟩)))))))))
 rcases hcs with f0|⟨f0,f1⟩|⟨f0,f1,f2⟩|⟨f0,f1,f2,f3⟩|⟨f0,f1,f2,f3,f4⟩|⟨f0,f1,f2,f3,f4,f5⟩|⟨f0,f1,f2,f3,f4,f5,f6⟩|⟨f0,f1,f2,f3,f4,f5,f6,f7⟩|⟨f0,f1,f2,f3,f4,f5,f6,f7,f8⟩|⟨f0,f1,f2,f3,f4,f5,f6,f7,f8,f9⟩|⟨f0,f1,f2,f3,f4,f5,f6,f7,f8,f9⟩
 case' inl =>
  obtain ⟨c,hc⟩:=(hid ((a_begin xs xd HE.out (by omega):Alike2 w0 A aw cap zs V m (m+42) 18 88 _ _).both (b:=w.heap.size) HE.out)).out
  obtain ⟨hp0,hd0⟩:=hc _ _ _ _ _ H.out HCb.out HDb.out HLb.out
  have HP0:=hid hp0
  have HD0:=hid hd0
  clear hc hp0 hd0
 case' inr.inl =>
  obtain ⟨c,hc⟩:=(hid ((a_refuse xs xd HE.out (by omega):Alike2 w0 A aw cap zs V m (m+42) 17 89 _ _).both (b:=w.heap.size) HE.out)).out
  obtain ⟨hp0,hd0⟩:=hc _ _ _ _ _ H.out HCb.out HDb.out HLb.out
  have HP0:=hid hp0
  have HD0:=hid hd0
  clear hc hp0 hd0
 case' inr.inr.inl =>
  obtain ⟨c,hc⟩:=(hid ((a_tick xs HE.out (by omega):Alike2 w0 A aw cap zs V m (m+42) 67 90 _ _).both (b:=w.heap.size) HE.out)).out
  obtain ⟨hp0,hd0⟩:=hc _ _ _ _ _ H.out HCb.out HDb.out HLb.out
  have HP0:=hid hp0
  have HD0:=hid hd0
  clear hc hp0 hd0
 case' inr.inr.inr.inl =>
  obtain ⟨c,hc⟩:=(hid ((a_down xs HE.out:Alike2 w0 A aw cap zs V m (m+42) 34 91 _ _).both (b:=w.heap.size) HE.out)).out
  obtain ⟨hp0,hd0⟩:=hc _ _ _ _ _ H.out HCb.out HDb.out HLb.out
  have HP0:=hid hp0
  have HD0:=hid hd0
  clear hc hp0 hd0
 case' inr.inr.inr.inr.inl =>
  obtain ⟨c,hc⟩:=(hid ((a_up xs HE.out:Alike2 w0 A aw cap zs V m (m+42) 35 92 _ _).both (b:=w.heap.size) HE.out)).out
  obtain ⟨hp0,hd0⟩:=hc _ _ _ _ _ H.out HCb.out HDb.out HLb.out
  have HP0:=hid hp0
  have HD0:=hid hd0
  clear hc hp0 hd0
 case' inr.inr.inr.inr.inr.inl =>
  obtain ⟨c,hc⟩:=(hid ((a_drop xn HE.out (by omega):Alike2 w0 A aw cap zs V m (m+42) 38 93 _ _).both (b:=w.heap.size) HE.out)).out
  obtain ⟨hp0,hd0⟩:=hc _ _ _ _ _ H.out HCb.out HDb.out HLb.out
  have HP0:=hid hp0
  have HD0:=hid hd0
  clear hc hp0 hd0
 case' inr.inr.inr.inr.inr.inr.inl =>
  obtain ⟨c,hc⟩:=(hid ((a_twice xn HE.out (by omega):Alike2 w0 A aw cap zs V m (m+42) 68 94 _ _).both (b:=w.heap.size) HE.out)).out
  obtain ⟨hp0,hd0⟩:=hc _ _ _ _ _ H.out HCb.out HDb.out HLb.out
  have HP0:=hid hp0
  have HD0:=hid hd0
  clear hc hp0 hd0
 case' inr.inr.inr.inr.inr.inr.inr.inl =>
  obtain ⟨c,hc⟩:=(hid ((a_link xs xd true HE.out (by omega):Alike2 w0 A aw cap zs V m (m+42) 33 95 _ _).both (b:=w.heap.size) HE.out)).out
  obtain ⟨hp0,hd0⟩:=hc _ _ _ _ _ H.out HCb.out HDb.out HLb.out
  have HP0:=hid hp0
  have HD0:=hid hd0
  clear hc hp0 hd0
 case' inr.inr.inr.inr.inr.inr.inr.inr.inl =>
  obtain ⟨c,hc⟩:=(hid ((a_link xs xd false HE.out (by omega):Alike2 w0 A aw cap zs V m (m+42) 33 95 _ _).both (b:=w.heap.size) HE.out)).out
  obtain ⟨hp0,hd0⟩:=hc _ _ _ _ _ H.out HCb.out HDb.out HLb.out
  have HP0:=hid hp0
  have HD0:=hid hd0
  clear hc hp0 hd0
 case' inr.inr.inr.inr.inr.inr.inr.inr.inr.inl =>
  obtain ⟨c,hc⟩:=(hid ((a_cut xs xn HE.out HN.out:Alike2 w0 A aw cap zs V m (m+42) 69 96 _ _).both (b:=w.heap.size) HE.out)).out
  obtain ⟨hp0,hd0⟩:=hc _ _ _ _ _ H.out HCb.out HDb.out HLb.out
  have HP0:=hid hp0
  have HD0:=hid hd0
  clear hc hp0 hd0
 case' inr.inr.inr.inr.inr.inr.inr.inr.inr.inr =>
  obtain ⟨c,hc⟩:=(hid ((a_deliver xn HE.out (by omega):Alike2 w0 A aw cap zs V m (m+42) 20 97 _ _).both (b:=w.heap.size) HE.out)).out
  obtain ⟨hp0,hd0⟩:=hc _ _ _ _ _ H.out HCb.out HDb.out HLb.out
  have HP0:=hid hp0
  have HD0:=hid hd0
  clear hc hp0 hd0
 all_goals
  obtain ⟨vc,HVC⟩:∃ vc,Hid (ev A c=vc):=⟨_,rfl⟩
  rw [HVC.out] at HP0 HD0
  go_enter Tryz.func41,Tryz.ntmps41
  go_wp2_with fail
  go_region_held3 (fun V=>V.cell? ⟨w.heap.size,0,none⟩=some (.string xk)∧V.cell? ⟨w.heap.size,1,none⟩=some (.int .i64 xs)∧V.cell? ⟨w.heap.size,2,none⟩=some (.int .i64 xd)∧V.cell? ⟨w.heap.size,3,none⟩=some (.int .i64 xn)) (go_keep) (first|((first|go_at_call 18|go_at_call 88|go_at_call 17|go_at_call 89|go_at_call 67|go_at_call 90|go_at_call 34|go_at_call 91|go_at_call 35|go_at_call 92|go_at_call 38|go_at_call 93|go_at_call 68|go_at_call 94|go_at_call 33|go_at_call 95|go_at_call 69|go_at_call 96|go_at_call 20|go_at_call 97); (first|((with_reducible refine HP0.out.mono ?_); rintro e w1 ⟨rfl,kc,hnx⟩; have HNx:=hid hnx; obtain ⟨q0,q1,q2,q3⟩:=kc.four HF.out; clear hnx kc)|((with_reducible refine HD0.out.mono ?_); rintro e w1 ⟨rfl,kc,hnx⟩; have HNx:=hid hnx; obtain ⟨q0,q1,q2,q3⟩:=kc.four HF.out; clear hnx kc)|((with_reducible refine HNx.out.mono ?_); rintro e w2 ⟨rfl,kc,hnx⟩; have HNy:=hid hnx; obtain ⟨r0,r1,r2,r3⟩:=kc.four HF.out; clear hnx kc)))|(go_at_call 39; (with_reducible refine HNy.out.mono ?_); rintro e w3 ⟨rfl,kc,hout⟩; have HO:=hid hout; obtain ⟨s0,s1,s2,s3⟩:=kc.four HF.out; clear hout kc))
  all_goals go_wp2_with fail
  all_goals go_ret
  all_goals exact ⟨rfl,HO.out⟩
end
theorem errW_le9 (zs:List Int):errW zs≤9:=by
 unfold errW
 repeat' split
 all_goals omega
theorem rErrN (v:Value) (zs:List Int) (n:Nat) (w:World) (hv:IsSl w v zs) (hn:errW zs=n) :
  Calls Tryz.prog 12 #[v] w fun e w'=>e=.returned (.int .i64 (n:Int))∧w'=w:=by
 subst hn; exact rErr_any v zs w hv
section
variable {w0 v0 w w1 w':World} {C D:Nat→Nat} {X:XB} {Y:YB} {aw:Option Addr} {cap m:Nat} {zs:List Int} {V:PX} {A:Nat→Addr}
theorem RW.rebase (h:RW v0 w D Y aw cap zs V m) (hb:Below w0.heap.size w0 w) (hs:w0.heap.size≤v0.heap.size) (hsl:IsSl w0 (.slice aw zs.length cap) zs):RW w0 w D Y aw cap zs V m:=by
 obtain ⟨L,b1,b2,b3⟩:=h.brk
 exact ⟨hb,h.row,hsl,h.ns,h.nds,⟨L,own_base b1 hs,b2,b3⟩,own_base h.fly hs,own_base h.evs hs,h.cx,h.cn,h.cb,h.cf,h.ce,h.lt,fun x hx=>Nat.le_trans hs (h.low x hx),h.inv⟩
theorem two_new (h:WD w0 w C X zs V m) (k:RW w w' D Y aw cap zs V m) (hsl:IsSl w0 (.slice aw zs.length cap) zs):Two w0 w' C X D Y aw cap zs V V m m:=by
 have hb:=k.bel
 refine ⟨h.later hb,k.rebase (h.bel.trans (hb.mono h.bel.size)) h.bel.size hsl,fun x hx=>?_⟩
 have h1:=h.lt x hx
 rcases Nat.lt_or_ge (D x) 2000 with q|q
 ·have:=k.low x q; omega
 ·exact q
def NewOk:Prop:=∀ (w:World) (aw:Option Addr) (cap:Nat) (zs:List Int),IsSl w (.slice aw zs.length cap) zs→errW zs=0 →
  Calls Tryz.prog 40 #[.slice aw zs.length cap] w fun e w'=>∃ C Y,e=.returned (.pointer (some ⟨Y.xb,0,none⟩))∧RW w w' C Y aw cap zs newX 0
end
theorem wsteps_any (hNew:NewOk) (A:Nat→Addr) (v:Value) (zs:List Int) (ad:Option Addr) (cap:Nat) (xs:List Step4) (w:World) (hE:Held9 w A) (hv:IsSl w v zs) (hx:SIn w ad xs) (hm:xs.length≤maxLen) :
  Calls Tryz.prog 7 #[v,.slice ad xs.length cap] w fun e w'=>e=.returned (.bool true)∧Below w.heap.size w w':=by
 unfold maxLen at hm
 have HE:=hid hE
 have HV:=hid hv
 have HX:=hid hx
 have HNw:=hid hNew
 obtain ⟨av,capv,rfl,hzm,-,-⟩:=hv
 unfold maxLen at hzm
 obtain ⟨n,HN⟩:∃ n,Hid (zs.length=n):=⟨_,rfl⟩
 obtain ⟨l,HL⟩:∃ l,Hid (xs.length=l):=⟨_,rfl⟩
 rw [HL.out] at hm ⊢
 rw [HN.out] at hzm ⊢
 clear hE hx hNew
 by_cases h30:30<n
 ·have e1:(30:Int)<(n:Int):=by omega
  go_enter Tryz.func7,Tryz.ntmps7
  go_wp2_with fail
  refine (born_any A w HE.out).mono ?_
  rintro e w1 ⟨rfl,hb⟩
  have HB1:=hid hb
  clear hb
  go_wp2_with fail
  go_ret
  exact ⟨rfl,HB1.out⟩
 ·have e1:¬ (30:Int)<(n:Int):=by omega
  by_cases h150:150<l
  ·have e2:(150:Int)<(l:Int):=by omega
   go_enter Tryz.func7,Tryz.ntmps7
   go_wp2_with fail
   refine (born_any A w HE.out).mono ?_
   rintro e w1 ⟨rfl,hb⟩
   have HB1:=hid hb
   clear hb
   go_wp2_with fail
   go_ret
   exact ⟨rfl,HB1.out⟩
  ·have e2:¬ (150:Int)<(l:Int):=by omega
   go_enter Tryz.func7,Tryz.ntmps7
   go_wp2_with fail
   refine (born_any A w HE.out).mono ?_
   rintro e w1 ⟨rfl,hb⟩
   have HB1:=hid hb
   have HOwn:=hid (ownInts_any _ zs w1 (HV.out.later hb) (by rw [HN.out]; omega))
   rw [HN.out] at HOwn
   clear hb
   go_wp2_with fail
   refine HOwn.out.mono ?_
   rintro e w2 ⟨v2,rfl,hv2,hb2⟩
   have HV2:=hid hv2
   have HB2:=hid (below_trans HB1.out hb2)
   clear hv2 hb2
   by_cases he:errW zs=0
   ·obtain ⟨n1,n7,-,-⟩:=errW_zero he
    rw [HN.out] at n1 n7
    have HEr:=hid he
    have HNewW:=hid (wnew_ok v2 HV2.out (HE.out.later HB2.out) he)
    clear he
    go_wp2_with fail
    refine HNewW.out.mono ?_
    rintro e w3 ⟨C,X,rfl,h3⟩
    have H3:=hid h3
    have HB3:=hid (below_trans HB2.out h3.bel)
    have HErr:=hid (rErrN (.slice av zs.length capv) zs 0 w3 (HV.out.later HB3.out) HEr.out)
    rw [HN.out] at HErr
    clear h3
    go_wp2_with fail
    refine HErr.out.mono ?_
    rintro e w4 ⟨rfl,hx4⟩
    subst w4
    have HMod:=hid (HNw.out w3 av capv zs (HV.out.later HB3.out) HEr.out)
    rw [HN.out] at HMod
    go_wp2_with fail
    refine HMod.out.mono ?_
    rintro e w4 ⟨D,Y,rfl,h4⟩
    have HT:=hid (two_new H3.out h4 (HV.out.later HB2.out))
    clear h4
    go_wp2_with fail
    go_loopw [10] (fun v wr=>∃ (k:Nat) (V:PX) (C':Nat→Nat) (X':XB) (D':Nat→Nat) (Y':YB),k≤l∧v=.int .i64 (k:Int)∧Hid (Two w2 wr C' X' D' Y' av capv zs V V (42 * k) (42 * k)∧X'.xb=X.xb∧Y'.xb=Y.xb)) (fun v _=>l - (intOf v).toNat)
    case atStart=>exact ⟨0,newX,C,X,D,Y,Nat.zero_le _,rfl,HT.out,rfl,rfl⟩
    case round =>
     obtain ⟨k,V,C1,X1,D1,Y1,hk,rfl,HI⟩:=hrel
     rename_i wr
     have HBr:=hid (below_trans HB2.out HI.out.1.wd.bel)
     by_cases hlt:k<l
     ·have hkl:k<xs.length:=by rw [HL.out]; exact hlt
      obtain ⟨hn9,b,o,rfl,y0,y1,y2,y3⟩:=(HX.out.later HBr.out) k hkl
      obtain ⟨⟨xk,xS,xD,xN⟩,HS⟩:∃ e,Hid (xs[k]'hkl=e):=⟨_,rfl⟩
      rw [HS.out] at y0 y1 y2 y3 hn9
      have HStep:=hid (step_any xk xS xD xN HI.out.1 (HE.out.later HB2.out) (by omega) hn9)
      rw [HI.out.2.1,HI.out.2.2] at HStep
      have hkI:(k:Int)<(l:Int):=by omega
      have htm:(k:Int).tmod 10=(k:Int) % 10:=rem_is (by omega)
      go_wp2_with fail
      refine HStep.out.mono ?_
      rintro e w5 ⟨rfl,V5,C5,X5,D5,Y5,t5,k5,k6⟩
      have HT5:Hid (Two w2 w5 C5 X5 D5 Y5 av capv zs V5 V5 (42 * (k+1)) (42 * (k+1))∧X5.xb=X.xb∧Y5.xb=Y.xb):=by
       refine ⟨?_,(key_xb k5).trans HI.out.2.1,(rkey_xb k6).trans HI.out.2.2⟩
       rw [show 42 * (k+1)=42 * k+42 by omega]; exact t5
      clear t5 k5 k6 y0 y1 y2 y3
      by_cases h10:(k:Int) % 10=0
      ·have h11:((k:Int) % 10 == 0)=true:=by simpa using h10
       have HAs:=hid (asWorld_any HT5.out.1.wd HT5.out.1.rw (HE.out.later HB2.out) (by omega))
       rw [HT5.out.2.1,HT5.out.2.2] at HAs
       clear h10
       go_wp2_with fail
       refine HAs.out.mono ?_
       rintro e w6 ⟨rfl,hb6⟩
       have HT6:=hid (HT5.out.1.later hb6)
       clear hb6
       go_wp2_with fail
       go_roundw
       case rel=>exact ⟨k+1,V5,C5,X5,D5,Y5,by omega,by go_num,HT6.out,HT5.out.2.1,HT5.out.2.2⟩
       case measure=>simp [intOf]; omega
      ·have h11:((k:Int) % 10 == 0)=false:=by simpa using h10
       clear h10
       go_wp2_with fail
       go_roundw
       case rel=>exact ⟨k+1,V5,C5,X5,D5,Y5,by omega,by go_num,HT5.out⟩
       case measure=>simp [intOf]; omega
     ·obtain rfl:k=l:=by omega
      have HAs:=hid (asWorld_any HI.out.1.wd HI.out.1.rw (HE.out.later HB2.out) (by omega))
      rw [HI.out.2.1,HI.out.2.2] at HAs
      go_wp2_with fail
      refine HAs.out.mono ?_
      rintro e w6 ⟨rfl,hb6⟩
      have HB6:=hid (below_trans HBr.out hb6)
      clear hb6
      go_wp2_with fail
      go_ret
      exact ⟨rfl,HB6.out⟩
   ·obtain ⟨c,hc⟩:∃ c,errW zs=c+1:=⟨errW zs - 1,by omega⟩
    have hc9:c+1≤9:=by rw [← hc]; exact errW_le9 zs
    have HNewW:=hid (wnew_err v2 c HV2.out (HE.out.later HB2.out) hc)
    have HErr:=hid (rErrN (.slice av zs.length capv) zs (c+1) w2 (HV.out.later HB2.out) hc)
    rw [HN.out] at HErr
    have HCo:=hid (coded_ev A (c+1) w2 (HE.out.later HB2.out) hc9)
    have hcp:(0:Int)<((c+1:Nat):Int):=by omega
    obtain ⟨c1,HC1⟩:∃ c1:Nat,Hid (c+1=c1):=⟨_,rfl⟩
    have HCo2:Hid (Calls Tryz.prog 39 #[.iface 276 (.pointer (some (A c))),.int .i64 ((c+1:Nat):Int)] w2 fun e w'=>e=.returned (.bool true)∧Below w2.heap.size w2 w'):=HCo.out
    rw [HC1.out] at HErr HCo2 hcp
    clear he hc hc9
    go_wp2_with fail
    refine HNewW.out.mono ?_
    rintro e w3 ⟨rfl,hx3⟩
    subst w3
    go_wp2_with fail
    refine HErr.out.mono ?_
    rintro e w3 ⟨rfl,hx3⟩
    subst w3
    go_wp2_with fail
    refine HCo2.out.mono ?_
    rintro e w3 ⟨rfl,hb3⟩
    have HB3:=hid (below_trans HB2.out hb3)
    clear hb3
    go_wp2_with fail
    go_ret
    exact ⟨rfl,HB3.out⟩
section
variable {Q:Exit→Act→World→Prop} {a0:Act} {w0 wr W W3:World} {C:Nat→Nat} {nv:Value} {K:Nat→RB} {aw:Option Addr} {cap k:Nat} {zs:List Int}
theorem nw_region (H:NwH Q a0 w0 wr W W3 C nv K aw cap k zs) (hz:a0.tmps.size=37) (e3:a0.eval (.tmp 3)=.pointer (some ⟨w0.heap.size,0,none⟩)) (e4:a0.eval (.tmp 4)=.int .i64 (k:Int)) (e5:a0.eval (.tmp 5)=.pointer (some ⟨W3.heap.size,0,none⟩)):(Code.region 6 nwOps true).wp Tryz.prog Q a0 W:=by
 have HQp:=hid H.qp
 have HH:=hid H
 have HZ0:=hid hz
 have HZ:=hid hz
 have m0:Sm a0 a0:=⟨rfl,rfl,fun _ _=>rfl⟩
 refine wp_region_any (by kernel_rfl) ?_
 clear H hz
 refine wpAny_take (i:=0) (oi:={ dst:=some 19,op:=Op.move (Operand.tmp 3),type:=69,pos:= "world.go:231",after:=#[],guard:=none }) (v:=(.pointer (some ⟨w0.heap.size,0,none⟩))) rfl (by kernel_rfl) (by kernel_rfl) (by kernel_rfl) (fun c a w h=>HQp.out c _ _ a w h) (Or.inl ⟨by rfl,?_⟩) ?_
 ·intro w
  have f0:=eval_form e3
  go_simp
 change wpAny _ _ _ _ _ _ (Act.put a0 (some 19) (.pointer (some ⟨w0.heap.size,0,none⟩))) _
 obtain ⟨b1,Hb1⟩:∃ x,Hid (x=Act.put a0 (some 19) (.pointer (some ⟨w0.heap.size,0,none⟩))):=⟨_,rfl⟩
 rw [← Hb1.out]
 have HZ1:Hid (b1.tmps.size=37):=by show b1.tmps.size=37; rw [Hb1.out,Act.size_put]; exact HZ0.out
 have m1:Sm a0 b1:=by rw [Hb1.out]; exact m0.put (by omega) (by omega)
 have e3:b1.eval (.tmp 3)=(.pointer (some ⟨w0.heap.size,0,none⟩)):=by rw [Hb1.out,Act.eval_put_ne _ _ _ _ (by decide)]; exact e3
 have e4:b1.eval (.tmp 4)=(.int .i64 (k:Int)):=by rw [Hb1.out,Act.eval_put_ne _ _ _ _ (by decide)]; exact e4
 have e5:b1.eval (.tmp 5)=(.pointer (some ⟨W3.heap.size,0,none⟩)):=by rw [Hb1.out,Act.eval_put_ne _ _ _ _ (by decide)]; exact e5
 have e19:b1.eval (.tmp 19)=(.pointer (some ⟨w0.heap.size,0,none⟩)):=by rw [Hb1.out]; exact Act.eval_put_same _ _ _ (by have:=HZ0.out; omega)
 clear Hb1
 refine wpAny_take (i:=1) (oi:={ dst:=some 20,op:=Op.move (Operand.tmp 3),type:=69,pos:= "world.go:231",after:=#[],guard:=none }) (v:=(.pointer (some ⟨w0.heap.size,0,none⟩))) rfl (by kernel_rfl) (by kernel_rfl) (by kernel_rfl) (fun c a w h=>HQp.out c _ _ a w h) (Or.inl ⟨by rfl,?_⟩) ?_
 ·intro w
  have f0:=eval_form e3
  go_simp
 change wpAny _ _ _ _ _ _ (Act.put b1 (some 20) (.pointer (some ⟨w0.heap.size,0,none⟩))) _
 obtain ⟨b2,Hb2⟩:∃ x,Hid (x=Act.put b1 (some 20) (.pointer (some ⟨w0.heap.size,0,none⟩))):=⟨_,rfl⟩
 rw [← Hb2.out]
 have HZ2:Hid (b2.tmps.size=37):=by show b2.tmps.size=37; rw [Hb2.out,Act.size_put]; exact HZ1.out
 have m2:Sm a0 b2:=by rw [Hb2.out]; exact m1.put (by omega) (by omega)
 have e3:b2.eval (.tmp 3)=(.pointer (some ⟨w0.heap.size,0,none⟩)):=by rw [Hb2.out,Act.eval_put_ne _ _ _ _ (by decide)]; exact e3
 have e4:b2.eval (.tmp 4)=(.int .i64 (k:Int)):=by rw [Hb2.out,Act.eval_put_ne _ _ _ _ (by decide)]; exact e4
 have e5:b2.eval (.tmp 5)=(.pointer (some ⟨W3.heap.size,0,none⟩)):=by rw [Hb2.out,Act.eval_put_ne _ _ _ _ (by decide)]; exact e5
 have e19:b2.eval (.tmp 19)=(.pointer (some ⟨w0.heap.size,0,none⟩)):=by rw [Hb2.out,Act.eval_put_ne _ _ _ _ (by decide)]; exact e19
 have e20:b2.eval (.tmp 20)=(.pointer (some ⟨w0.heap.size,0,none⟩)):=by rw [Hb2.out]; exact Act.eval_put_same _ _ _ (by have:=HZ1.out; omega)
 clear Hb2
 refine wpAny_take (i:=2) (oi:={ dst:=some 21,op:=Op.nilCheck (Operand.tmp 20),type:=0,pos:= "world.go:231",after:=#[{ on:=1,ground:=Ground.data }],guard:=none }) (v:=(.pointer (some ⟨w0.heap.size,0,none⟩))) rfl (by kernel_rfl) (by kernel_rfl) (by kernel_rfl) (fun c a w h=>HQp.out c _ _ a w h) (Or.inl ⟨by rfl,?_⟩) ?_
 ·intro w
  have f0:=eval_form e20
  go_simp
 change wpAny _ _ _ _ _ _ (Act.put b2 (some 21) (.pointer (some ⟨w0.heap.size,0,none⟩))) _
 obtain ⟨b3,Hb3⟩:∃ x,Hid (x=Act.put b2 (some 21) (.pointer (some ⟨w0.heap.size,0,none⟩))):=⟨_,rfl⟩
 rw [← Hb3.out]
 have HZ3:Hid (b3.tmps.size=37):=by show b3.tmps.size=37; rw [Hb3.out,Act.size_put]; exact HZ2.out
 have m3:Sm a0 b3:=by rw [Hb3.out]; exact m2.put (by omega) (by omega)
 have e3:b3.eval (.tmp 3)=(.pointer (some ⟨w0.heap.size,0,none⟩)):=by rw [Hb3.out,Act.eval_put_ne _ _ _ _ (by decide)]; exact e3
 have e4:b3.eval (.tmp 4)=(.int .i64 (k:Int)):=by rw [Hb3.out,Act.eval_put_ne _ _ _ _ (by decide)]; exact e4
 have e5:b3.eval (.tmp 5)=(.pointer (some ⟨W3.heap.size,0,none⟩)):=by rw [Hb3.out,Act.eval_put_ne _ _ _ _ (by decide)]; exact e5
 have e19:b3.eval (.tmp 19)=(.pointer (some ⟨w0.heap.size,0,none⟩)):=by rw [Hb3.out,Act.eval_put_ne _ _ _ _ (by decide)]; exact e19
 have e20:b3.eval (.tmp 20)=(.pointer (some ⟨w0.heap.size,0,none⟩)):=by rw [Hb3.out,Act.eval_put_ne _ _ _ _ (by decide)]; exact e20
 have e21:b3.eval (.tmp 21)=(.pointer (some ⟨w0.heap.size,0,none⟩)):=by rw [Hb3.out]; exact Act.eval_put_same _ _ _ (by have:=HZ2.out; omega)
 clear Hb3
 refine wpAny_take (i:=3) (oi:={ dst:=some 22,op:=Op.fieldAddr 147 (Operand.tmp 21) 1,type:=0,pos:= "world.go:231",after:=#[{ on:=2,ground:=Ground.data }],guard:=none }) (v:=(.pointer (some ⟨w0.heap.size,1,none⟩))) rfl (by kernel_rfl) (by kernel_rfl) (by kernel_rfl) (fun c a w h=>HQp.out c _ _ a w h) (Or.inl ⟨by rfl,?_⟩) ?_
 ·intro w
  have f0:=eval_form e21
  go_simp
 change wpAny _ _ _ _ _ _ (Act.put b3 (some 22) (.pointer (some ⟨w0.heap.size,1,none⟩))) _
 obtain ⟨b4,Hb4⟩:∃ x,Hid (x=Act.put b3 (some 22) (.pointer (some ⟨w0.heap.size,1,none⟩))):=⟨_,rfl⟩
 rw [← Hb4.out]
 have HZ4:Hid (b4.tmps.size=37):=by show b4.tmps.size=37; rw [Hb4.out,Act.size_put]; exact HZ3.out
 have m4:Sm a0 b4:=by rw [Hb4.out]; exact m3.put (by omega) (by omega)
 have e3:b4.eval (.tmp 3)=(.pointer (some ⟨w0.heap.size,0,none⟩)):=by rw [Hb4.out,Act.eval_put_ne _ _ _ _ (by decide)]; exact e3
 have e4:b4.eval (.tmp 4)=(.int .i64 (k:Int)):=by rw [Hb4.out,Act.eval_put_ne _ _ _ _ (by decide)]; exact e4
 have e5:b4.eval (.tmp 5)=(.pointer (some ⟨W3.heap.size,0,none⟩)):=by rw [Hb4.out,Act.eval_put_ne _ _ _ _ (by decide)]; exact e5
 have e19:b4.eval (.tmp 19)=(.pointer (some ⟨w0.heap.size,0,none⟩)):=by rw [Hb4.out,Act.eval_put_ne _ _ _ _ (by decide)]; exact e19
 have e20:b4.eval (.tmp 20)=(.pointer (some ⟨w0.heap.size,0,none⟩)):=by rw [Hb4.out,Act.eval_put_ne _ _ _ _ (by decide)]; exact e20
 have e21:b4.eval (.tmp 21)=(.pointer (some ⟨w0.heap.size,0,none⟩)):=by rw [Hb4.out,Act.eval_put_ne _ _ _ _ (by decide)]; exact e21
 have e22:b4.eval (.tmp 22)=(.pointer (some ⟨w0.heap.size,1,none⟩)):=by rw [Hb4.out]; exact Act.eval_put_same _ _ _ (by have:=HZ3.out; omega)
 clear Hb4
 refine wpAny_take (i:=5) (oi:={ dst:=some 24,op:=Op.move (Operand.tmp 4),type:=3,pos:= "world.go:231",after:=#[],guard:=none }) (v:=(.int .i64 (k:Int))) rfl (by kernel_rfl) (by kernel_rfl) (by kernel_rfl) (fun c a w h=>HQp.out c _ _ a w h) (Or.inl ⟨by rfl,?_⟩) ?_
 ·intro w
  have f0:=eval_form e4
  go_simp
 change wpAny _ _ _ _ _ _ (Act.put b4 (some 24) (.int .i64 (k:Int))) _
 obtain ⟨b5,Hb5⟩:∃ x,Hid (x=Act.put b4 (some 24) (.int .i64 (k:Int))):=⟨_,rfl⟩
 rw [← Hb5.out]
 have HZ5:Hid (b5.tmps.size=37):=by show b5.tmps.size=37; rw [Hb5.out,Act.size_put]; exact HZ4.out
 have m5:Sm a0 b5:=by rw [Hb5.out]; exact m4.put (by omega) (by omega)
 have e3:b5.eval (.tmp 3)=(.pointer (some ⟨w0.heap.size,0,none⟩)):=by rw [Hb5.out,Act.eval_put_ne _ _ _ _ (by decide)]; exact e3
 have e4:b5.eval (.tmp 4)=(.int .i64 (k:Int)):=by rw [Hb5.out,Act.eval_put_ne _ _ _ _ (by decide)]; exact e4
 have e5:b5.eval (.tmp 5)=(.pointer (some ⟨W3.heap.size,0,none⟩)):=by rw [Hb5.out,Act.eval_put_ne _ _ _ _ (by decide)]; exact e5
 have e19:b5.eval (.tmp 19)=(.pointer (some ⟨w0.heap.size,0,none⟩)):=by rw [Hb5.out,Act.eval_put_ne _ _ _ _ (by decide)]; exact e19
 have e20:b5.eval (.tmp 20)=(.pointer (some ⟨w0.heap.size,0,none⟩)):=by rw [Hb5.out,Act.eval_put_ne _ _ _ _ (by decide)]; exact e20
 have e21:b5.eval (.tmp 21)=(.pointer (some ⟨w0.heap.size,0,none⟩)):=by rw [Hb5.out,Act.eval_put_ne _ _ _ _ (by decide)]; exact e21
 have e22:b5.eval (.tmp 22)=(.pointer (some ⟨w0.heap.size,1,none⟩)):=by rw [Hb5.out,Act.eval_put_ne _ _ _ _ (by decide)]; exact e22
 have e24:b5.eval (.tmp 24)=(.int .i64 (k:Int)):=by rw [Hb5.out]; exact Act.eval_put_same _ _ _ (by have:=HZ4.out; omega)
 clear Hb5
 refine wpAny_take (i:=6) (oi:={ dst:=some 25,op:=Op.move (Operand.tmp 5),type:=148,pos:= "world.go:231",after:=#[],guard:=none }) (v:=(.pointer (some ⟨W3.heap.size,0,none⟩))) rfl (by kernel_rfl) (by kernel_rfl) (by kernel_rfl) (fun c a w h=>HQp.out c _ _ a w h) (Or.inl ⟨by rfl,?_⟩) ?_
 ·intro w
  have f0:=eval_form e5
  go_simp
 change wpAny _ _ _ _ _ _ (Act.put b5 (some 25) (.pointer (some ⟨W3.heap.size,0,none⟩))) _
 obtain ⟨b6,Hb6⟩:∃ x,Hid (x=Act.put b5 (some 25) (.pointer (some ⟨W3.heap.size,0,none⟩))):=⟨_,rfl⟩
 rw [← Hb6.out]
 have HZ6:Hid (b6.tmps.size=37):=by show b6.tmps.size=37; rw [Hb6.out,Act.size_put]; exact HZ5.out
 have m6:Sm a0 b6:=by rw [Hb6.out]; exact m5.put (by omega) (by omega)
 have e3:b6.eval (.tmp 3)=(.pointer (some ⟨w0.heap.size,0,none⟩)):=by rw [Hb6.out,Act.eval_put_ne _ _ _ _ (by decide)]; exact e3
 have e4:b6.eval (.tmp 4)=(.int .i64 (k:Int)):=by rw [Hb6.out,Act.eval_put_ne _ _ _ _ (by decide)]; exact e4
 have e5:b6.eval (.tmp 5)=(.pointer (some ⟨W3.heap.size,0,none⟩)):=by rw [Hb6.out,Act.eval_put_ne _ _ _ _ (by decide)]; exact e5
 have e19:b6.eval (.tmp 19)=(.pointer (some ⟨w0.heap.size,0,none⟩)):=by rw [Hb6.out,Act.eval_put_ne _ _ _ _ (by decide)]; exact e19
 have e20:b6.eval (.tmp 20)=(.pointer (some ⟨w0.heap.size,0,none⟩)):=by rw [Hb6.out,Act.eval_put_ne _ _ _ _ (by decide)]; exact e20
 have e21:b6.eval (.tmp 21)=(.pointer (some ⟨w0.heap.size,0,none⟩)):=by rw [Hb6.out,Act.eval_put_ne _ _ _ _ (by decide)]; exact e21
 have e22:b6.eval (.tmp 22)=(.pointer (some ⟨w0.heap.size,1,none⟩)):=by rw [Hb6.out,Act.eval_put_ne _ _ _ _ (by decide)]; exact e22
 have e24:b6.eval (.tmp 24)=(.int .i64 (k:Int)):=by rw [Hb6.out,Act.eval_put_ne _ _ _ _ (by decide)]; exact e24
 have e25:b6.eval (.tmp 25)=(.pointer (some ⟨W3.heap.size,0,none⟩)):=by rw [Hb6.out]; exact Act.eval_put_same _ _ _ (by have:=HZ5.out; omega)
 clear Hb6
 refine wpAny_take (i:=8) (oi:={ dst:=some 27,op:=Op.move (Operand.tmp 5),type:=148,pos:= "world.go:231",after:=#[],guard:=none }) (v:=(.pointer (some ⟨W3.heap.size,0,none⟩))) rfl (by kernel_rfl) (by kernel_rfl) (by kernel_rfl) (fun c a w h=>HQp.out c _ _ a w h) (Or.inl ⟨by rfl,?_⟩) ?_
 ·intro w
  have f0:=eval_form e5
  go_simp
 change wpAny _ _ _ _ _ _ (Act.put b6 (some 27) (.pointer (some ⟨W3.heap.size,0,none⟩))) _
 obtain ⟨b7,Hb7⟩:∃ x,Hid (x=Act.put b6 (some 27) (.pointer (some ⟨W3.heap.size,0,none⟩))):=⟨_,rfl⟩
 rw [← Hb7.out]
 have HZ7:Hid (b7.tmps.size=37):=by show b7.tmps.size=37; rw [Hb7.out,Act.size_put]; exact HZ6.out
 have m7:Sm a0 b7:=by rw [Hb7.out]; exact m6.put (by omega) (by omega)
 have e3:b7.eval (.tmp 3)=(.pointer (some ⟨w0.heap.size,0,none⟩)):=by rw [Hb7.out,Act.eval_put_ne _ _ _ _ (by decide)]; exact e3
 have e4:b7.eval (.tmp 4)=(.int .i64 (k:Int)):=by rw [Hb7.out,Act.eval_put_ne _ _ _ _ (by decide)]; exact e4
 have e5:b7.eval (.tmp 5)=(.pointer (some ⟨W3.heap.size,0,none⟩)):=by rw [Hb7.out,Act.eval_put_ne _ _ _ _ (by decide)]; exact e5
 have e19:b7.eval (.tmp 19)=(.pointer (some ⟨w0.heap.size,0,none⟩)):=by rw [Hb7.out,Act.eval_put_ne _ _ _ _ (by decide)]; exact e19
 have e20:b7.eval (.tmp 20)=(.pointer (some ⟨w0.heap.size,0,none⟩)):=by rw [Hb7.out,Act.eval_put_ne _ _ _ _ (by decide)]; exact e20
 have e21:b7.eval (.tmp 21)=(.pointer (some ⟨w0.heap.size,0,none⟩)):=by rw [Hb7.out,Act.eval_put_ne _ _ _ _ (by decide)]; exact e21
 have e22:b7.eval (.tmp 22)=(.pointer (some ⟨w0.heap.size,1,none⟩)):=by rw [Hb7.out,Act.eval_put_ne _ _ _ _ (by decide)]; exact e22
 have e24:b7.eval (.tmp 24)=(.int .i64 (k:Int)):=by rw [Hb7.out,Act.eval_put_ne _ _ _ _ (by decide)]; exact e24
 have e25:b7.eval (.tmp 25)=(.pointer (some ⟨W3.heap.size,0,none⟩)):=by rw [Hb7.out,Act.eval_put_ne _ _ _ _ (by decide)]; exact e25
 have e27:b7.eval (.tmp 27)=(.pointer (some ⟨W3.heap.size,0,none⟩)):=by rw [Hb7.out]; exact Act.eval_put_same _ _ _ (by have:=HZ6.out; omega)
 clear Hb7
 exact nw_0000 (t:=0) (mm:=0) (gn:=0) (gs:=0) (gb:=0) (ls:=0) (dn:=0) HH.out ⟨m7,HZ0.out,e19,e22,e24,e25,e27,(Below.refl _ W).drew,fun q=>(by cases q),fun q=>(by cases q),fun q=>(by cases q),fun q=>(by cases q),fun q=>(by cases q),fun q=>(by cases q),fun q=>(by cases q)⟩
end
theorem arr37 (ts:Array Value) (h:ts.size=37):∃ x0 x1 x2 x3 x4 x5 x6 x7 x8 x9 x10 x11 x12 x13 x14 x15 x16 x17 x18 x19 x20 x21 x22 x23 x24 x25 x26 x27 x28 x29 x30 x31 x32 x33 x34 x35 x36:Value,ts=#[x0,x1,x2,x3,x4,x5,x6,x7,x8,x9,x10,x11,x12,x13,x14,x15,x16,x17,x18,x19,x20,x21,x22,x23,x24,x25,x26,x27,x28,x29,x30,x31,x32,x33,x34,x35,x36]:=by
 obtain ⟨l⟩:=ts
 have hl:l.length=37:=h
 obtain ⟨x0,l,rfl⟩:∃ x m,l=x :: m:=List.exists_cons_of_length_pos (by omega)
 simp only [List.length_cons] at hl
 obtain ⟨x1,l,rfl⟩:∃ x m,l=x :: m:=List.exists_cons_of_length_pos (by omega)
 simp only [List.length_cons] at hl
 obtain ⟨x2,l,rfl⟩:∃ x m,l=x :: m:=List.exists_cons_of_length_pos (by omega)
 simp only [List.length_cons] at hl
 obtain ⟨x3,l,rfl⟩:∃ x m,l=x :: m:=List.exists_cons_of_length_pos (by omega)
 simp only [List.length_cons] at hl
 obtain ⟨x4,l,rfl⟩:∃ x m,l=x :: m:=List.exists_cons_of_length_pos (by omega)
 simp only [List.length_cons] at hl
 obtain ⟨x5,l,rfl⟩:∃ x m,l=x :: m:=List.exists_cons_of_length_pos (by omega)
 simp only [List.length_cons] at hl
 obtain ⟨x6,l,rfl⟩:∃ x m,l=x :: m:=List.exists_cons_of_length_pos (by omega)
 simp only [List.length_cons] at hl
 obtain ⟨x7,l,rfl⟩:∃ x m,l=x :: m:=List.exists_cons_of_length_pos (by omega)
 simp only [List.length_cons] at hl
 obtain ⟨x8,l,rfl⟩:∃ x m,l=x :: m:=List.exists_cons_of_length_pos (by omega)
 simp only [List.length_cons] at hl
 obtain ⟨x9,l,rfl⟩:∃ x m,l=x :: m:=List.exists_cons_of_length_pos (by omega)
 simp only [List.length_cons] at hl
 obtain ⟨x10,l,rfl⟩:∃ x m,l=x :: m:=List.exists_cons_of_length_pos (by omega)
 simp only [List.length_cons] at hl
 obtain ⟨x11,l,rfl⟩:∃ x m,l=x :: m:=List.exists_cons_of_length_pos (by omega)
 simp only [List.length_cons] at hl
 obtain ⟨x12,l,rfl⟩:∃ x m,l=x :: m:=List.exists_cons_of_length_pos (by omega)
 simp only [List.length_cons] at hl
 obtain ⟨x13,l,rfl⟩:∃ x m,l=x :: m:=List.exists_cons_of_length_pos (by omega)
 simp only [List.length_cons] at hl
 obtain ⟨x14,l,rfl⟩:∃ x m,l=x :: m:=List.exists_cons_of_length_pos (by omega)
 simp only [List.length_cons] at hl
 obtain ⟨x15,l,rfl⟩:∃ x m,l=x :: m:=List.exists_cons_of_length_pos (by omega)
 simp only [List.length_cons] at hl
 obtain ⟨x16,l,rfl⟩:∃ x m,l=x :: m:=List.exists_cons_of_length_pos (by omega)
 simp only [List.length_cons] at hl
 obtain ⟨x17,l,rfl⟩:∃ x m,l=x :: m:=List.exists_cons_of_length_pos (by omega)
 simp only [List.length_cons] at hl
 obtain ⟨x18,l,rfl⟩:∃ x m,l=x :: m:=List.exists_cons_of_length_pos (by omega)
 simp only [List.length_cons] at hl
 obtain ⟨x19,l,rfl⟩:∃ x m,l=x :: m:=List.exists_cons_of_length_pos (by omega)
 simp only [List.length_cons] at hl
 obtain ⟨x20,l,rfl⟩:∃ x m,l=x :: m:=List.exists_cons_of_length_pos (by omega)
 simp only [List.length_cons] at hl
 obtain ⟨x21,l,rfl⟩:∃ x m,l=x :: m:=List.exists_cons_of_length_pos (by omega)
 simp only [List.length_cons] at hl
 obtain ⟨x22,l,rfl⟩:∃ x m,l=x :: m:=List.exists_cons_of_length_pos (by omega)
 simp only [List.length_cons] at hl
 obtain ⟨x23,l,rfl⟩:∃ x m,l=x :: m:=List.exists_cons_of_length_pos (by omega)
 simp only [List.length_cons] at hl
 obtain ⟨x24,l,rfl⟩:∃ x m,l=x :: m:=List.exists_cons_of_length_pos (by omega)
 simp only [List.length_cons] at hl
 obtain ⟨x25,l,rfl⟩:∃ x m,l=x :: m:=List.exists_cons_of_length_pos (by omega)
 simp only [List.length_cons] at hl
 obtain ⟨x26,l,rfl⟩:∃ x m,l=x :: m:=List.exists_cons_of_length_pos (by omega)
 simp only [List.length_cons] at hl
 obtain ⟨x27,l,rfl⟩:∃ x m,l=x :: m:=List.exists_cons_of_length_pos (by omega)
 simp only [List.length_cons] at hl
 obtain ⟨x28,l,rfl⟩:∃ x m,l=x :: m:=List.exists_cons_of_length_pos (by omega)
 simp only [List.length_cons] at hl
 obtain ⟨x29,l,rfl⟩:∃ x m,l=x :: m:=List.exists_cons_of_length_pos (by omega)
 simp only [List.length_cons] at hl
 obtain ⟨x30,l,rfl⟩:∃ x m,l=x :: m:=List.exists_cons_of_length_pos (by omega)
 simp only [List.length_cons] at hl
 obtain ⟨x31,l,rfl⟩:∃ x m,l=x :: m:=List.exists_cons_of_length_pos (by omega)
 simp only [List.length_cons] at hl
 obtain ⟨x32,l,rfl⟩:∃ x m,l=x :: m:=List.exists_cons_of_length_pos (by omega)
 simp only [List.length_cons] at hl
 obtain ⟨x33,l,rfl⟩:∃ x m,l=x :: m:=List.exists_cons_of_length_pos (by omega)
 simp only [List.length_cons] at hl
 obtain ⟨x34,l,rfl⟩:∃ x m,l=x :: m:=List.exists_cons_of_length_pos (by omega)
 simp only [List.length_cons] at hl
 obtain ⟨x35,l,rfl⟩:∃ x m,l=x :: m:=List.exists_cons_of_length_pos (by omega)
 simp only [List.length_cons] at hl
 obtain ⟨x36,l,rfl⟩:∃ x m,l=x :: m:=List.exists_cons_of_length_pos (by omega)
 simp only [List.length_cons] at hl
 obtain rfl:l=[]:=List.eq_nil_of_length_eq_zero (by omega)
 exact ⟨x0,x1,x2,x3,x4,x5,x6,x7,x8,x9,x10,x11,x12,x13,x14,x15,x16,x17,x18,x19,x20,x21,x22,x23,x24,x25,x26,x27,x28,x29,x30,x31,x32,x33,x34,x35,x36,rfl⟩
section
variable {w0 w w1 w':World} {C C':Nat→Nat} {aw:Option Addr} {cap k:Nat} {zs:List Int}
theorem rwnew_ok (hs:IsSl w (.slice aw zs.length cap) zs) (he:errW zs=0) :
  Calls Tryz.prog 40 #[.slice aw zs.length cap] w fun e w'=>∃ C Y,e=.returned (.pointer (some ⟨Y.xb,0,none⟩))∧RW w w' C Y aw cap zs newX 0:=by
 obtain ⟨n1,n7,-⟩:=errW_zero he
 have HSl:=hid hs
 have HE:=hid he
 obtain ⟨z,hz⟩:∃ z,Hid (zs.length=z):=⟨_,rfl⟩
 rw [hz.out] at n1 n7 ⊢
 obtain ⟨W1,HW1⟩:∃ W1,Hid (w.alloc (.cells #[.slice aw z cap,.slice none 0 0,.slice none 0 0,.slice none 0 0,.slice none 0 0] 147)=W1):=⟨_,rfl⟩
 have hW1:=HW1.out
 have HB1:Hid (Below w.heap.size w W1):=by rw [← HW1.out]; exact (Below.refl _ _).alloc (Nat.le_refl _) _
 have HR1:Hid (W1.heap[w.heap.size]? = some (.cells #[.slice aw zs.length cap,.slice none 0 0,.slice none 0 0,.slice none 0 0,.slice none 0 0] 147 (0,0))):=by rw [← HW1.out,hz.out]; exact heap_alloc_new w _
 have hmk:∀ w,(Instr.makeSlice 149 (.int .i64 512) (.int .i64 512)).run Tryz.prog w=.ok (.slice (some ⟨w.heap.size,0,none⟩) 512 512) (w.alloc (.cells (cellsB (zeroB 512)) 5)):=mkB 512 (by omega)
 have hmL:=mkRL
 have hmD:=mkBo
 clear hs he
 go_enter Tryz.func40,Tryz.ntmps40
 go_wp2_with fail
 go_loopw [4] (fun v wr=>∃ k:Nat,k≤z∧v=.int .i64 (k:Int)∧∃ C nv K,RWN w wr C w.heap.size nv K aw cap zs k) (fun v _=>z - (intOf v).toNat)
 case atStart =>
  have hsz:W1.heap.size=w.heap.size+1:=by rw [← HW1.out]; simp
  refine ⟨0,Nat.zero_le _,rfl,fun x=>if x=w.heap.size then 1001 else 2000,.slice none 0 0,fun _=>newRK 0 0 0 0 0 0 0 0 0,⟨HB1.out,HR1.out,World.ownsRow_nil _ _ _ _,fun i hi=>(by omega),if_pos rfl,fun g hg=>(by cases hg),fun x hx=>?_,fun x hx=>?_⟩⟩
  ·by_cases e:x=w.heap.size
   ·omega
   ·rw [if_neg e] at hx; omega
  ·by_cases e:x=w.heap.size
   ·omega
   ·rw [if_neg e] at hx; omega
 case round =>
  obtain ⟨k,hk,rfl,C,nv,K,hN⟩:=hrel
  rename_i wr
  have HN:=hid hN
  clear hN
  by_cases hlt:k<z
  ·obtain ⟨W3,HW3⟩:∃ W3,Hid ((wr.alloc (.cells (cellsB (zeroB 512)) 5))=W3):=⟨_,rfl⟩
   have hcv:(convert 149 9 (.slice (some ⟨wr.heap.size,0,none⟩) 512 512)).run Tryz.prog W3=.ok (.string (zeroB 512)) W3:=conv_z (by rw [← HW3.out]; exact heap_alloc_new wr _)
   have hW3:=HW3.out
   obtain ⟨W,HW⟩:∃ W,Hid (W3.alloc (.cells #[.string (zeroB 512),.bool false,.int .i64 0,.bool false] 151)=W):=⟨_,rfl⟩
   have hW:=HW.out
   have HB:Hid (Below wr.heap.size wr W):=by rw [← HW.out,← HW3.out]; exact ((Below.refl _ _).alloc (Nat.le_refl _) _).alloc (by simp) _
   have HRP:Hid (RP W W3.heap.size (zeroB 512) false 0 false):=by rw [← HW.out]; exact heap_alloc_new W3 _
   have HS3:Hid (W3.heap.size=wr.heap.size+1∧W.heap.size=wr.heap.size+2):=by
    have a1:W3.heap.size=wr.heap.size+1:=by rw [← HW3.out]; simp
    exact ⟨a1,by rw [← HW.out]; simp [a1]⟩
   go_wp2_with fail
   refine nw_region (w0:=w) (wr:=wr) (W:=W) (W3:=W3) (C:=C) (nv:=nv) (K:=K) (aw:=aw) (cap:=cap) (k:=k) (zs:=zs) ⟨HN.out,by omega,HB.out,HRP.out,HS3.out,fun a' w5 g5 c5 hsm hrw=>?_,fun c d v a w h=>h⟩ rfl rfl rfl rfl
   obtain ⟨ts,ds⟩:=a'
   obtain ⟨hs1,hs2,hs3⟩:=hsm
   obtain ⟨x0,x1,x2,x3,x4,x5,x6,x7,x8,x9,x10,x11,x12,x13,x14,x15,x16,x17,x18,x19,x20,x21,x22,x23,x24,x25,x26,x27,x28,x29,x30,x31,x32,x33,x34,x35,x36,rfl⟩:=arr37 ts hs1
   obtain rfl:ds=[]:=hs2
   obtain rfl:x0=.slice aw z cap:=hs3 0 (by omega)
   obtain rfl:x1=undef:=hs3 1 (by omega)
   obtain rfl:x2=.pointer none:=hs3 2 (by omega)
   obtain rfl:x3=.pointer (some ⟨w.heap.size,0,none⟩):=hs3 3 (by omega)
   obtain rfl:x4=.int .i64 (k:Int):=hs3 4 (by omega)
   obtain rfl:x5=.pointer (some ⟨W3.heap.size,0,none⟩):=hs3 5 (by omega)
   obtain rfl:x6=.slice aw z cap:=hs3 6 (by omega)
   obtain rfl:x7=.agg #[.slice aw z cap,.slice none 0 0,.slice none 0 0,.slice none 0 0,.slice none 0 0]:=hs3 7 (by omega)
   obtain rfl:x8=.pointer (some ⟨w.heap.size,0,none⟩):=hs3 8 (by omega)
   obtain rfl:x9=.int .i64 (k:Int):=hs3 9 (by omega)
   obtain rfl:x10=.slice aw z cap:=hs3 10 (by omega)
   obtain rfl:x11=.int .i64 (z:Int):=hs3 11 (by omega)
   obtain rfl:x12=.bool true:=hs3 12 (by omega)
   obtain rfl:x15=.slice (some ⟨wr.heap.size,0,none⟩) 512 512:=hs3 15 (by omega)
   obtain rfl:x16=.string (zeroB 512):=hs3 16 (by omega)
   obtain rfl:x17=.agg #[.string (zeroB 512),.bool false,.int .i64 0,.bool false]:=hs3 17 (by omega)
   obtain rfl:x18=.pointer (some ⟨W3.heap.size,0,none⟩):=hs3 18 (by omega)
   obtain rfl:x36=undef:=hs3 36 (by omega)
   clear hs1 hs3
   have HRw2:=hid hrw
   clear hrw
   go_wp2_with fail
   go_roundw
   case rel=>exact ⟨k+1,by omega,by go_num,by obtain ⟨C',K',h'⟩:=HRw2.out; exact ⟨C',_,K',h'⟩⟩
   case measure=>simp [intOf]; omega
  ·obtain rfl:k=z:=by omega
   have hN:=HN.out
   rw [← hz.out] at hN
   obtain ⟨Y,hx,hY⟩:=hN.done HE.out HSl.out
   have HY:=hid (And.intro hx hY)
   clear hN hx hY
   go_wp2_with fail
   go_ret
   refine ⟨C,Y,?_,HY.out.2⟩
   rw [HY.out.1]; rfl
end
end Go.Proofs.YtadhpkopkkjmfaaGreatDoor
