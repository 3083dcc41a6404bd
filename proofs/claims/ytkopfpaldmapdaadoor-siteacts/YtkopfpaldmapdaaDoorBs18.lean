/-
  On the way to SActsProof: RE.
-/
import Derived.Test.YtkopfpaldmapdaaDoorBs15
set_option maxHeartbeats 8000000
set_option maxRecDepth 100000
namespace Go.Proofs.YtkopfpaldmapdaaDoor
open Go.RowKit
theorem rferr_bad (f t d k a:Int) (y:Bool) (ph pr pa:Int) (w:World) (h:¬ frOk f t d k a ph pr pa) :
  Calls Tryd.prog 47 #[frV f t d k a y ph pr pa] w fun e w'=>e=.returned (.int .i64 2)∧Below w.heap.size w w':=by
 obtain ⟨W,HW⟩:∃ W,Hid (w.alloc (.cells #[.int .i64 f,.int .i64 t,.int .i64 d,.int .i64 k,.int .i64 a,.bool y,.int .i64 ph,.int .i64 pr,.int .i64 pa] 36)=W):=⟨_,rfl⟩
 have HB:Hid (Below w.heap.size w W):=by rw [← HW.out]; exact (Below.refl _ _).alloc (Nat.le_refl _) _
 have HR:Hid (W.heap[w.heap.size]? = some (.cells #[.int .i64 f,.int .i64 t,.int .i64 d,.int .i64 k,.int .i64 a,.bool y,.int .i64 ph,.int .i64 pr,.int .i64 pa] 36 (0,0))):=by rw [← HW.out]; exact heap_alloc_new w _
 have HK:=hid h
 obtain ⟨c0,c1,c2,c3,c4,c5,c6,c7,c8⟩:=nine HR.out
 have hW:=HW.out
 clear h
 by_cases g0:f<0
 ·clear HK
  go_enter Tryd.func47,Tryd.ntmps47
  go_wp2_with fail
  go_ret
  exact ⟨rfl,HB.out⟩
 by_cases g1:7≤f
 ·clear HK
  go_enter Tryd.func47,Tryd.ntmps47
  go_wp2_with fail
  go_ret
  exact ⟨rfl,HB.out⟩
 by_cases g2:t<0
 ·clear HK
  go_enter Tryd.func47,Tryd.ntmps47
  go_wp2_with fail
  go_ret
  exact ⟨rfl,HB.out⟩
 by_cases g3:7≤t
 ·clear HK
  go_enter Tryd.func47,Tryd.ntmps47
  go_wp2_with fail
  go_ret
  exact ⟨rfl,HB.out⟩
 by_cases g4:d<0
 ·clear HK
  go_enter Tryd.func47,Tryd.ntmps47
  go_wp2_with fail
  go_ret
  exact ⟨rfl,HB.out⟩
 by_cases g5:6≤d
 ·clear HK
  go_enter Tryd.func47,Tryd.ntmps47
  go_wp2_with fail
  go_ret
  exact ⟨rfl,HB.out⟩
 by_cases g6:k<1
 ·clear HK
  go_enter Tryd.func47,Tryd.ntmps47
  go_wp2_with fail
  go_ret
  exact ⟨rfl,HB.out⟩
 by_cases g7:7<k
 ·clear HK
  go_enter Tryd.func47,Tryd.ntmps47
  go_wp2_with fail
  go_ret
  exact ⟨rfl,HB.out⟩
 by_cases g8:a<0
 ·clear HK
  go_enter Tryd.func47,Tryd.ntmps47
  go_wp2_with fail
  go_ret
  exact ⟨rfl,HB.out⟩
 by_cases g9:1048576<a
 ·clear HK
  go_enter Tryd.func47,Tryd.ntmps47
  go_wp2_with fail
  go_ret
  exact ⟨rfl,HB.out⟩
 by_cases g10:pr<0
 ·clear HK
  go_enter Tryd.func47,Tryd.ntmps47
  go_wp2_with fail
  go_ret
  exact ⟨rfl,HB.out⟩
 by_cases g11:1048576<pr
 ·clear HK
  go_enter Tryd.func47,Tryd.ntmps47
  go_wp2_with fail
  go_ret
  exact ⟨rfl,HB.out⟩
 by_cases g12:pa<0
 ·clear HK
  go_enter Tryd.func47,Tryd.ntmps47
  go_wp2_with fail
  go_ret
  exact ⟨rfl,HB.out⟩
 by_cases g13:1048576<pa
 ·clear HK
  go_enter Tryd.func47,Tryd.ntmps47
  go_wp2_with fail
  go_ret
  exact ⟨rfl,HB.out⟩
 by_cases g14:ph<0
 ·clear HK
  go_enter Tryd.func47,Tryd.ntmps47
  go_wp2_with fail
  go_ret
  exact ⟨rfl,HB.out⟩
 by_cases g15:5<ph
 ·clear HK
  go_enter Tryd.func47,Tryd.ntmps47
  go_wp2_with fail
  go_ret
  exact ⟨rfl,HB.out⟩
 exfalso
 apply HK.out
 unfold frOk stOk
 omega
theorem rferr_ok (f t d k a:Int) (y:Bool) (ph pr pa:Int) (w:World) (h:frOk f t d k a ph pr pa) :
  Calls Tryd.prog 47 #[frV f t d k a y ph pr pa] w fun e w'=>e=.returned (.int .i64 0)∧Below w.heap.size w w':=by
 obtain ⟨W,HW⟩:∃ W,Hid (w.alloc (.cells #[.int .i64 f,.int .i64 t,.int .i64 d,.int .i64 k,.int .i64 a,.bool y,.int .i64 ph,.int .i64 pr,.int .i64 pa] 36)=W):=⟨_,rfl⟩
 have HB:Hid (Below w.heap.size w W):=by rw [← HW.out]; exact (Below.refl _ _).alloc (Nat.le_refl _) _
 have HR:Hid (W.heap[w.heap.size]? = some (.cells #[.int .i64 f,.int .i64 t,.int .i64 d,.int .i64 k,.int .i64 a,.bool y,.int .i64 ph,.int .i64 pr,.int .i64 pa] 36 (0,0))):=by rw [← HW.out]; exact heap_alloc_new w _
 obtain ⟨c0,c1,c2,c3,c4,c5,c6,c7,c8⟩:=nine HR.out
 have hW:=HW.out
 obtain ⟨⟨k0,k1⟩,⟨k2,k3⟩,⟨k4,k5⟩,⟨k6,k7⟩,⟨k8,k9⟩,⟨k10,k11⟩,⟨k12,k13⟩,⟨k14,k15⟩⟩:=h
 go_enter Tryd.func47,Tryd.ntmps47
 go_wp2_with fail
 go_ret
 exact ⟨rfl,HB.out⟩
end Go.Proofs.YtkopfpaldmapdaaDoor
