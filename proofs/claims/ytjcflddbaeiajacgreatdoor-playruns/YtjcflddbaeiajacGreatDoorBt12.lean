/-
  On the way to PRunsProof: L4 L5 L6.
-/
import Derived.Test.YtjcflddbaeiajacGreatDoorBt7
import Derived.Test.YtjcflddbaeiajacGreatDoorBt1
set_option maxHeartbeats 8000000
set_option maxRecDepth 100000
namespace Go.Proofs.YtjcflddbaeiajacGreatDoor
open Go.RowKit
def stB (k:Nat):ByteArray:=if k=0 then ⟨#[97,115,107,105,110,103]⟩ else if k=1 then ⟨#[112,114,101,112,97,114,105,110,103]⟩ else if k=2 then ⟨#[100,111,110,101]⟩ else ⟨#[114,101,102,117,115,101,100]⟩
theorem stB0:stB 0=⟨#[97,115,107,105,110,103]⟩:=rfl
theorem stB1:stB 1=⟨#[112,114,101,112,97,114,105,110,103]⟩:=rfl
theorem stB2:stB 2=⟨#[100,111,110,101]⟩:=rfl
theorem stB3:stB 3=⟨#[114,101,102,117,115,101,100]⟩:=rfl
section
variable {w w':World} {lb id n cap:Nat} {deal att:Int} {aw:Option Addr} {st:ByteArray} {wait:Int} {vh:Value} {hs:List F9} {ph seen:Int}
theorem RLd.ownSet (h:RLd w lb id n cap deal att aw st wait vh hs ph seen) (i:Nat) (v:Value):(w.setCell ⟨lb,i,none⟩ v).ownsRow (lb+1) 144 9 vh hs.length (frCells hs):=by
 refine ⟨h.own.1,?_⟩
 rcases h.own.2 with hn|⟨g,cap,cur,rfl,hb',hgg,rest⟩
 ·exact .inl hn
 ·exact .inr ⟨g,cap,cur,rfl,hb',(heap_setCell_other _ _ _ _ (by show g≠lb; omega)).trans hgg,rest⟩
theorem RLd.setSt (h:RLd w lb id n cap deal att aw st wait vh hs ph seen) (x:ByteArray):RLd (w.setCell ⟨lb,4,none⟩ (.string x)) lb id n cap deal att aw x wait vh hs ph seen :=
 ⟨by rw [heap_setCell_same w lb 4 _ _ _ h.row]; rfl,h.ownSet 4 _⟩
theorem RLd.setWait (h:RLd w lb id n cap deal att aw st wait vh hs ph seen) (x:Int):RLd (w.setCell ⟨lb,5,none⟩ (.int .i64 x)) lb id n cap deal att aw st x vh hs ph seen :=
 ⟨by rw [heap_setCell_same w lb 5 _ _ _ h.row]; rfl,h.ownSet 5 _⟩
theorem RLd.setNone (h:RLd w lb id n cap deal att aw st wait vh hs ph seen):RLd (w.setCell ⟨lb,6,none⟩ (.slice none 0 0)) lb id n cap deal att aw st wait (.slice none 0 0) [] ph seen :=
 ⟨by rw [heap_setCell_same w lb 6 _ _ _ h.row]; rfl,World.ownsRow_nil _ _ _ _⟩
theorem RLd.setPh (h:RLd w lb id n cap deal att aw st wait vh hs ph seen) (x:Int):RLd (w.setCell ⟨lb,7,none⟩ (.int .i64 x)) lb id n cap deal att aw st wait vh hs x seen :=
 ⟨by rw [heap_setCell_same w lb 7 _ _ _ h.row]; rfl,h.ownSet 7 _⟩
theorem RLd.setSeen (h:RLd w lb id n cap deal att aw st wait vh hs ph seen) (x:Int):RLd (w.setCell ⟨lb,8,none⟩ (.int .i64 x)) lb id n cap deal att aw st wait vh hs ph x :=
 ⟨by rw [heap_setCell_same w lb 8 _ _ _ h.row]; rfl,h.ownSet 8 _⟩
theorem rldecide_any (p:Int) (h:RLd w lb id n cap deal att aw st wait vh hs ph seen) (hn:n≤30) :
  Calls Tryz.prog 205 #[.pointer (some ⟨lb,0,none⟩),.int .i64 p] w fun e w'=>∃ v,e=.returned v∧IsFr w' v (sentL id deal 7 att p true n)∧RLd w' lb id n cap deal att aw (stB 2) 0 vh hs ph seen∧Kept (In1 lb) w w':=by
 obtain ⟨c0,c1,c2,c3,c4,c5,c6,c7,c8⟩:=h.cells
 have z4:=h.fz 4
 have z5:=h.fz 5
 have HX:=hid ((h.setSt (stB 2)).setWait 0)
 have HK:Hid (Kept (In1 lb) w ((w.setCell ⟨lb,4,none⟩ (.string (stB 2))).setCell ⟨lb,5,none⟩ (.int .i64 0))):=((Kept.refl _ _).set1 4 _).set1 5 _
 rw [stB2] at HX HK ⊢
 clear h
 go_enter Tryz.func205,Tryz.ntmps205
 go_wp2_with fail
 refine (rlsend_any lb id n cap deal 7 att p true aw _ 0 vh ph seen _ HX.out.row hn).mono ?_
 rintro e w1 ⟨v,rfl,ho,hb⟩
 have HV:=hid (IsFr.owned ho)
 have HR:=hid (HX.out.later hb)
 have HK2:=hid (HK.out.trans (Kept.of_below hb))
 clear ho hb
 go_wp2_with fail
 go_ret
 exact ⟨_,rfl,HV.out,HR.out,HK2.out⟩
theorem rlprepare_any (p:Int) (h:RLd w lb id n cap deal att aw st wait vh hs ph seen) (hn:n≤30) :
  Calls Tryz.prog 206 #[.pointer (some ⟨lb,0,none⟩),.int .i64 p] w fun e w'=>∃ v,e=.returned v∧IsFr w' v (sentL id deal 5 att p true n)∧RLd w' lb id n cap deal att aw (stB 1) 6 (.slice none 0 0) [] p seen∧Kept (In1 lb) w w':=by
 obtain ⟨c0,c1,c2,c3,c4,c5,c6,c7,c8⟩:=h.cells
 have z4:=h.fz 4
 have z5:=h.fz 5
 have z6:=h.fz 6
 have z7:=h.fz 7
 have HX:=hid ((((h.setSt (stB 1)).setWait 6).setNone).setPh p)
 have HK:Hid (Kept (In1 lb) w ((((w.setCell ⟨lb,4,none⟩ (.string (stB 1))).setCell ⟨lb,5,none⟩ (.int .i64 6)).setCell ⟨lb,6,none⟩ (.slice none 0 0)).setCell ⟨lb,7,none⟩ (.int .i64 p))):=((((Kept.refl _ _).set1 4 _).set1 5 _).set1 6 _).set1 7 _
 rw [stB1] at HX HK ⊢
 clear h
 go_enter Tryz.func206,Tryz.ntmps206
 go_wp2_with fail
 refine (rlsend_any lb id n cap deal 5 att p true aw _ 6 _ p seen _ HX.out.row hn).mono ?_
 rintro e w1 ⟨v,rfl,ho,hb⟩
 have HV:=hid (IsFr.owned ho)
 have HR:=hid (HX.out.later hb)
 have HK2:=hid (HK.out.trans (Kept.of_below hb))
 clear ho hb
 go_wp2_with fail
 go_ret
 exact ⟨_,rfl,HV.out,HR.out,HK2.out⟩
def startL (id:Nat) (deal att:Int) (n:Nat):List F9:=if att=0 then sentL id deal 1 att 0 true n else sentL id deal 3 att 0 false n
theorem rlstart_any (h:RLd w lb id n cap deal att aw st wait vh hs ph seen) (hn:n≤30) :
  Calls Tryz.prog 111 #[.pointer (some ⟨lb,0,none⟩)] w fun e w'=>∃ v,e=.returned v∧IsFr w' v (startL id deal att n)∧Below w.heap.size w w':=by
 obtain ⟨c0,c1,c2,c3,c4,c5,c6,c7,c8⟩:=h.cells
 have HX:=hid h
 clear h
 unfold startL
 by_cases ha:att=0
 ·rw [if_pos ha]
  subst ha
  go_enter Tryz.func111,Tryz.ntmps111
  go_wp2_with fail
  refine (rlsend_any lb id n cap deal 1 0 0 true aw _ wait vh ph seen _ HX.out.row hn).mono ?_
  rintro e w1 ⟨v,rfl,ho,hb⟩
  have HV:=hid (IsFr.owned ho)
  have HB:=hid hb
  clear ho hb
  go_wp2_with fail
  go_ret
  exact ⟨_,rfl,HV.out,HB.out⟩
 ·rw [if_neg ha]
  go_enter Tryz.func111,Tryz.ntmps111
  go_wp2_with fail
  refine (rlsend_any lb id n cap deal 3 att 0 false aw _ wait vh ph seen _ HX.out.row hn).mono ?_
  rintro e w1 ⟨v,rfl,ho,hb⟩
  have HV:=hid (IsFr.owned ho)
  have HB:=hid hb
  clear ho hb
  go_wp2_with fail
  go_ret
  exact ⟨_,rfl,HV.out,HB.out⟩
end
theorem rlnew_any (id n cap:Nat) (deal att:Int) (aw:Option Addr) (w:World) :
  Calls Tryz.prog 109 #[.int .i64 (id:Int),.int .i64 deal,.slice aw n cap,.int .i64 att] w fun e w'=>∃ lb,e=.returned (.pointer (some ⟨lb,0,none⟩))∧RLd w' lb id n cap deal att aw (stB 0) (if att=0 then 2 else 4) (.slice none 0 0) [] 0 0∧Below w.heap.size w w'∧w.heap.size≤lb:=by
 rw [stB0]
 by_cases ha:att=0
 ·rw [if_pos ha]
  subst ha
  go_enter Tryz.func109,Tryz.ntmps109
  go_wp2_with fail
  go_ret
  exact ⟨_,rfl,⟨heap_alloc_new w _,World.ownsRow_nil _ _ _ _⟩,(Below.refl _ _).alloc (Nat.le_refl _) _,Nat.le_refl _⟩
 ·rw [if_neg ha]
  go_enter Tryz.func109,Tryz.ntmps109
  go_wp2_with fail
  go_ret
  exact ⟨_,rfl,⟨heap_alloc_new w _,World.ownsRow_nil _ _ _ _⟩,(Below.refl _ _).alloc (Nat.le_refl _) _,Nat.le_refl _⟩
end Go.Proofs.YtjcflddbaeiajacGreatDoor
namespace Go.Proofs.YtjcflddbaeiajacGreatDoor
structure LSt where
 wait:Int
 stt:Nat
 hs:List F9
 ph:Int
 seen:Int
abbrev forL (n id:Nat) (deal att:Int) (L:LSt) (f:F9):Prop:=L.wait≠0∧f.k=L.wait∧f.d=deal∧f.a=att∧f.t=id∧0≤f.f∧f.f<n
def toldTo (hs:List F9):Nat→List S3
 | 0=>[]
 | k+1=>match fromL hs k with
  | none=>toldTo hs k
  | some x=>toldTo hs k ++ [⟨x.ph,x.pr,x.pa⟩]
def setTo (hs:List F9):Nat→Int
 | 0=>0
 | k+1=>if (fromL hs k).isSome=true then setTo hs k+2 ^ k else setTo hs k
theorem setTo_bd (hs:List F9):∀ k,0≤setTo hs k∧setTo hs k<2 ^ k
 | 0=>⟨Int.le_refl _,by show (0:Int)<1; decide⟩
 | k+1=>by
  obtain ⟨h0,h1⟩:=setTo_bd hs k
  have e:(2:Int) ^ (k+1)=2 * 2 ^ k:=by rw [Int.pow_succ]; omega
  unfold setTo
  rw [e]
  split <;> omega
theorem toldTo_le (hs:List F9):∀ k,(toldTo hs k).length≤k
 | 0=>Nat.le_refl _
 | k+1=>by
  have:=toldTo_le hs k
  unfold toldTo
  split
  ·omega
  ·rw [List.length_append]; simp; omega
def seenL (L:LSt) (f:F9):Int:=if f.k≠2∧L.seen<f.pr then f.pr else L.seen
def lhear (zs:List Int) (id:Nat) (deal att:Int) (L:LSt) (f:F9):LSt×Option (Int×Int) :=
 if forL zs.length id deal att L f∧(fromL L.hs f.f).isSome=false then
  (if f.y=false then (if f.k=2 then (⟨0,2,L.hs,L.ph,seenL L f⟩,some (7,3)) else (⟨0,3,L.hs,L.ph,seenL L f⟩,none))
  else if f.k=2 then (if (L.hs ++ [f]).length=zs.length then (⟨6,1,[],4,seenL L f⟩,some (5,4)) else (⟨L.wait,L.stt,L.hs ++ [f],L.ph,seenL L f⟩,none))
  else if enoughB zs (setTo (L.hs ++ [f]) zs.length)=false then (⟨L.wait,L.stt,L.hs ++ [f],L.ph,seenL L f⟩,none)
  else if f.k=6 then (⟨0,2,L.hs ++ [f],L.ph,seenL L f⟩,some (7,afterI L.ph))
  else if (refL (toldTo (L.hs ++ [f]) zs.length)).2=true then (⟨0,2,L.hs ++ [f],L.ph,seenL L f⟩,some (7,(refL (toldTo (L.hs ++ [f]) zs.length)).1))
  else (⟨6,1,[],(refL (toldTo (L.hs ++ [f]) zs.length)).1,seenL L f⟩,some (5,(refL (toldTo (L.hs ++ [f]) zs.length)).1)))
 else (L,none)
theorem lhear_pass {zs:List Int} {id:Nat} {deal att:Int} {L:LSt} {f:F9} (h:¬ (forL zs.length id deal att L f∧(fromL L.hs f.f).isSome=false)):lhear zs id deal att L f=(L,none):=by
 unfold lhear
 exact if_neg h
section
variable {zs:List Int} {id:Nat} {deal att:Int} {L:LSt} {f:F9}
theorem lhear_no (h:forL zs.length id deal att L f∧(fromL L.hs f.f).isSome=false) (hy:f.y=false) (hk:f.k≠2):lhear zs id deal att L f=(⟨0,3,L.hs,L.ph,seenL L f⟩,none):=by
 unfold lhear
 rw [if_pos h,if_pos hy,if_neg hk]
theorem lhear_no2 (h:forL zs.length id deal att L f∧(fromL L.hs f.f).isSome=false) (hy:f.y=false) (hk:f.k=2):lhear zs id deal att L f=(⟨0,2,L.hs,L.ph,seenL L f⟩,some (7,3)):=by
 unfold lhear
 rw [if_pos h,if_pos hy,if_pos hk]
theorem lhear_all (h:forL zs.length id deal att L f∧(fromL L.hs f.f).isSome=false) (hy:¬ f.y=false) (hk:f.k=2) (hn:(L.hs ++ [f]).length=zs.length):lhear zs id deal att L f=(⟨6,1,[],4,seenL L f⟩,some (5,4)):=by
 unfold lhear
 rw [if_pos h,if_neg hy,if_pos hk,if_pos hn]
theorem lhear_some (h:forL zs.length id deal att L f∧(fromL L.hs f.f).isSome=false) (hy:¬ f.y=false) (hk:f.k=2) (hn:¬ (L.hs ++ [f]).length=zs.length):lhear zs id deal att L f=(⟨L.wait,L.stt,L.hs ++ [f],L.ph,seenL L f⟩,none):=by
 unfold lhear
 rw [if_pos h,if_neg hy,if_pos hk,if_neg hn]
theorem lhear_few (h:forL zs.length id deal att L f∧(fromL L.hs f.f).isSome=false) (hy:¬ f.y=false) (hk:¬ f.k=2) (hn:enoughB zs (setTo (L.hs ++ [f]) zs.length)=false):lhear zs id deal att L f=(⟨L.wait,L.stt,L.hs ++ [f],L.ph,seenL L f⟩,none):=by
 unfold lhear
 rw [if_pos h,if_neg hy,if_neg hk,if_pos hn]
theorem lhear_ack (h:forL zs.length id deal att L f∧(fromL L.hs f.f).isSome=false) (hy:¬ f.y=false) (hk:¬ f.k=2) (hn:¬ enoughB zs (setTo (L.hs ++ [f]) zs.length)=false) (h6:f.k=6):lhear zs id deal att L f=(⟨0,2,L.hs ++ [f],L.ph,seenL L f⟩,some (7,afterI L.ph)):=by
 unfold lhear
 rw [if_pos h,if_neg hy,if_neg hk,if_neg hn,if_pos h6]
theorem lhear_fin (h:forL zs.length id deal att L f∧(fromL L.hs f.f).isSome=false) (hy:¬ f.y=false) (hk:¬ f.k=2) (hn:¬ enoughB zs (setTo (L.hs ++ [f]) zs.length)=false) (h6:¬ f.k=6) {p:Int} (hc:refL (toldTo (L.hs ++ [f]) zs.length)=(p,true)):lhear zs id deal att L f=(⟨0,2,L.hs ++ [f],L.ph,seenL L f⟩,some (7,p)):=by
 unfold lhear
 rw [if_pos h,if_neg hy,if_neg hk,if_neg hn,if_neg h6,hc,if_pos rfl]
theorem lhear_pre (h:forL zs.length id deal att L f∧(fromL L.hs f.f).isSome=false) (hy:¬ f.y=false) (hk:¬ f.k=2) (hn:¬ enoughB zs (setTo (L.hs ++ [f]) zs.length)=false) (h6:¬ f.k=6) {p:Int} (hc:refL (toldTo (L.hs ++ [f]) zs.length)=(p,false)):lhear zs id deal att L f=(⟨6,1,[],p,seenL L f⟩,some (5,p)):=by
 unfold lhear
 rw [if_pos h,if_neg hy,if_neg hk,if_neg hn,if_neg h6,hc,if_neg (fun h=>by cases h)]
end
end Go.Proofs.YtjcflddbaeiajacGreatDoor
namespace Go.Proofs.YtjcflddbaeiajacGreatDoor
open Go.RowKit
section
variable {w:World} {lb id n cap:Nat} {deal att:Int} {aw:Option Addr} {st:ByteArray} {wait:Int} {vh:Value} {hs:List F9} {ph seen:Int}
theorem rlhear_not (f t d k a:Int) (y:Bool) (p1 p2 p3:Int) (h:RLd w lb id n cap deal att aw st wait vh hs ph seen) (hf:¬ (wait≠0∧k=wait∧d=deal∧a=att∧t=id∧0≤f∧f<n)) :
  Calls Tryz.prog 122 #[.pointer (some ⟨lb,0,none⟩),frV f t d k a y p1 p2 p3] w fun e w'=>e=.returned (.slice none 0 0)∧Below w.heap.size w w':=by
 obtain ⟨W,HW⟩:∃ W,Hid (w.alloc (.cells #[.int .i64 f,.int .i64 t,.int .i64 d,.int .i64 k,.int .i64 a,.bool y,.int .i64 p1,.int .i64 p2,.int .i64 p3] 144)=W):=⟨_,rfl⟩
 have HB:Hid (Below w.heap.size w W):=by rw [← HW.out]; exact (Below.refl _ _).alloc (Nat.le_refl _) _
 have HR:Hid (W.heap[w.heap.size]? = some (.cells #[.int .i64 f,.int .i64 t,.int .i64 d,.int .i64 k,.int .i64 a,.bool y,.int .i64 p1,.int .i64 p2,.int .i64 p3] 144 (0,0))):=by rw [← HW.out]; exact heap_alloc_new w _
 obtain ⟨b0,b1,b2,b3,b4,b5,b6,b7,b8⟩:=nine HR.out
 obtain ⟨c0,c1,c2,c3,c4,c5,c6,c7,c8⟩:=(h.later HB.out).cells
 have hW:=HW.out
 clear h
 by_cases g0:wait=0
 ·subst g0
  clear hf
  go_enter Tryz.func122,Tryz.ntmps122
  go_wp2_with fail
  go_quiet (fail)
  go_wp2
  go_ret
  exact ⟨rfl,below_drewN HB.out _⟩
 have e0:(wait == 0)=false:=beq_eq_false_iff_ne.2 g0
 by_cases g1:k=wait
 ·subst g1
  by_cases g2:d=deal
  ·subst g2
   by_cases g3:a=att
   ·subst g3
    by_cases g4:t=(id:Int)
    ·subst g4
     by_cases g5:f<0
     ·clear hf
      go_enter Tryz.func122,Tryz.ntmps122
      go_wp2_with fail
      go_quiet (fail)
      go_wp2
      go_ret
      exact ⟨rfl,below_drewN HB.out _⟩
     ·by_cases g6:(n:Int)≤f
      ·clear hf
       go_enter Tryz.func122,Tryz.ntmps122
       go_wp2_with fail
       go_quiet (fail)
       go_wp2
       go_ret
       exact ⟨rfl,below_drewN HB.out _⟩
      ·exact absurd ⟨g0,rfl,rfl,rfl,rfl,by omega,by omega⟩ hf
    ·have e4:(t != (id:Int))=true:=bne_iff_ne.2 g4
     clear hf
     go_enter Tryz.func122,Tryz.ntmps122
     go_wp2_with fail
     go_quiet (fail)
     go_wp2
     go_ret
     exact ⟨rfl,below_drewN HB.out _⟩
   ·have e3:(a != att)=true:=bne_iff_ne.2 g3
    clear hf
    go_enter Tryz.func122,Tryz.ntmps122
    go_wp2_with fail
    go_quiet (fail)
    go_wp2
    go_ret
    exact ⟨rfl,below_drewN HB.out _⟩
  ·have e2:(d != deal)=true:=bne_iff_ne.2 g2
   clear hf
   go_enter Tryz.func122,Tryz.ntmps122
   go_wp2_with fail
   go_quiet (fail)
   go_wp2
   go_ret
   exact ⟨rfl,below_drewN HB.out _⟩
 ·have e1:(k != wait)=true:=bne_iff_ne.2 g1
  clear hf
  go_enter Tryz.func122,Tryz.ntmps122
  go_wp2_with fail
  go_quiet (fail)
  go_wp2
  go_ret
  exact ⟨rfl,below_drewN HB.out _⟩
end
end Go.Proofs.YtjcflddbaeiajacGreatDoor
