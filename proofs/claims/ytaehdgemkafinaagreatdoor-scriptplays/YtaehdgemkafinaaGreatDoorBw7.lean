/-
  On the way to SPlaysProof: Q1 Q2 Q3 VD UG EC P6 P7 P8.
-/
import Derived.Test.YtaehdgemkafinaaGreatDoorBw5
import Derived.Test.YtaehdgemkafinaaGreatDoorBw3
import Derived.Test.YtaehdgemkafinaaGreatDoorBw4
import Derived.Deep.RegionLaw
import Derived.Deep.MidRow
import Derived.Laws.IdiomCopy
import Derived.Lib.SliceRun
import Derived.Laws.Externs
set_option maxHeartbeats 8000000
set_option maxRecDepth 100000
namespace Go.Proofs.YtaehdgemkafinaaGreatDoor
open Go.RowKit
def toldC (L:List S3):List Value:=L.flatMap fun s=>[.int .i64 s.p,.int .i64 s.r,.int .i64 s.a]
def pC (id:Nat) (deal att:Int) (vw:Value) (P:PL):List Value :=
 .int .i64 id :: .int .i64 deal :: .int .i64 att :: vw :: .string (stP P.stt) :: .int .i64 P.ans :: (toldC P.told ++ [.int .i64 P.prep,.int .i64 P.seen,.bool P.has])
theorem seven {L:List S3} (h:L.length=7):∃ a b c d e f g,L=[a,b,c,d,e,f,g]:=by
 match L,h with
 | [a,b,c,d,e,f,g],_=>exact ⟨a,b,c,d,e,f,g,rfl⟩
structure LD (w:World) (lb b cap id:Nat) (deal att:Int) (zs:List Int) (P:PL):Prop where
 row:w.heap[lb]? = some (.cells (pC id deal att (.slice (some ⟨b,0,none⟩) zs.length cap) P).toArray 220 (0,0))
 ws:∀ i,i<zs.length→w.cell? ⟨b,0+i,none⟩=some (.int .i64 (zs.getD i 0))
 bl:b<lb
 pw:PW zs.length P
 glo:∀ j,gW j<lb
section
variable {w w':World} {lb b cap id:Nat} {deal att:Int} {zs:List Int} {P:PL}
theorem LD.kept {S:Nat→Prop} (h:LD w lb b cap id deal att zs P) (k:Kept S w w') (h1:¬ S lb) (h2:¬ S b):LD w' lb b cap id deal att zs P :=
 ⟨k.row h.row h1,fun i hi=>by
  have:=h.ws i hi
  have hb:b<w.heap.size:=cell_lt this
  unfold World.cell? at this ⊢
  rw [show w'.heap[(⟨b,0+i,none⟩:Addr).block]? = w.heap[(⟨b,0+i,none⟩:Addr).block]? from k.block b hb h2]
  exact this,h.bl,h.pw,h.glo⟩
theorem LD.later (h:LD w lb b cap id deal att zs P) (hb:Below w.heap.size w w'):LD w' lb b cap id deal att zs P :=
 h.kept (S:=fun _=>False) (Kept.of_below hb) (fun x=>x) (fun x=>x)
theorem LD.sl (h:LD w lb b cap id deal att zs P) (hm:zs.length≤7):IsSl w (.slice (some ⟨b,0,none⟩) zs.length cap) zs :=
 ⟨_,cap,rfl,by unfold maxLen; omega,(fun x=>by cases x),fun _=>⟨b,0,rfl,h.ws⟩⟩
theorem LD.cells (h:LD w lb b cap id deal att zs P) :
  w.cell? ⟨lb,0,none⟩=some (.int .i64 (id:Int))∧w.cell? ⟨lb,1,none⟩=some (.int .i64 deal)∧w.cell? ⟨lb,2,none⟩=some (.int .i64 att)∧w.cell? ⟨lb,3,none⟩=some (.slice (some ⟨b,0,none⟩) zs.length cap) ∧
  w.cell? ⟨lb,4,none⟩=some (.string (stP P.stt))∧w.cell? ⟨lb,5,none⟩=some (.int .i64 P.ans)∧w.cell? ⟨lb,27,none⟩=some (.int .i64 P.prep)∧w.cell? ⟨lb,28,none⟩=some (.int .i64 P.seen)∧w.cell? ⟨lb,29,none⟩=some (.bool P.has):=by
 have hr:=h.row
 obtain ⟨t0,t1,t2,t3,t4,t5,t6,e⟩:=seven h.pw.len
 unfold pC at hr
 rw [e] at hr
 refine ⟨?_,?_,?_,?_,?_,?_,?_,?_,?_⟩ <;> rw [cell_of_row _ _ _ _ _ _ hr] <;> rfl
theorem LD.fz (h:LD w lb b cap id deal att zs P) (i:Nat):w.frozen? ⟨lb,i,none⟩=false:=by
 first
  | exact frozen_of_row h.row
  | (unfold World.frozen?; simp [h.row])
theorem LD.set {Q:PL} {i:Nat} {v:Value} (h:LD w lb b cap id deal att zs P) (hq:PW zs.length Q)
  (e:(pC id deal att (.slice (some ⟨b,0,none⟩) zs.length cap) P).set i v=pC id deal att (.slice (some ⟨b,0,none⟩) zs.length cap) Q):LD (w.setCell ⟨lb,i,none⟩ v) lb b cap id deal att zs Q :=
 ⟨by rw [heap_setCell_same w lb i _ _ _ h.row,List.setIfInBounds_toArray,e],fun j hj=>by
  have:=h.ws j hj
  have hb:=h.bl
  unfold World.cell? at this ⊢
  rw [show (w.setCell ⟨lb,i,none⟩ v).heap[(⟨b,0+j,none⟩:Addr).block]? = w.heap[(⟨b,0+j,none⟩:Addr).block]? from heap_setCell_other _ _ _ _ (by show b≠lb; omega)]
  exact this,h.bl,hq,h.glo⟩
theorem LD.setSt (h:LD w lb b cap id deal att zs P) (k:Nat):LD (w.setCell ⟨lb,4,none⟩ (.string (stP k))) lb b cap id deal att zs { P with stt:=k } :=
 h.set ⟨h.pw.len,h.pw.lo,h.pw.hi⟩ rfl
theorem LD.setAns (h:LD w lb b cap id deal att zs P) (x:Int) (h0:0≤x) (h1:x<2 ^ zs.length):LD (w.setCell ⟨lb,5,none⟩ (.int .i64 x)) lb b cap id deal att zs { P with ans:=x } :=
 h.set ⟨h.pw.len,h0,h1⟩ rfl
theorem LD.setPrep (h:LD w lb b cap id deal att zs P) (x:Int):LD (w.setCell ⟨lb,27,none⟩ (.int .i64 x)) lb b cap id deal att zs { P with prep:=x }:=by
 obtain ⟨t0,t1,t2,t3,t4,t5,t6,e⟩:=seven h.pw.len
 exact h.set ⟨h.pw.len,h.pw.lo,h.pw.hi⟩ (by unfold pC; simp only [e]; rfl)
theorem LD.setSeen (h:LD w lb b cap id deal att zs P) (x:Int):LD (w.setCell ⟨lb,28,none⟩ (.int .i64 x)) lb b cap id deal att zs { P with seen:=x }:=by
 obtain ⟨t0,t1,t2,t3,t4,t5,t6,e⟩:=seven h.pw.len
 exact h.set ⟨h.pw.len,h.pw.lo,h.pw.hi⟩ (by unfold pC; simp only [e]; rfl)
theorem LD.setHas (h:LD w lb b cap id deal att zs P) (x:Bool):LD (w.setCell ⟨lb,29,none⟩ (.bool x)) lb b cap id deal att zs { P with has:=x }:=by
 obtain ⟨t0,t1,t2,t3,t4,t5,t6,e⟩:=seven h.pw.len
 exact h.set ⟨h.pw.len,h.pw.lo,h.pw.hi⟩ (by unfold pC; simp only [e]; rfl)
end
def FrB (base:Nat) (w:World) (v:Value) (L:List F9):Prop:=∃ ad cap,v=.slice ad L.length cap∧FL w ad L∧∀ p,ad=some p→base≤p.block
theorem FrB.fr {base:Nat} {w:World} {v:Value} {L:List F9} (h:FrB base w v L):IsFr w v L:=by
 obtain ⟨ad,cap,e,hf,-⟩:=h
 exact ⟨ad,cap,e,hf⟩
theorem FrB.mono {base B:Nat} {w:World} {v:Value} {L:List F9} (h:FrB base w v L) (hb:B≤base):FrB B w v L:=by
 obtain ⟨ad,cap,e,hf,hg⟩:=h
 exact ⟨ad,cap,e,hf,fun p hp=>Nat.le_trans hb (hg p hp)⟩
theorem FrB.zero (base:Nat) (w:World):FrB base w (.slice none 0 0) []:=⟨none,0,rfl,FL.nil _ _,fun p hp=>by cases hp⟩
theorem FrB.owned {w:World} {base:Nat} {v:Value} {L:List F9} (h:w.ownsRow base 125 9 v L.length (frCells L)):FrB base w v L:=by
 obtain ⟨ad,cap,e,hf⟩:=IsFr.owned h
 subst e
 refine ⟨ad,cap,rfl,hf,fun p hp=>?_⟩
 subst hp
 rcases h.2 with ⟨hx,-⟩|⟨g,cap',cur,hx,hb,-⟩
 ·cases hx
 ·cases hx
  exact hb
theorem Tryz.infoFq:(Tryz.prog.info? 125).map (fun i=>(i.zero,i.size,i.bytes))=some (some (frV 0 0 0 0 0 false 0 0 0),9,72):=by kernel_rfl
theorem lit_cellsQ (w:World) (t:TypeId) (L:List Value):∀ j u,L[j]? = some u→(w.alloc (.cells L.toArray t)).cell? ((⟨w.heap.size,0,none⟩:Addr).add j)=some u:=by
 intro j u h
 rw [addr_add,cell_of_row _ _ _ _ _ _ (heap_alloc_new w _),List.getElem?_toArray,Nat.zero_add]
 exact h
theorem f9_oneQ (x:F9):∀ u∈f9L x,u.oneCell'=true:=by
 intro u hu
 simp [f9L] at hu
 rcases hu with rfl|rfl|rfl|rfl|rfl|rfl|rfl|rfl|rfl <;> rfl
theorem ldtoAll_own (lb b cap id:Nat) (deal att:Int) (zs:List Int) (P:PL) (kind ph:Int) (w:World) (h:LD w lb b cap id deal att zs P) (hn:zs.length≤7) :
  Calls Tryz.prog 158 #[.pointer (some ⟨lb,0,none⟩),.int .i64 kind,.int .i64 ph] w fun e w'=>∃ v,e=.returned v∧w'.ownsRow w.heap.size 125 9 v (toL id deal kind att ph zs.length).length (frCells (toL id deal kind att ph zs.length))∧Below w.heap.size w w':=by
 obtain ⟨i0,hi,hz0,hz1,hz2⟩:=info_parts Tryz.infoFq
 have H:=hid h
 obtain ⟨c0,c1,c2,c3,-,-,-,-,-⟩:=h.cells
 clear h
 obtain ⟨n,HN⟩:∃ n,Hid (zs.length=n):=⟨_,rfl⟩
 rw [HN.out] at c3 hn ⊢
 obtain ⟨L,HL⟩:∃ L,Hid (toL id deal kind att ph=L):=⟨_,rfl⟩
 rw [HL.out]
 have HLE:Hid (∀ k,(L k).length=k):=by rw [← HL.out]; exact toL_length _ _ _ _ _
 have H0:Hid (L 0=[]):=by rw [← HL.out]; rfl
 go_enter Tryz.func158,Tryz.ntmps158
 go_wp2_with fail
 clear c0 c1 c2 c3
 go_loopw [7,14] (fun v i wr=>∃ k:Nat,k≤n∧i=.int .i64 (k:Int)∧wr.ownsRow w.heap.size 125 9 v (L k).length (frCells (L k))∧Below w.heap.size w wr) (fun _ i _=>n - (intOf i).toNat)
 case atStart=>exact ⟨0,Nat.zero_le _,rfl,by rw [H0.out]; exact World.ownsRow_nil _ _ _ _,Below.refl _ _⟩
 case round =>
  obtain ⟨k,hk,rfl,hown,hb⟩:=hrel
  have HO:=hid hown
  have HB:=hid hb
  obtain ⟨c0,c1,c2,c3,-,-,-,-,-⟩:=(H.out.later hb).cells
  have hlb:lb<wr.heap.size:=row_ltJ (H.out.later hb).row
  have hle:=Nat.le_of_eq (HLE.out k)
  clear hown hb
  by_cases hlt:k<n
  ·have HS:Hid (L (k+1)=L k ++ [⟨id,k,deal,kind,att,false,ph,0,0⟩]):=by rw [← HL.out]; rfl
   have HS2:Hid ((L (k+1)).length=(L k).length+1∧frCells (L (k+1))=frCells (L k) ++ f9L ⟨id,k,deal,kind,att,false,ph,0,0⟩):=by
    rw [HS.out]
    exact ⟨by simp,by rw [frCells_append]; rfl⟩
   have HZ:=World.ownsRow.alloc HO.out
   have hws:=HB.out.size
   go_wp2_with fail
   go_region_law ((refine step_append_lies _ (by rfl) _ _ _ (by rfl) w.heap.size 125 i0 (frV 0 0 0 0 0 false 0 0 0) 9 72 Tryz.underlying55 hi hz0 hz1 hz2 (by rfl) (by decide) _ (L k).length (frCells (L k)) (by rfl) (by exact HZ _) ⟨wr.heap.size,0,none⟩ 1 1 (f9L ⟨id,k,deal,kind,att,false,ph,0,0⟩) (by rfl) (by rfl) (by exact lit_cellsQ wr 125 (f9L ⟨id,k,deal,kind,att,false,ph,0,0⟩)) (by exact f9_oneQ _) (by decide) (by unfold maxLen; omega) (by omega) (by exact Nat.le_trans hws (by simp)) (wr.heap.size+1) (by simp) ?_; intro g5 c5 w5 hown5 hg5 hat5 hlt5; have HQ5:=hid (And.intro (show w5.ownsRow w.heap.size 125 9 (.slice (some ⟨g5,0,none⟩) ((L k).length+1) c5) (L (k+1)).length (frCells (L (k+1))) by rw [HS2.out.1,HS2.out.2]; exact hown5) ((HB.out.alloc HB.out.size (.cells (f9L ⟨id,k,deal,kind,att,false,ph,0,0⟩).toArray 125)).drew.grown hg5 (by simp; omega) (fun j hj=>(HO.out.lt j hj).1))); clear hown5 hg5 hat5))
   all_goals go_wp2_with fail
   all_goals go_roundw
   all_goals first|exact ⟨k+1,by omega,by go_num,HQ5.out.1,HQ5.out.2⟩|exact ⟨k+1,by omega,by go_num,HQ5.out.1,HQ5.out.2.drew⟩|(simp [intOf]; omega)
  ·obtain rfl:k=n:=by omega
   go_wp2_with fail
   go_ret
   exact ⟨_,rfl,HO.out,HB.out⟩
theorem ldtoAll_any (lb b cap id:Nat) (deal att:Int) (zs:List Int) (P:PL) (kind ph:Int) (w:World) (h:LD w lb b cap id deal att zs P) (hn:zs.length≤7) :
  Calls Tryz.prog 158 #[.pointer (some ⟨lb,0,none⟩),.int .i64 kind,.int .i64 ph] w fun e w'=>∃ v,e=.returned v∧FrB w.heap.size w' v (toL id deal kind att ph zs.length)∧Below w.heap.size w w':=by
 refine (ldtoAll_own lb b cap id deal att zs P kind ph w h hn).mono ?_
 rintro e w' ⟨v,h1,h2,h3⟩
 exact ⟨v,h1,FrB.owned h2,h3⟩
theorem gW_lt {w:World} {A:Nat→Addr} (h:Held3 w A) (i:Nat):gW i<w.heap.size:=by
 match i with
 | 0=>exact cell_lt (h 3 (by omega) (by omega))
 | 1=>exact cell_lt (h 1 (by omega) (by omega))
 | 2=>exact cell_lt (h 2 (by omega) (by omega))
 | n+3=>exact cell_lt (h 3 (by omega) (by omega))
theorem Held3.kept {S:Nat→Prop} {w w':World} {A:Nat→Addr} (h:Held3 w A) (k:Kept S w w') (hS:∀ i,S i→∀ j,gW j<i):Held3 w' A:=fun i h1 h3=>by
 have:=h i h1 h3
 have hb:gW i<w.heap.size:=cell_lt this
 unfold World.cell? at this ⊢
 rw [show w'.heap[(⟨gW i,0,none⟩:Addr).block]? = w.heap[(⟨gW i,0,none⟩:Addr).block]? from k.block _ hb (fun hs=>Nat.lt_irrefl _ (hS (gW i) hs i))]
 exact this
section
variable {w:World} {lb b cap id:Nat} {deal att:Int} {zs:List Int} {P:PL}
theorem lddecide_any (p:Int) (h:LD w lb b cap id deal att zs P) (hn:zs.length≤7) :
  Calls Tryz.prog 218 #[.pointer (some ⟨lb,0,none⟩),.int .i64 p] w fun e w'=>∃ v,e=.returned v∧FrB w.heap.size w' v (outL id deal att zs.length (decP P p).2)∧LD w' lb b cap id deal att zs (decP P p).1∧Kept (In1 lb) w w':=by
 have z4:=h.fz 4
 have c4:=h.cells.2.2.2.2.1
 have HX:=hid (h.setSt 2)
 have HK:Hid (Kept (In1 lb) w (w.setCell ⟨lb,4,none⟩ (.string (stP 2)))):=(Kept.refl _ _).set1 4 _
 have hlb:lb<w.heap.size:=row_ltJ h.row
 clear h
 rw [stP2] at HX HK
 go_enter Tryz.func218,Tryz.ntmps218
 go_wp2_with fail
 refine (ldtoAll_any lb b cap id deal att zs _ 7 p _ HX.out hn).mono ?_
 rintro e w1 ⟨v,rfl,ho,hb⟩
 have HV:=hid (ho.mono HK.out.size)
 have HR:=hid (HX.out.later hb)
 have HK2:=hid (HK.out.trans (Kept.of_below hb))
 clear ho hb
 go_wp2_with fail
 go_ret
 exact ⟨_,rfl,HV.out,HR.out,HK2.out⟩
theorem ldprepare_any (p:Int) (h:LD w lb b cap id deal att zs P) (hn:zs.length≤7) :
  Calls Tryz.prog 219 #[.pointer (some ⟨lb,0,none⟩),.int .i64 p] w fun e w'=>∃ v,e=.returned v∧FrB w.heap.size w' v (outL id deal att zs.length (preP P p).2)∧LD w' lb b cap id deal att zs (preP P p).1∧Kept (In1 lb) w w':=by
 have z4:=h.fz 4
 have z5:=h.fz 5
 have z27:=h.fz 27
 obtain ⟨c0,c1,c2,c3,c4,c5,c27,c28,c29⟩:=h.cells
 have HX:=hid (((h.setSt 1).setPrep p).setAns 0 (Int.le_refl _) (Int.pow_pos (by decide)))
 have HK:Hid (Kept (In1 lb) w (((w.setCell ⟨lb,4,none⟩ (.string (stP 1))).setCell ⟨lb,27,none⟩ (.int .i64 p)).setCell ⟨lb,5,none⟩ (.int .i64 0))):=(((Kept.refl _ _).set1 4 _).set1 27 _).set1 5 _
 have hlb:lb<w.heap.size:=row_ltJ h.row
 clear h
 rw [stP1] at HX HK
 go_enter Tryz.func219,Tryz.ntmps219
 go_wp2_with fail
 refine (ldtoAll_any lb b cap id deal att zs _ 5 p _ HX.out hn).mono ?_
 rintro e w1 ⟨v,rfl,ho,hb⟩
 have HV:=hid (ho.mono HK.out.size)
 have HR:=hid (HX.out.later hb)
 have HK2:=hid (HK.out.trans (Kept.of_below hb))
 clear ho hb
 go_wp2_with fail
 go_ret
 exact ⟨_,rfl,HV.out,HR.out,HK2.out⟩
theorem enough_ok_is (A:Nat→Addr) (v:Value) (zs:List Int) (set:Int) (x:Bool) (w:World) (hv:IsSl w v zs) (hE:Held3 w A) (hc:errS zs set=0) (hx:enoughB zs set=x) :
  Calls Tryz.prog 246 #[v,.int .i64 set] w fun e w'=>e=.returned (.tuple #[.bool x,.nilIface])∧Below w.heap.size w w':=by
 subst hx; exact enough_ok A v zs set w hv hE hc
theorem ldenough_is (A:Nat→Addr) (x:Bool) (h:LD w lb b cap id deal att zs P) (he:errW zs=0) (hE:Held3 w A) (hx:enoughB zs P.ans=x) :
  Calls Tryz.prog 220 #[.pointer (some ⟨lb,0,none⟩)] w fun e w'=>e=.returned (.bool x)∧Below w.heap.size w w':=by
 obtain ⟨h1,h2,h3,h4⟩:=errW_zero he
 obtain ⟨c0,c1,c2,c3,c4,c5,c27,c28,c29⟩:=h.cells
 have HS:=hid (h.sl h2)
 have HC:Hid (errS zs P.ans=0):=errS_mk he h.pw.lo h.pw.hi
 have HE:=hid hE
 have HX:=hid hx
 clear h h1 h3 h4 hE he hx
 go_enter Tryz.func220,Tryz.ntmps220
 go_wp2_with fail
 have HD:Hid (Below w.heap.size w w.drew):=(Below.refl _ _).drew
 have HS1:=hid (HS.out.later HD.out)
 have HE1:=hid (HE.out.later HD.out)
 go_region_held3 (fun w'=>w'.cell? ⟨lb,3,none⟩=some (.slice (some ⟨b,0,none⟩) zs.length cap)∧w'.cell? ⟨lb,5,none⟩=some (.int .i64 P.ans)) (go_keep) (first|(go_at_call 246; (with_reducible refine (enough_ok_is A _ zs P.ans x _ HS1.out HE1.out HC.out HX.out).mono ?_); rintro e w1 ⟨rfl,hb⟩; have HB:=hid (HD.out.trans hb); have hc3:=cell_later hb c3; have hc5:=cell_later hb c5; clear hb))
 all_goals cases x
 all_goals go_wp2_with fail
 all_goals go_ret
 all_goals exact ⟨rfl,HB.out⟩
theorem ldsee_any (p:Int) (h:LD w lb b cap id deal att zs P) :
  Calls Tryz.prog 193 #[.pointer (some ⟨lb,0,none⟩),.int .i64 p] w fun e w'=>e=.returned (.tuple #[])∧LD w' lb b cap id deal att zs (seeP P p)∧Kept (In1 lb) w w':=by
 have z28:=h.fz 28
 have z29:=h.fz 29
 obtain ⟨c0,c1,c2,c3,c4,c5,c27,c28,c29⟩:=h.cells
 have HX:=hid ((h.setSeen p).setHas true)
 have HK:Hid (Kept (In1 lb) w ((w.setCell ⟨lb,28,none⟩ (.int .i64 p)).setCell ⟨lb,29,none⟩ (.bool true))):=((Kept.refl _ _).set1 28 _).set1 29 _
 have HP:=hid h
 have hlb:lb<w.heap.size:=row_ltJ h.row
 clear h
 obtain ⟨hv,HV⟩:∃ x,Hid (P.has=x):=⟨_,rfl⟩
 rw [HV.out] at c29
 obtain ⟨sn,HSn⟩:∃ x,Hid (P.seen=x):=⟨_,rfl⟩
 rw [HSn.out] at c28
 by_cases g:hv=false ∨ sn<p
 ·have HQ:Hid (seeP P p={ P with seen:=p,has:=true }):=by unfold Hid seeP; rw [HV.out,HSn.out]; exact if_pos g
  rw [HQ.out]
  cases hv with
  | false =>
   go_enter Tryz.func193,Tryz.ntmps193
   go_wp2_with fail
   go_end0
   exact ⟨rfl,HX.out,HK.out⟩
  | true =>
   have g2:sn<p:=by
    rcases g with g|g
    ·cases g
    ·exact g
   go_enter Tryz.func193,Tryz.ntmps193
   go_wp2_with fail
   go_end0
   exact ⟨rfl,HX.out,HK.out⟩
 ·have HQ:Hid (seeP P p=P):=by unfold Hid seeP; rw [HV.out,HSn.out]; exact if_neg g
  rw [HQ.out]
  have hv1:hv=true:=by
   cases hv with
   | true=>rfl
   | false=>exact absurd (Or.inl rfl) g
  have g2:¬ sn<p:=fun x=>g (.inr x)
  subst hv1
  clear g
  go_enter Tryz.func193,Tryz.ntmps193
  go_wp2_with fail
  go_end0
  exact ⟨rfl,HP.out,Kept.refl _ _⟩
end
section
variable {w:World} {lb b cap id:Nat} {deal att:Int} {zs:List Int} {P:PL}
theorem ldwaits_any (k:Int) (hs:P.stt<4) (h:LD w lb b cap id deal att zs P) :
  Calls Tryz.prog 217 #[.pointer (some ⟨lb,0,none⟩),.int .i64 k] w fun e w'=>e=.returned (.bool (waitsB P att k))∧w'=w:=by
 obtain ⟨c0,c1,c2,c3,c4,c5,c27,c28,c29⟩:=h.cells
 clear h
 unfold waitsB
 generalize P.stt=q at hs c4 ⊢
 by_cases k2:k=2
 ·subst k2
  match q,hs with
  | 0,_ =>
   rw [stP0] at c4
   by_cases ha:att=0
   ·subst ha
    go_enter Tryz.func217,Tryz.ntmps217
    go_wp2_with fail
    go_ret
    exact ⟨rfl,rfl⟩
   ·go_enter Tryz.func217,Tryz.ntmps217
    go_wp2_with fail
    go_ret
    exact ⟨by simp [ha],rfl⟩
  | 1,_ =>
   rw [stP1] at c4
   go_enter Tryz.func217,Tryz.ntmps217
   go_wp2_with fail
   go_ret
   exact ⟨rfl,rfl⟩
  | 2,_ =>
   rw [stP2] at c4
   go_enter Tryz.func217,Tryz.ntmps217
   go_wp2_with fail
   go_ret
   exact ⟨rfl,rfl⟩
  | 3,_ =>
   rw [stP3] at c4
   go_enter Tryz.func217,Tryz.ntmps217
   go_wp2_with fail
   go_ret
   exact ⟨rfl,rfl⟩
 ·by_cases k4:k=4
  ·subst k4
   match q,hs with
   | 0,_ =>
    rw [stP0] at c4
    by_cases ha:0<att
    ·go_enter Tryz.func217,Tryz.ntmps217
     go_wp2_with fail
     go_ret
     exact ⟨by simp [ha],rfl⟩
    ·go_enter Tryz.func217,Tryz.ntmps217
     go_wp2_with fail
     go_ret
     exact ⟨by simp [ha],rfl⟩
   | 1,_ =>
    rw [stP1] at c4
    go_enter Tryz.func217,Tryz.ntmps217
    go_wp2_with fail
    go_ret
    exact ⟨rfl,rfl⟩
   | 2,_ =>
    rw [stP2] at c4
    go_enter Tryz.func217,Tryz.ntmps217
    go_wp2_with fail
    go_ret
    exact ⟨rfl,rfl⟩
   | 3,_ =>
    rw [stP3] at c4
    go_enter Tryz.func217,Tryz.ntmps217
    go_wp2_with fail
    go_ret
    exact ⟨rfl,rfl⟩
  ·by_cases k6:k=6
   ·subst k6
    match q,hs with
    | 0,_ =>
     rw [stP0] at c4
     go_enter Tryz.func217,Tryz.ntmps217
     go_wp2_with fail
     go_ret
     exact ⟨rfl,rfl⟩
    | 1,_ =>
     rw [stP1] at c4
     go_enter Tryz.func217,Tryz.ntmps217
     go_wp2_with fail
     go_ret
     exact ⟨rfl,rfl⟩
    | 2,_ =>
     rw [stP2] at c4
     go_enter Tryz.func217,Tryz.ntmps217
     go_wp2_with fail
     go_ret
     exact ⟨rfl,rfl⟩
    | 3,_ =>
     rw [stP3] at c4
     go_enter Tryz.func217,Tryz.ntmps217
     go_wp2_with fail
     go_ret
     exact ⟨rfl,rfl⟩
   ·go_enter Tryz.func217,Tryz.ntmps217
    go_wp2_with fail
    go_ret
    exact ⟨by simp [k2,k4,k6],rfl⟩
end
theorem row_setCells {g:Nat} {t:TypeId}:∀ (vs:List Value) (o:Nat) (w:World) (cur:Array Value),w.heap[g]? = some (.cells cur t (0,0))→o+vs.length≤cur.size →
  (w.setCells g o vs).heap[g]? = some (.cells (cur.toList.take o ++ vs ++ cur.toList.drop (o+vs.length)).toArray t (0,0))
 | [],o,w,cur,h,_=>by simpa [World.setCells] using h
 | v :: r,o,w,cur,h,hl=>by
  have h1:=heap_setCell_same w g o _ _ v h
  have hl':o+(r.length+1)≤cur.size:=by simpa using hl
  have h2:=row_setCells r (o+1) (w.setCell ⟨g,o,none⟩ v) _ h1 (by simp; omega)
  show ((w.setCell ⟨g,o,none⟩ v).setCells g (o+1) r).heap[g]? = _
  rw [h2]
  congr 2
  apply Array.ext'
  simp only [Array.toList_setIfInBounds]
  rw [List.take_set,List.drop_set_of_lt (by omega),List.take_add_one]
  have hg:cur.toList[o]? = some (cur.toList[o]'(by simp; omega)):=List.getElem?_eq_getElem _
  rw [hg]
  simp only [Option.toList,List.set_append,List.length_take,Array.length_toList]
  rw [if_neg (by omega),show o - min o cur.size=0 by omega]
  simp
  congr 1
  omega
theorem kept_setCells (g:Nat):∀ (vs:List Value) (o:Nat) (w:World),Kept (In1 g) w (w.setCells g o vs)
 | [],_,w=>Kept.refl _ w
 | v :: r,o,w=>((Kept.refl _ w).set1 o v).trans (kept_setCells g r (o+1) _)
def zF:List Value:=[.int .i64 0,.int .i64 0,.int .i64 0,.int .i64 0,.int .i64 0,.bool false,.int .i64 0,.int .i64 0,.int .i64 0]
theorem zF_len:zF.length=9:=rfl
theorem zF_one:∀ u∈zF,u.oneCell'=true:=by
 intro u hu
 simp [zF] at hu
 rcases hu with rfl|rfl|rfl <;> rfl
theorem run_clear1 (w:World) (ty:TypeId) (b o c:Nat) (hc:∀ j,j<9→(w.cell? ⟨b,o+j,none⟩).isSome=true) (hf:∀ j,j<9→w.frozen? ⟨b,o+j,none⟩=false) :
  (Builtin.clear_ #[55] ty #[.slice (some ⟨b,o,none⟩) 1 c]).run Tryz.prog w=.ok (.tuple #[]) (w.setCells b o zF):=by
 have hzc:(Builtin.zeroCells (frV 0 0 0 0 0 false 0 0 0).cells 1).toList=zF:=by first|rfl|kernel_rfl
 have hst:=run_storeCells_cells (P:=Tryz.prog) b o zF 0 w (by simpa [zF] using hc) (by simpa [zF] using hf) zF_one
 simp only [Nat.add_zero] at hst
 simp [Builtin.clear_,run_underlying Tryz.underlying55,hzc,hst]
theorem frCells_take (L:List F9) (k:Nat):frCells (L.take k)=(frCells L).take (k * 9):=by
 induction L generalizing k with
 | nil=>simp [frCells]
 | cons x r ih =>
  cases k with
  | zero=>simp [frCells]
  | succ k =>
   simp only [List.take_succ_cons,frCells,List.flatMap_cons] at *
   rw [ih,List.take_append,f9L_length,List.take_of_length_le (l:=f9L x) (by rw [f9L_length]; omega),show (k+1) * 9 - 9=k * 9 by omega]
theorem frCells_drop (L:List F9) (k:Nat):frCells (L.drop k)=(frCells L).drop (k * 9):=by
 induction L generalizing k with
 | nil=>simp [frCells]
 | cons x r ih =>
  cases k with
  | zero=>simp [frCells]
  | succ k =>
   simp only [List.drop_succ_cons,frCells,List.flatMap_cons] at *
   rw [ih,List.drop_append,f9L_length,List.drop_of_length_le (l:=f9L x) (by rw [f9L_length]; omega),show (k+1) * 9 - 9=k * 9 by omega]
   simp
theorem del_frs (base g cap k j n:Nat) (cur:Array Value) (L:List F9) (w:World) (hg:w.heap[g]? = some (.cells cur 125 (0,0))) (hb:base≤g) (hn:L.length=n) (h1:n≤cap) (h2:cap≤maxLen) (hs:cur.size=cap * 9) (ht:cur.toList.take (n * 9)=frCells L) (hk:k<n) (hj:j=k+1) :
  Calls Tryz.prog 159 #[.slice (some ⟨g,0,none⟩) n cap,.int .i64 (k:Int),.int .i64 (j:Int)] w fun e w'=>e=.returned (.slice (some ⟨g,0,none⟩) (n - 1) cap)∧w'.ownsRow base 125 9 (.slice (some ⟨g,0,none⟩) (n - 1) cap) (n - 1) (frCells (L.eraseIdx k))∧Kept (In1 g) w w':=by
 obtain ⟨i0,hi0,hz0,hz1,hz2⟩:=info_parts Tryz.infoFq
 have hmul:n * 9≤cap * 9:=Nat.mul_le_mul_right 9 h1
 have hcell:∀ x,x<n * 9→w.cell? ⟨g,x,none⟩=(frCells L)[x]?:=fun x hx=>by
  rw [cell_of_row _ _ _ _ _ _ hg,← ht,List.getElem?_take_of_lt hx,Array.getElem?_toList]
 have hsome:∀ x,x<cap * 9→(w.cell? ⟨g,x,none⟩).isSome=true:=fun x hx=>by
  rw [cell_of_row _ _ _ _ _ _ hg,Array.getElem?_eq_getElem (by rw [hs]; exact hx)]; rfl
 have hfz:∀ x,w.frozen? ⟨g,x,none⟩=false:=fun x=>frozen_of_row _ _ _ _ _ hg
 have hLl:=frCells_length L
 obtain ⟨news,HN⟩:∃ news,Hid (news=frCells (L.drop j)):=⟨_,rfl⟩
 have HL:Hid (news.length=(n - j) * 9):=by rw [HN.out,frCells_length,List.length_drop,hn]; exact rfl
 obtain ⟨a0,hA,hsrc⟩:∃ a0:Addr,(if cap=j then some (⟨g,0,none⟩:Addr) else some ⟨g,j * 9,none⟩)=some a0∧Hid (∀ t u,news[t]? = some u→w.drew.cell? (a0.add t)=some u):=by
  by_cases h:cap=j
  ·refine ⟨⟨g,0,none⟩,by simp [h],fun t u hu=>?_⟩
   have h0:news.length=0:=by rw [HL.out]; omega
   rw [List.length_eq_zero_iff.1 h0] at hu
   simp at hu
  ·refine ⟨⟨g,j * 9,none⟩,by simp [h],fun t u hu=>?_⟩
   have htt:=(List.getElem?_eq_some_iff.1 hu).1
   rw [HL.out] at htt
   rw [addr_add]
   show w.cell? ⟨g,j * 9+t,none⟩=some u
   rw [hcell _ (by omega),← hu,HN.out,frCells_drop,List.getElem?_drop]
 have s2:Hid (∀ u∈news,u.oneCell'=true):=by rw [HN.out]; exact frCells_one _
 have s3:Hid (∀ t,t<news.length→(w.drew.cell? ⟨g,0+k * 9+t,none⟩).isSome=true∧w.drew.frozen? ⟨g,0+k * 9+t,none⟩=false):=by
  intro t htt
  rw [HL.out] at htt
  exact ⟨hsome _ (by omega),hfz _⟩
 obtain ⟨W1,HW1⟩:∃ W1,Hid (w.drew.setCells g (0+k * 9) news=W1):=⟨_,rfl⟩
 have HR1:Hid (W1.heap[g]? = some (.cells (cur.toList.take (0+k * 9) ++ news ++ cur.toList.drop (0+k * 9+news.length)).toArray 125 (0,0))):=by
  rw [← HW1.out]; exact row_setCells news _ w.drew cur hg (by rw [HL.out,hs]; omega)
 have HK1:Hid (Kept (In1 g) w W1):=by rw [← HW1.out]; exact (Kept.refl _ w).drew.trans (kept_setCells g news _ _)
 have hsz:(cur.toList.take (0+k * 9) ++ news ++ cur.toList.drop (0+k * 9+news.length)).length=cap * 9:=by
  rw [List.length_append,List.length_append,List.length_take,List.length_drop,HL.out,Array.length_toList,hs]; omega
 have hcl:∀ ty,(Builtin.clear_ #[55] ty #[.slice (some ⟨g,(k+(n - j)) * 9,none⟩) (n - (k+(n - j))) (cap - (k+(n - j)))]).run Tryz.prog W1=.ok (.tuple #[]) (W1.setCells g ((k+(n - j)) * 9) zF):=by
  intro ty
  rw [show n - (k+(n - j))=1 by omega]
  exact run_clear1 W1 ty g _ _ (fun x hx=>by rw [cell_of_row _ _ _ _ _ _ HR1.out,List.getElem?_toArray,List.getElem?_eq_getElem (by rw [hsz]; omega)]; rfl) (fun x _=>frozen_of_row _ _ _ _ _ HR1.out)
 have HF:Hid ((W1.setCells g ((k+(n - j)) * 9) zF).ownsRow base 125 9 (.slice (some ⟨g,0,none⟩) (n - 1) cap) (n - 1) (frCells (L.eraseIdx k))):=by
  have hr:=row_setCells zF ((k+(n - j)) * 9) W1 _ HR1.out (by rw [List.size_toArray,hsz,zF_len]; omega)
  refine ⟨by rw [frCells_length,List.length_eraseIdx_of_lt (by omega),hn],.inr ⟨g,cap,_,rfl,hb,hr,by omega,h2,?_,?_⟩⟩
  ·rw [List.size_toArray,List.length_append,List.length_append,List.length_take,List.length_drop,List.toList_toArray,hsz,zF_len]
   omega
  ·have hE1:n - 1=k+(n - j):=by omega
   rw [List.toList_toArray,List.toList_toArray,hE1]
   rw [List.append_assoc,List.take_append_of_le_length (by rw [List.length_take,hsz]; omega),List.take_take,Nat.min_self]
   rw [List.take_append_of_le_length (by rw [List.length_append,List.length_take,Array.length_toList,HL.out,hs]; omega),List.take_of_length_le (by rw [List.length_append,List.length_take,Array.length_toList,HL.out,hs]; omega)]
   rw [HN.out,List.eraseIdx_eq_take_drop_succ,frCells_append,frCells_take,hj,Nat.zero_add,← ht,List.take_take,Nat.min_eq_left (by omega)]
 have HK2:Hid (Kept (In1 g) w (W1.setCells g ((k+(n - j)) * 9) zF)):=HK1.out.trans (kept_setCells g _ _ _)
 have HE:Hid (n - 1=k+(n - j)):=by show n - 1=k+(n - j); omega
 have h63:cap≤9223372036854775807:=by unfold maxLen at h2; omega
 have hkc:k≤cap:=by omega
 have hjc:j≤cap:=by omega
 have hjn:j≤n:=by omega
 have hkj:k<j:=by omega
 clear hcell hsome hfz hg ht hs hj hLl hsz hmul
 rw [HE.out] at HF ⊢
 go_enter Tryz.func159,Tryz.ntmps159
 go_wp2_with fail
 go_region_law (refine step_append_room rfl (.tmp 22) (.tmp 25) 55 rfl 125 i0 9 Tryz.underlying55 hi0 hz1 g 0 k cap (by simp [Act.eval,Act.put]) a0 (n - j) (cap - j) news (by simp [Act.eval,Act.put]) HL.out hsrc.out s2.out (by omega) s3.out ?_; rw [HW1.out])
 go_wp2
 go_ret
 exact ⟨rfl,HF.out,HK2.out⟩
theorem get_spliced (cur vs:List Value) (o k:Nat) (h:o+vs.length≤cur.length):(cur.take o ++ vs ++ cur.drop (o+vs.length))[k]? = if k<o then cur[k]? else if k<o+vs.length then vs[k - o]? else cur[k]?:=by
 by_cases h1:k<o
 ·rw [if_pos h1,List.append_assoc,List.getElem?_append_left (by rw [List.length_take]; omega),List.getElem?_take_of_lt h1]
 ·rw [if_neg h1]
  by_cases h2:k<o+vs.length
  ·rw [if_pos h2,List.append_assoc,List.getElem?_append_right (by rw [List.length_take]; omega),List.length_take,show min o cur.length=o by omega,List.getElem?_append_left (by omega)]
  ·rw [if_neg h2,List.getElem?_append_right (by rw [List.length_append,List.length_take]; omega),List.length_append,List.length_take,show min o cur.length=o by omega,List.getElem?_drop]
   congr 1
   omega
def OwnF (w:World) (base:Nat) (v:Value) (L:List F9):Prop :=
 (v=.slice none 0 0∧L=[]) ∨ ∃ g o cap,∃ cur:Array Value,v=.slice (some ⟨g,o,none⟩) L.length cap∧base≤g∧w.heap[g]? = some (.cells cur 125 (0,0))∧L.length≤cap∧cap≤maxLen∧o+cap * 9≤cur.size∧∀ j,j<L.length * 9→cur[o+j]? = (frCells L)[j]?
section
variable {w w':World} {base:Nat} {v:Value} {L:List F9}
theorem OwnF.of_own (h:w.ownsRow base 125 9 v L.length (frCells L)):OwnF w base v L:=by
 rcases h.2 with ⟨rfl,h0⟩|⟨g,cap,cur,rfl,hb,hg,hle,hcap,hsz,htk⟩
 ·exact .inl ⟨rfl,List.length_eq_zero_iff.1 h0⟩
 ·refine .inr ⟨g,0,cap,cur,rfl,hb,hg,hle,hcap,by omega,fun j hj=>?_⟩
  rw [← htk,List.getElem?_take_of_lt hj,Array.getElem?_toList,Nat.zero_add]
theorem OwnF.kept {S:Nat→Prop} (h:OwnF w base v L) (k:Kept S w w') (hs:∀ g,v.ownBlock=some g→¬ S g):OwnF w' base v L:=by
 rcases h with h|⟨g,o,cap,cur,rfl,hb,hg,rest⟩
 ·exact .inl h
 ·exact .inr ⟨g,o,cap,cur,rfl,hb,k.row hg (hs g rfl),rest⟩
theorem OwnF.lt (h:OwnF w base v L):∀ g,v.ownBlock=some g→base≤g∧g<w.heap.size:=by
 intro x hx
 rcases h with ⟨rfl,-⟩|⟨g,o,cap,cur,rfl,hb,hg,rest⟩
 ·cases hx
 ·obtain rfl:g=x:=Option.some.inj hx
  exact ⟨hb,row_ltJ hg⟩
theorem OwnF.form (h:OwnF w base v L):∃ ad cap,v=.slice ad L.length cap:=by
 rcases h with ⟨rfl,rfl⟩|⟨g,o,cap,cur,rfl,-⟩
 ·exact ⟨none,0,rfl⟩
 ·exact ⟨_,_,rfl⟩
theorem OwnF.splice {g o cap:Nat} {cur:Array Value} {M:List F9} (hb:base≤g) (hg:w.heap[g]? = some (.cells cur 125 (0,0))) (hle:L.length+M.length≤cap) (hcap:cap≤maxLen) (hsz:o+cap * 9≤cur.size) (hc:∀ j,j<L.length * 9→cur[o+j]? = (frCells L)[j]?) :
  OwnF (w.setCells g (o+L.length * 9) (frCells M)) base (.slice (some ⟨g,o,none⟩) (L.length+M.length) cap) (L ++ M):=by
 have hl:=frCells_length M
 have hfit:o+L.length * 9+(frCells M).length≤cur.size:=by rw [hl]; have:=Nat.mul_le_mul_right 9 hle; rw [Nat.add_mul] at this; omega
 have hr:=row_setCells (frCells M) (o+L.length * 9) w cur hg hfit
 refine .inr ⟨g,o,cap,_,by rw [List.length_append],hb,hr,by rw [List.length_append]; exact hle,hcap,?_,fun j hj=>?_⟩
 ·rw [List.size_toArray,List.length_append,List.length_append,List.length_take,List.length_drop,Array.length_toList (xs:=cur)]; omega
 ·rw [List.length_append,Nat.add_mul] at hj
  rw [List.getElem?_toArray,get_spliced _ _ _ _ (by rw [Array.length_toList (xs:=cur)]; exact hfit),frCells_append]
  by_cases h1:j<L.length * 9
  ·rw [if_pos (by omega),Array.getElem?_toList,hc j h1,List.getElem?_append_left (by rw [frCells_length]; exact h1)]
  ·rw [if_neg (by omega),if_pos (by omega),List.getElem?_append_right (by rw [frCells_length]; omega),frCells_length]
   congr 1
   omega
end
theorem run_copy_frs (w:World) (sT ty:TypeId) (b o dLen dCap:Nat) (a:Addr) (sLen sCap n:Nat) (cs:List Value) (hn:Nat.min sLen dLen=n) (hl:cs.length=n * 9)
  (hsrc:∀ j v,cs[j]? = some v→w.cell? (a.add j)=some v) (hc:∀ j,j<cs.length→(w.cell? ⟨b,o+j,none⟩).isSome=true) (hf:∀ j,j<cs.length→w.frozen? ⟨b,o+j,none⟩=false) (h1:∀ v∈cs,v.oneCell'=true) :
  (Builtin.copy_ #[55,sT] ty #[.slice (some ⟨b,o,none⟩) dLen dCap,.slice (some a) sLen sCap]).run Tryz.prog w=.ok (goInt n) (w.setCells b o cs):=by
 obtain ⟨i0,hi0,hz0,hz1,hz2⟩:=info_parts Tryz.infoFq
 have hl2:=run_firstCells_some (P:=Tryz.prog) w 9 n a sLen sCap cs hl hsrc
 have hst:=run_storeCells_cells (P:=Tryz.prog) b o cs 0 w (by simpa using hc) (by simpa using hf) h1
 simp only [Nat.add_zero] at hst
 simp [Builtin.copy_,run_underlying Tryz.underlying55,Builtin.lenOf,Go.sizeOf,typeInfo,hi0,hz1,hn,hl2,hst]
theorem wp_copy_runF (w:World) {o:Oper} {a:Act} {K:Act→World→Prop} {Q:Exit→Act→World→Prop} (d s:Operand) (t t':TypeId)
  (ho:o.op=.call { callee:=.builtin .copy,args:=#[d,s],argTypes:=#[t,t'] }) (v u:Value) (hd:a.eval d=v) (hs:a.eval s=u) {v':Value} {w':World}
  (hr:(Builtin.copy_ #[t,t'] o.type #[v,u]).run Tryz.prog w=.ok v' w') (h:K (a.put o.dst v') w'):o.wp Tryz.prog a w K Q:=by
 unfold Oper.wp execOp
 simp only [ho,resolve,invoke,builtin,Sem.run_bind,Sem.run_pure,Result.andThen_ok,List.map_toArray,List.map_cons,List.map_nil,hd,hs,hr]
 exact h
theorem wpList_copy_runF (w:World) {ops:Array Oper} {rest:List Oper} {o:Oper} {a:Act} {Q:Exit→Act→World→Prop} (hgd:o.guard=none) (d s:Operand) (t t':TypeId)
  (ho:o.op=.call { callee:=.builtin .copy,args:=#[d,s],argTypes:=#[t,t'] }) (v u:Value) (hd:a.eval d=v) (hs:a.eval s=u) {v':Value} {w':World}
  (hr:(Builtin.copy_ #[t,t'] o.type #[v,u]).run Tryz.prog w=.ok v' w') (h:wpList Tryz.prog ops Q rest (a.put o.dst v') w'):wpList Tryz.prog ops Q (o :: rest) a w :=
 wpList_plain hgd fun _ hK=>wp_copy_runF w d s t t' ho v u hd hs hr (hK _ _ h)
theorem step_copy_runF {ops:Array Oper} {o:Oper} {a:Act} {w:World} {K:Act→World→Prop} {Q:Exit→Act→World→Prop} {E:Prop}
  (hg:o.guard=none) (d x:Operand) (dT sT:TypeId) (hop:o.op=Op.call { callee:=Callee.builtin Builtin.copy,args:=#[d,x],argTypes:=#[dT,sT] })
  (v u:Value) (hd:a.eval d=v) (hx:a.eval x=u) {v':Value} {w':World} (hr:(Builtin.copy_ #[dT,sT] o.type #[v,u]).run Tryz.prog w=.ok v' w') (hK:K (a.put o.dst v') w') :
  if Region.wanted o (yielded ops a.tmps)=true then Oper.wp Tryz.prog o a w K Q else E:=by
 have hw:Region.wanted o (yielded ops a.tmps)=true:=by simp [Region.wanted,hg]
 rw [if_pos hw]
 exact wp_copy_runF w d x dT sT hop v u hd hx hr hK
theorem sizeFr (w:World):(Go.sizeOf 125).run Tryz.prog w=.ok 9 w:=by kernel_rfl
theorem ver_set {w:World} {b:Nat} {E S:Nat→Int} {t:TypeId} (h:w.heap[b]? = some (.cells (verL E S).toArray t (0,0))) {d:Nat} (hd:d<6) (p q:Int) :
  ((w.setCell ⟨b,d * 2,none⟩ (.int .i64 p)).setCell ⟨b,d * 2+1,none⟩ (.int .i64 q)).heap[b]? = some (.cells (verL (fun x=>if x=d then p else E x) (fun x=>if x=d then q else S x)).toArray t (0,0)):=by
 have e1:=heap_setCell_same w b (d * 2) _ _ (.int .i64 p) h
 rw [heap_setCell_same _ b (d * 2+1) _ _ _ e1,List.setIfInBounds_toArray,List.setIfInBounds_toArray]
 have hd6:d=0 ∨ d=1 ∨ d=2 ∨ d=3 ∨ d=4 ∨ d=5:=by omega
 rcases hd6 with rfl|rfl|rfl|rfl|rfl|rfl <;> rfl
theorem verL_snoc (P:List E3) (e:E3) {d s:Nat} (hd:e.d=(d:Int)) (hs:e.s=(s:Int)):(fun x=>if x=d then e.p else endL P x)=endL (P ++ [e])∧(fun x=>if x=d then bits .or .i64 (sitL P d) (2 ^ s) else sitL P x)=sitL (P ++ [e]):=by
 constructor
 ·funext x
  rw [endL_snoc]
  by_cases c:x=d
  ·rw [if_pos c,if_pos (by omega)]
  ·rw [if_neg c,if_neg (by omega)]
 ·funext x
  rw [sitL_snoc]
  by_cases c:x=d
  ·rw [if_pos c,if_pos (by omega),c,hs,Int.toNat_natCast]
  ·rw [if_neg c,if_neg (by omega)]
theorem ver_twelve {w:World} {b:Nat} {E S:Nat→Int} {t:TypeId} (h:w.heap[b]? = some (.cells (verL E S).toArray t (0,0))) :
  w.cell? ⟨b,0,none⟩=some (.int .i64 (E 0))∧w.cell? ⟨b,1,none⟩=some (.int .i64 (S 0))∧w.cell? ⟨b,2,none⟩=some (.int .i64 (E 1))∧w.cell? ⟨b,3,none⟩=some (.int .i64 (S 1))∧w.cell? ⟨b,4,none⟩=some (.int .i64 (E 2))∧w.cell? ⟨b,5,none⟩=some (.int .i64 (S 2))∧w.cell? ⟨b,6,none⟩=some (.int .i64 (E 3))∧w.cell? ⟨b,7,none⟩=some (.int .i64 (S 3))∧w.cell? ⟨b,8,none⟩=some (.int .i64 (E 4))∧w.cell? ⟨b,9,none⟩=some (.int .i64 (S 4))∧w.cell? ⟨b,10,none⟩=some (.int .i64 (E 5))∧w.cell? ⟨b,11,none⟩=some (.int .i64 (S 5)):=by
 refine ⟨?_,?_,?_,?_,?_,?_,?_,?_,?_,?_,?_,?_⟩ <;> rw [cell_of_row _ _ _ _ _ _ h] <;> rfl
def FltV (w:World) (A:Nat→Addr) (c k:Nat) (v:Value) (base:Nat):Prop:=(c=0∧v=.nilIface) ∨ (∃ x fb,c=x+1∧base≤fb∧v=.iface 100 (.pointer (some ⟨fb,0,none⟩))∧w.cell? ⟨fb,0,none⟩=some (.int .i64 (k:Int))∧w.cell? ⟨fb,1,none⟩=some (.iface 318 (.pointer (some (A x)))))
theorem jcheck_ok (A:Nat→Addr) (ad:Option Addr) (cap:Nat) (L:List E3) (n:Int) (c kk:Nat) (w:World) (hE:Held9 w A) (h1:1≤n) (h7:n≤7) (hL:EL w ad L) (hl:L.length≤100000) (hF:EvF n L c kk) :
  Calls Tryz.prog 60 #[.slice ad L.length cap,.int .i64 n] w fun e w'=>∃ v,e=.returned v∧FltV w' A c kk v w.heap.size∧Below w.heap.size w w':=by
 have HE:=hid hE
 have HL:=hid hL
 have HF:=hid hF
 have H7:=hid h7
 clear hE hL hF
 go_enter Tryz.func60,Tryz.ntmps60
 go_wp2_with fail
 go_loopw [19] (fun v wr=>∃ k:Nat,k≤kk∧v=.int .i64 (k:Int)∧wr.heap[w.heap.size]? = some (.cells (verL (endL (L.take k)) (sitL (L.take k))).toArray 179 (0,0))∧Below w.heap.size w wr) (fun v _=>L.length - (intOf v).toNat)
 case atStart =>
  refine ⟨0,Nat.zero_le _,rfl,?_,(Below.refl _ _).alloc (Nat.le_refl _) _⟩
  exact heap_alloc_new w _
 case round =>
  obtain ⟨k,hk,rfl,hrow,hb⟩:=hrel
  have HB:=hid hb
  by_cases hlt:k<L.length
  ·obtain ⟨b,o,rfl,y0,y1,y2⟩:=HL.out k hlt
   obtain ⟨⟨s,d,p⟩,HS⟩:∃ e,Hid (L[k]'hlt=e):=⟨_,rfl⟩
   rw [HS.out] at y0 y1 y2
   replace y0:=cell_later hb y0
   replace y1:=cell_later hb y1
   replace y2:=cell_later hb y2
   obtain ⟨W2,HW2⟩:∃ W2,Hid (wr.alloc (.cells #[.int .i64 s,.int .i64 d,.int .i64 p] 180)=W2):=⟨_,rfl⟩
   have hW2:=HW2.out
   have HB2:Hid (Below wr.heap.size wr W2):=by rw [← HW2.out]; exact (Below.refl _ _).alloc (Nat.le_refl _) _
   have HR2:Hid (W2.heap[w.heap.size]? = some (.cells (verL (endL (L.take k)) (sitL (L.take k))).toArray 179 (0,0))):=row_later HB2.out hrow
   obtain ⟨z0,z1,z2,z3,z4,z5,z6,z7,z8,z9,z10,z11⟩:=ver_twelve HR2.out
   have HRe:Hid (W2.heap[wr.heap.size]? = some (.cells #[.int .i64 s,.int .i64 d,.int .i64 p] 180 (0,0))):=by rw [← HW2.out]; exact heap_alloc_new wr _
   obtain ⟨r0,r1,r2⟩:=threeE HRe.out
   have hwb:=row_ltJ hrow
   have HK:Hid (EvK n (L.take k)):=(show EvW n L k from fun j hj hjk=>HF.out.1 j hj (by omega)).kept H7.out (by omega)
   clear hb
   by_cases hkk:k<kk
   ·have HC:Hid (evC n (L.take k) ⟨s,d,p⟩=0):=by have:=HF.out.1 k hlt hkk; rw [HS.out] at this; exact this
    have HFa:=hid (jfault_any A ⟨s,d,p⟩ n (L.take k) 0 W2 ((HE.out.later HB.out).later HB2.out) H7.out HK.out HC.out)
    unfold verV at HFa
    rw [show ev A 0=.nilIface from rfl] at HFa
    obtain ⟨⟨s0,s1⟩,⟨d0,d1⟩,-⟩:=of_decide_eq_true (evC_zero HC.out).1
    simp only at s0 s1 d0 d1
    obtain ⟨sn,rfl⟩:=Int.eq_ofNat_of_zero_le s0
    obtain ⟨dn,rfl⟩:=Int.eq_ofNat_of_zero_le d0
    have hs7:sn<7:=by omega
    have hd6:dn<6:=by omega
    have HSn:Hid (L.take (k+1)=L.take k ++ [⟨sn,dn,p⟩]):=by show _=_; rw [take_snoc L k hlt,HS.out]
    go_wp2_with fail
    refine HFa.out.mono ?_
    rintro e w3 ⟨rfl,hb3⟩
    have HR3:=hid (row_later hb3 HR2.out)
    have HRe3:=hid (row_later hb3 HRe.out)
    have HB3:=hid (below_trans (below_trans HB.out HB2.out) hb3)
    clear hb3 r0 r1 r2 z0 z1 z2 z3 z4 z5 z6 z7 z8 z9 z10 z11
    obtain ⟨r0,r1,r2⟩:=threeE HRe3.out
    obtain ⟨v0,v1⟩:=ver_cells HR3.out hd6
    have f0:=frozen_of_row _ _ (dn * 2) _ _ HR3.out
    have f1:=frozen_of_row _ _ (dn * 2+1) _ _ HR3.out
    have HV:=hid (ver_set HR3.out hd6 p (bits .or .i64 (sitL (L.take k) dn) (2 ^ sn)))
    rw [(verL_snoc (L.take k) ⟨sn,dn,p⟩ rfl rfl).1,(verL_snoc (L.take k) ⟨sn,dn,p⟩ rfl rfl).2,← HSn.out] at HV
    have hp:=(pow_le7 (n:=sn) (by omega)).1
    have hp2:=(pow_le7 (n:=sn) (by omega)).2
    obtain ⟨W4,HW4⟩:∃ W4,Hid (w3.setCell ⟨w.heap.size,dn * 2,none⟩ (.int .i64 p)=W4):=⟨_,rfl⟩
    have hW4:=HW4.out
    rw [hW4] at HV
    have HR4:=hid (heap_setCell_same w3 w.heap.size (dn * 2) _ _ (.int .i64 p) HR3.out)
    have HRe4:=hid ((heap_setCell_other w3 ⟨w.heap.size,dn * 2,none⟩ wr.heap.size (.int .i64 p) (by show wr.heap.size≠w.heap.size; omega)).trans HRe3.out)
    rw [hW4] at HR4 HRe4
    have q1:W4.cell? ⟨w.heap.size,dn * 2+1,none⟩=some (.int .i64 (sitL (L.take k) dn)):=by rw [cell_of_row _ _ _ _ _ _ HR4.out,List.setIfInBounds_toArray,List.getElem?_toArray,List.getElem?_set_ne (by omega)]; exact (verL_get _ _ hd6).2
    obtain ⟨q2,q3,q4⟩:=threeE HRe4.out
    have f4:=frozen_of_row _ _ (dn * 2+1) _ _ HR4.out
    have HB4:Hid (Below w.heap.size w W4):=by rw [← hW4]; exact HB3.out.setCell (Nat.le_refl _) _
    go_wp2_with fail
    go_region
    all_goals go_wp2_with fail
    go_roundw
    case rel =>
     refine ⟨k+1,by omega,by go_num,HV.out,?_⟩
     exact (HB4.out.setCell (Nat.le_refl _) _).drew
    case measure=>simp [intOf]; omega
   ·obtain rfl:k=kk:=by omega
    obtain ⟨cx,HCx⟩:∃ cx,Hid (c=cx+1∧evC n (L.take k) ⟨s,d,p⟩=cx+1):=by
     rcases HF.out.2 with ⟨-,h⟩|⟨h,hc,he⟩
     ·omega
     ·rw [HS.out] at he
      exact ⟨c - 1,by omega,by rw [he]; omega⟩
    have HFa:=hid (jfault_any A ⟨s,d,p⟩ n (L.take k) (cx+1) W2 ((HE.out.later HB.out).later HB2.out) H7.out HK.out HCx.out.2)
    unfold verV at HFa
    rw [show ev A (cx+1)=.iface 318 (.pointer (some (A cx))) from rfl] at HFa
    go_wp2_with fail
    refine HFa.out.mono ?_
    rintro e w3 ⟨rfl,hb3⟩
    have HB3:=hid (below_trans (below_trans HB.out HB2.out) hb3)
    clear hb3
    go_wp2_with fail
    go_ret
    refine ⟨_,rfl,.inr ⟨cx,w3.heap.size,HCx.out.1,HB3.out.size,rfl,?_,?_⟩,HB3.out.alloc HB3.out.size _⟩
    ·rw [cell_of_row _ _ _ _ _ _ (heap_alloc_new w3 _)]; rfl
    ·rw [cell_of_row _ _ _ _ _ _ (heap_alloc_new w3 _)]; rfl
  ·have HC0:Hid (c=0∧k=L.length):=by
    rcases HF.out.2 with ⟨h1,h2⟩|⟨h1,h2,h3⟩
    ·exact ⟨h1,by omega⟩
    ·omega
   have hk2:¬ ((k:Int)<(L.length:Int)):=by omega
   go_wp2_with fail
   go_ret
   exact ⟨_,rfl,.inl ⟨HC0.out.1,rfl⟩,HB.out⟩
def RP (w:World) (r:Nat) (B:ByteArray) (off:Bool) (l:Int) (cuts:Bool):Prop :=
 w.heap[r]? = some (.cells #[.string B,.bool off,.int .i64 l,.bool cuts] 62 (0,0))
theorem RP.c0 {w:World} {r:Nat} {B:ByteArray} {off cuts:Bool} {l:Int} (h:RP w r B off l cuts):w.cell? ⟨r,0,none⟩=some (.string B):=by rw [cell_of_row w r 0 _ _ _ h]; rfl
theorem RP.c1 {w:World} {r:Nat} {B:ByteArray} {off cuts:Bool} {l:Int} (h:RP w r B off l cuts):w.cell? ⟨r,1,none⟩=some (.bool off):=by rw [cell_of_row w r 1 _ _ _ h]; rfl
theorem RP.c2 {w:World} {r:Nat} {B:ByteArray} {off cuts:Bool} {l:Int} (h:RP w r B off l cuts):w.cell? ⟨r,2,none⟩=some (.int .i64 l):=by rw [cell_of_row w r 2 _ _ _ h]; rfl
theorem RP.c3 {w:World} {r:Nat} {B:ByteArray} {off cuts:Bool} {l:Int} (h:RP w r B off l cuts):w.cell? ⟨r,3,none⟩=some (.bool cuts):=by rw [cell_of_row w r 3 _ _ _ h]; rfl
theorem RP.fz {w:World} {r:Nat} {B:ByteArray} {off cuts:Bool} {l:Int} (h:RP w r B off l cuts) (i:Nat):w.frozen? ⟨r,i,none⟩=false:=frozen_of_row w r i _ _ h
theorem RP.s0 {w:World} {r:Nat} {B:ByteArray} {off cuts:Bool} {l:Int} (h:RP w r B off l cuts) (B':ByteArray):RP (w.setCell ⟨r,0,none⟩ (.string B')) r B' off l cuts:=by unfold RP; rw [heap_setCell_same w r 0 _ _ _ h]; rfl
theorem RP.s1 {w:World} {r:Nat} {B:ByteArray} {off cuts:Bool} {l:Int} (h:RP w r B off l cuts) (b:Bool):RP (w.setCell ⟨r,1,none⟩ (.bool b)) r B b l cuts:=by unfold RP; rw [heap_setCell_same w r 1 _ _ _ h]; rfl
theorem RP.s2 {w:World} {r:Nat} {B:ByteArray} {off cuts:Bool} {l:Int} (h:RP w r B off l cuts) (l':Int):RP (w.setCell ⟨r,2,none⟩ (.int .i64 l')) r B off l' cuts:=by unfold RP; rw [heap_setCell_same w r 2 _ _ _ h]; rfl
theorem RP.s3 {w:World} {r:Nat} {B:ByteArray} {off cuts:Bool} {l:Int} (h:RP w r B off l cuts) (b:Bool):RP (w.setCell ⟨r,3,none⟩ (.bool b)) r B off l b:=by unfold RP; rw [heap_setCell_same w r 3 _ _ _ h]; rfl
theorem RP.drew {w:World} {r:Nat} {B:ByteArray} {off cuts:Bool} {l:Int} (h:RP w r B off l cuts):RP w.drew r B off l cuts:=h
theorem RP.kept {S:Nat→Prop} {w w':World} {r:Nat} {B:ByteArray} {off cuts:Bool} {l:Int} (h:RP w r B off l cuts) (k:Kept S w w') (hr:¬ S r):RP w' r B off l cuts:=k.row h hr
theorem rperr_bound (r:Nat) (B:ByteArray) (off cuts:Bool) (l a n:Int) (w:World) (h:RP w r B off l cuts) (hB:B.size≤1000) (hb:a<0 ∨ n<0 ∨ (B.size:Int) - n<a) :
  Calls Tryz.prog 209 #[.pointer (some ⟨r,0,none⟩),.int .i64 a,.int .i64 n] w fun e w'=>e=.returned (.int .i64 2)∧w'=w:=by
 have c0:=h.c0
 clear h
 by_cases h1:a<0
 ·clear hb
  go_enter Tryz.func209,Tryz.ntmps209
  go_wp2
  go_ret
  exact ⟨rfl,rfl⟩
 ·by_cases h2:n<0
  ·clear hb
   go_enter Tryz.func209,Tryz.ntmps209
   go_wp2
   go_ret
   exact ⟨rfl,rfl⟩
  ·by_cases h3:(B.size:Int)<a
   ·clear hb
    go_enter Tryz.func209,Tryz.ntmps209
    go_wp2
    go_ret
    exact ⟨rfl,rfl⟩
   ·have h4:(B.size:Int) - a<n:=by omega
    clear hb
    go_enter Tryz.func209,Tryz.ntmps209
    go_wp2
    go_ret
    exact ⟨rfl,rfl⟩
theorem rperr_in (r:Nat) (B:ByteArray) (off cuts:Bool) (l a n:Int) (w:World) (h:RP w r B off l cuts) (hB:B.size≤1000) (hb:¬ (a<0 ∨ n<0 ∨ (B.size:Int) - n<a)) :
  Calls Tryz.prog 209 #[.pointer (some ⟨r,0,none⟩),.int .i64 a,.int .i64 n] w fun e w'=>e=.returned (.int .i64 (if off then 6 else 0))∧w'=w:=by
 have c0:=h.c0
 have c1:=h.c1
 have h1:¬ a<0:=fun g=>hb (.inl g)
 have h2:¬ n<0:=fun g=>hb (.inr (.inl g))
 have h3:¬ (B.size:Int) - n<a:=fun g=>hb (.inr (.inr g))
 have h4:¬ (B.size:Int)<a:=by omega
 have h5:¬ (B.size:Int) - a<n:=by omega
 clear h hb
 cases off with
 | true =>
  go_enter Tryz.func209,Tryz.ntmps209
  go_wp2
  go_ret
  exact ⟨rfl,rfl⟩
 | false =>
  go_enter Tryz.func209,Tryz.ntmps209
  go_wp2
  go_ret
  exact ⟨rfl,rfl⟩
theorem rpcut_bound (v:Value) (n:Int) (w:World) (hn:n<0) :
  Calls Tryz.prog 94 #[v,.int .i64 n] w fun e w'=>e=.returned (.int .i64 2)∧w'=w:=by
 go_enter Tryz.func94,Tryz.ntmps94
 go_wp2
 go_ret
 exact ⟨rfl,rfl⟩
theorem rpcut_off (r:Nat) (B:ByteArray) (cuts:Bool) (l n:Int) (w:World) (h:RP w r B true l cuts) (hn:¬ n<0) :
  Calls Tryz.prog 94 #[.pointer (some ⟨r,0,none⟩),.int .i64 n] w fun e w'=>e=.returned (.int .i64 6)∧w'=w:=by
 have c1:=h.c1
 clear h
 go_enter Tryz.func94,Tryz.ntmps94
 go_wp2
 go_ret
 exact ⟨rfl,rfl⟩
theorem rpcut_ok (r:Nat) (B:ByteArray) (cuts:Bool) (l n:Int) (w:World) (h:RP w r B false l cuts) (hn:¬ n<0) :
  Calls Tryz.prog 94 #[.pointer (some ⟨r,0,none⟩),.int .i64 n] w fun e w'=>e=.returned (.int .i64 0)∧RP w' r B false n true∧Kept (In1 r) w w':=by
 have c1:=h.c1
 have c2:=h.c2
 have c3:=h.c3
 have f2:=h.fz 2
 have f3:=h.fz 3
 have H:=hid ((h.s3 true).s2 n)
 clear h
 go_enter Tryz.func94,Tryz.ntmps94
 go_wp2
 go_ret
 exact ⟨rfl,H.out,((Kept.refl _ w).set1 _ _).set1 _ _⟩
theorem rpon_any (r:Nat) (B:ByteArray) (off cuts:Bool) (l:Int) (w:World) (h:RP w r B off l cuts) :
  Calls Tryz.prog 90 #[.pointer (some ⟨r,0,none⟩)] w fun e w'=>e=.returned (.tuple #[])∧RP w' r B false l false∧Kept (In1 r) w w':=by
 have c1:=h.c1
 have c3:=h.c3
 have f1:=h.fz 1
 have f3:=h.fz 3
 have H:=hid ((h.s1 false).s3 false)
 clear h
 go_enter Tryz.func90,Tryz.ntmps90
 go_wp2
 go_end0
 exact ⟨rfl,H.out,((Kept.refl _ w).set1 _ _).set1 _ _⟩
theorem rpwrite_bound (r:Nat) (B s:ByteArray) (off cuts:Bool) (l a:Int) (w:World) (h:RP w r B off l cuts) (hB:B.size≤1000) (hb:a<0 ∨ (B.size:Int) - s.size<a) :
  Calls Tryz.prog 210 #[.pointer (some ⟨r,0,none⟩),.int .i64 a,.string s] w fun e w'=>e=.returned (.int .i64 2)∧w'=w:=by
 have H:=hid h
 clear h
 go_enter Tryz.func210,Tryz.ntmps210
 go_wp2_with (go_at_call 209; refine (rperr_bound r B off cuts l _ _ _ H.out hB (by omega)).mono ?_; rintro e w' ⟨rfl,rfl⟩)
 go_ret
 exact ⟨rfl,rfl⟩
theorem rpwrite_off (r:Nat) (B s:ByteArray) (cuts:Bool) (l a:Int) (w:World) (h:RP w r B true l cuts) (hB:B.size≤1000) (hb:¬ (a<0 ∨ (B.size:Int) - s.size<a)) :
  Calls Tryz.prog 210 #[.pointer (some ⟨r,0,none⟩),.int .i64 a,.string s] w fun e w'=>e=.returned (.int .i64 6)∧w'=w:=by
 have H:=hid h
 clear h
 go_enter Tryz.func210,Tryz.ntmps210
 go_wp2_with (go_at_call 209; refine (rperr_in r B true cuts l _ _ _ H.out hB (by omega)).mono ?_; rw [if_pos rfl]; rintro e w' ⟨rfl,rfl⟩)
 go_ret
 exact ⟨rfl,rfl⟩
theorem putB_full (B:ByteArray) (a:Nat) (s:ByteArray):putB B a s s.size=B.extract 0 a ++ s ++ B.extract (a+s.size) B.size:=by
 unfold putB; simp
theorem rpwrite_free (r:Nat) (B s:ByteArray) (l:Int) (a:Nat) (w:World) (h:RP w r B false l false) (hB:B.size≤1000) (ha:a+s.size≤B.size) :
  Calls Tryz.prog 210 #[.pointer (some ⟨r,0,none⟩),.int .i64 a,.string s] w fun e w'=>e=.returned (.int .i64 0)∧RP w' r (putB B a s s.size) false l false∧Kept (In1 r) w w':=by
 have H:=hid h
 have c0:=h.c0
 have c1:=h.c1
 have c3:=h.c3
 have f0:=h.fz 0
 rw [putB_full]
 clear h
 go_enter Tryz.func210,Tryz.ntmps210
 go_wp2_with (go_at_call 209; refine (rperr_in r B false false l _ _ _ H.out hB (by omega)).mono ?_; rintro e wx ⟨rfl,hx⟩; subst wx)
 go_region
 all_goals go_wp2
 all_goals go_ret
 all_goals exact ⟨rfl,(H.out.s0 _).drew,((Kept.refl _ w).set1 _ _).drew⟩
theorem rpwrite_far (r:Nat) (B s:ByteArray) (l:Int) (a:Nat) (w:World) (h:RP w r B false l true) (hB:B.size≤1000) (ha:a+s.size≤B.size) (hl:(s.size:Int)≤l) (hl2:l≤9223372036854775807) :
  Calls Tryz.prog 210 #[.pointer (some ⟨r,0,none⟩),.int .i64 a,.string s] w fun e w'=>e=.returned (.int .i64 0)∧RP w' r (putB B a s s.size) false (l - s.size) true∧Kept (In1 r) w w':=by
 have H:=hid h
 have c0:=h.c0
 have c1:=h.c1
 have c2:=h.c2
 have c3:=h.c3
 have f0:=h.fz 0
 have f2:=h.fz 2
 rw [putB_full]
 clear h
 go_enter Tryz.func210,Tryz.ntmps210
 go_wp2_with (go_at_call 209; refine (rperr_in r B false true l _ _ _ H.out hB (by omega)).mono ?_; rintro e wx ⟨rfl,hx⟩; subst wx)
 go_region
 all_goals go_wp2
 all_goals go_ret
 all_goals exact ⟨rfl,((H.out.s0 _).s2 _).drew,(((Kept.refl _ w).set1 _ _).set1 _ _).drew⟩
theorem rpwrite_near (r:Nat) (B s:ByteArray) (l a:Nat) (w:World) (h:RP w r B false l true) (hB:B.size≤1000) (ha:a+s.size≤B.size) (hl:l<s.size) :
  Calls Tryz.prog 210 #[.pointer (some ⟨r,0,none⟩),.int .i64 a,.string s] w fun e w'=>e=.returned (.int .i64 6)∧RP w' r (putB B a s l) true 0 true∧Kept (In1 r) w w':=by
 have H:=hid h
 have c0:=h.c0
 have c1:=h.c1
 have c2:=h.c2
 have c3:=h.c3
 have f0:=h.fz 0
 have f1:=h.fz 1
 have f2:=h.fz 2
 unfold putB
 clear h
 go_enter Tryz.func210,Tryz.ntmps210
 go_wp2_with (go_at_call 209; refine (rperr_in r B false true l _ _ _ H.out hB (by omega)).mono ?_; rintro e wx ⟨rfl,hx⟩; subst wx)
 go_region
 all_goals go_wp2
 all_goals go_ret
 all_goals exact ⟨rfl,(((H.out.s1 _).s0 _).s2 _).drew,((((Kept.refl _ w).set1 _ _).set1 _ _).set1 _ _).drew⟩
theorem write_rp (r:Nat) (B s:ByteArray) (l a l':Int) (off cuts:Bool) (w:World) (h:RP w r B off l' cuts) (hk:Lk l off l' cuts) (hB:B.size≤1000) :
  Calls Tryz.prog 210 #[.pointer (some ⟨r,0,none⟩),.int .i64 a,.string s] w fun e w'=>e=.returned (.int .i64 (wC B s l a))∧(∃ off2 l2 cuts2,RP w' r (wB B s l a) off2 l2 cuts2∧Lk (wL B s l a) off2 l2 cuts2)∧Kept (In1 r) w w':=by
 by_cases hb:wBad B s a
 ·simp only [wC,wB,wL,if_pos hb]
  refine (rpwrite_bound r B s off cuts l' a w h hB hb).mono ?_
  rintro e w' ⟨rfl,rfl⟩
  exact ⟨rfl,⟨off,l',cuts,h,hk⟩,Kept.refl _ _⟩
 ·rcases hk with ⟨rfl,rfl⟩|⟨rfl,rfl,rfl⟩|⟨rfl,rfl,rfl,h0,h1⟩
  ·simp only [wC,wB,wL,if_neg hb,if_pos]
   refine (rpwrite_off r B s cuts l' a w h hB hb).mono ?_
   rintro e w' ⟨rfl,rfl⟩
   exact ⟨rfl,⟨true,l',cuts,h,.inl ⟨rfl,rfl⟩⟩,Kept.refl _ _⟩
  ·have hb':=hb
   unfold wBad at hb'
   obtain ⟨a',rfl⟩:∃ a':Nat,a=a':=⟨a.toNat,by omega⟩
   simp only [wC,wB,wL,if_neg hb,if_neg (show ¬ (-1:Int)=-2 by omega),if_neg (show ¬ ((0:Int)≤-1∧(-1:Int)<(s.size:Int)) by omega),if_pos (show (-1:Int)<0 by omega),Int.toNat_natCast]
   refine (rpwrite_free r B s l' a' w h hB (by omega)).mono ?_
   rintro e w' ⟨rfl,h1,h2⟩
   exact ⟨rfl,⟨_,_,_,h1,.inr (.inl ⟨rfl,rfl,rfl⟩)⟩,h2⟩
  ·have hb':=hb
   unfold wBad at hb'
   obtain ⟨a',rfl⟩:∃ a':Nat,a=a':=⟨a.toNat,by omega⟩
   obtain ⟨l',rfl⟩:∃ l':Nat,l=l':=⟨l.toNat,by omega⟩
   simp only [wC,wB,wL,if_neg hb,if_neg (show ¬ (l':Int)=-2 by omega),Int.toNat_natCast,if_neg (show ¬ (l':Int)<0 by omega)]
   by_cases hn:(0:Int)≤l'∧(l':Int)<s.size
   ·simp only [if_pos hn]
    refine (rpwrite_near r B s l' a' w h hB (by omega) (by omega)).mono ?_
    rintro e w' ⟨rfl,h1,h2⟩
    exact ⟨rfl,⟨_,_,_,h1,.inl ⟨rfl,rfl⟩⟩,h2⟩
   ·simp only [if_neg hn]
    refine (rpwrite_far r B s l' a' w h hB (by omega) (by omega) h1).mono ?_
    rintro e w' ⟨rfl,h3,h4⟩
    exact ⟨rfl,⟨_,_,_,h3,.inr (.inr ⟨rfl,rfl,rfl,by omega,by omega⟩)⟩,h4⟩
theorem cut_rp (r:Nat) (B:ByteArray) (l n l':Int) (off cuts:Bool) (w:World) (h:RP w r B off l' cuts) (hk:Lk l off l' cuts) (hn9:n≤9223372036854775807) :
  Calls Tryz.prog 94 #[.pointer (some ⟨r,0,none⟩),.int .i64 n] w fun e w'=>e=.returned (.int .i64 (cC l n))∧(∃ off2 l2 cuts2,RP w' r B off2 l2 cuts2∧Lk (cL l n) off2 l2 cuts2)∧Kept (In1 r) w w':=by
 by_cases hn:n<0
 ·simp only [cC,cL,if_pos hn]
  refine (rpcut_bound _ n w hn).mono ?_
  rintro e w' ⟨rfl,rfl⟩
  exact ⟨rfl,⟨_,_,_,h,hk⟩,Kept.refl _ _⟩
 ·have fin:∀ (hl:¬ l=-2),off=false→Calls Tryz.prog 94 #[.pointer (some ⟨r,0,none⟩),.int .i64 n] w fun e w'=>e=.returned (.int .i64 (cC l n))∧(∃ off2 l2 cuts2,RP w' r B off2 l2 cuts2∧Lk (cL l n) off2 l2 cuts2)∧Kept (In1 r) w w':=by
   rintro hl rfl
   simp only [cC,cL,if_neg hn,if_neg hl]
   refine (rpcut_ok r B cuts l' n w h hn).mono ?_
   rintro e w' ⟨rfl,h3,h4⟩
   exact ⟨rfl,⟨_,_,_,h3,.inr (.inr ⟨rfl,rfl,rfl,by omega,by omega⟩)⟩,h4⟩
  rcases hk with ⟨rfl,rfl⟩|⟨rfl,rfl,rfl⟩|⟨rfl,rfl,rfl,h0,h1⟩
  ·simp only [cC,cL,if_neg hn,if_pos]
   refine (rpcut_off r B cuts l' n w h hn).mono ?_
   rintro e w' ⟨rfl,rfl⟩
   exact ⟨rfl,⟨_,_,_,h,.inl ⟨rfl,rfl⟩⟩,Kept.refl _ _⟩
  ·exact fin (by omega) rfl
  ·exact fin (by omega) rfl
theorem err_rp (r:Nat) (B:ByteArray) (l a n l':Int) (off cuts:Bool) (w:World) (h:RP w r B off l' cuts) (hk:Lk l off l' cuts) (hB:B.size≤1000) :
  Calls Tryz.prog 209 #[.pointer (some ⟨r,0,none⟩),.int .i64 a,.int .i64 n] w fun e w'=>e=.returned (.int .i64 (rC B l a n))∧w'=w:=by
 by_cases hb:a<0 ∨ n<0 ∨ (B.size:Int) - n<a
 ·simp only [rC,if_pos hb]
  exact rperr_bound r B off cuts l' a n w h hB hb
 ·simp only [rC,if_neg hb]
  refine (rperr_in r B off cuts l' a n w h hB hb).mono ?_
  rintro e w' ⟨rfl,rfl⟩
  refine ⟨?_,rfl⟩
  rcases hk with ⟨rfl,rfl⟩|⟨rfl,rfl,rfl⟩|⟨rfl,rfl,rfl,h0,h1⟩
  ·rfl
  ·rfl
  ·rw [if_neg (show ¬ l=-2 by omega)]; rfl
end Go.Proofs.YtaehdgemkafinaaGreatDoor
