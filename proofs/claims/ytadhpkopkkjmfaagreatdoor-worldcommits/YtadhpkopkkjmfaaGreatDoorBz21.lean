/-
  On the way to WStepsProof, WCommitsProof, WAgreesProof, WEndsProof, WWaitsProof, JTampersProof, PAgreesProof, PAgainProof: Q1 Q2 Q3 Q4 Q5.
-/
import Derived.Test.YtadhpkopkkjmfaaGreatDoorBz6
import Derived.Test.YtadhpkopkkjmfaaGreatDoorBz12
set_option maxHeartbeats 8000000
set_option maxRecDepth 100000
namespace Go.Proofs.YtadhpkopkkjmfaaGreatDoor
open Go.RowKit
def toldC (L:List S3):List Value:=L.flatMap fun s=>[.int .i64 s.p,.int .i64 s.r,.int .i64 s.a]
def pC (id:Nat) (deal att:Int) (vw:Value) (P:PL):List Value :=
 .int .i64 id :: .int .i64 deal :: .int .i64 att :: vw :: .string (stP P.stt) :: .int .i64 P.ans :: (toldC P.told ++ [.int .i64 P.prep,.int .i64 P.seen,.bool P.has])
theorem seven {L:List S3} (h:L.length=7):∃ a b c d e f g,L=[a,b,c,d,e,f,g]:=by
 match L,h with
 | [a,b,c,d,e,f,g],_=>exact ⟨a,b,c,d,e,f,g,rfl⟩
structure LD (w:World) (lb b cap id:Nat) (deal att:Int) (zs:List Int) (P:PL):Prop where
 row:w.heap[lb]? = some (.cells (pC id deal att (.slice (some ⟨b,0,none⟩) zs.length cap) P).toArray 174 (0,0))
 ws:∀ i,i<zs.length→w.cell? ⟨b,0+i,none⟩=some (.int .i64 (zs.getD i 0))
 bl:b<lb
 pw:PW zs.length P
 glo:∀ j,gW j<lb
section
variable {w w':World} {lb b cap id:Nat} {deal att:Int} {zs:List Int} {P:PL}
theorem LD.kept {S:Nat→Prop} (h:LD w lb b cap id deal att zs P) (k:Kept S w w') (h1:¬ S lb) (h2:¬ S b):LD w' lb b cap id deal att zs P :=
 ⟨k.row h.row h1,fun i hi=>by
  have:=h.ws i hi
  have hb:b<w.heap.size:=cell_lt this
  unfold World.cell? at this ⊢
  rw [show w'.heap[(⟨b,0+i,none⟩:Addr).block]? = w.heap[(⟨b,0+i,none⟩:Addr).block]? from k.block b hb h2]
  exact this,h.bl,h.pw,h.glo⟩
theorem LD.later (h:LD w lb b cap id deal att zs P) (hb:Below w.heap.size w w'):LD w' lb b cap id deal att zs P :=
 h.kept (S:=fun _=>False) (Kept.of_below hb) (fun x=>x) (fun x=>x)
theorem LD.sl (h:LD w lb b cap id deal att zs P) (hm:zs.length≤7):IsSl w (.slice (some ⟨b,0,none⟩) zs.length cap) zs :=
 ⟨_,cap,rfl,by unfold maxLen; omega,(fun x=>by cases x),fun _=>⟨b,0,rfl,h.ws⟩⟩
theorem LD.cells (h:LD w lb b cap id deal att zs P) :
  w.cell? ⟨lb,0,none⟩=some (.int .i64 (id:Int))∧w.cell? ⟨lb,1,none⟩=some (.int .i64 deal)∧w.cell? ⟨lb,2,none⟩=some (.int .i64 att)∧w.cell? ⟨lb,3,none⟩=some (.slice (some ⟨b,0,none⟩) zs.length cap) ∧
  w.cell? ⟨lb,4,none⟩=some (.string (stP P.stt))∧w.cell? ⟨lb,5,none⟩=some (.int .i64 P.ans)∧w.cell? ⟨lb,27,none⟩=some (.int .i64 P.prep)∧w.cell? ⟨lb,28,none⟩=some (.int .i64 P.seen)∧w.cell? ⟨lb,29,none⟩=some (.bool P.has):=by
 have hr:=h.row
 obtain ⟨t0,t1,t2,t3,t4,t5,t6,e⟩:=seven h.pw.len
 unfold pC at hr
 rw [e] at hr
 refine ⟨?_,?_,?_,?_,?_,?_,?_,?_,?_⟩ <;> rw [cell_of_row _ _ _ _ _ _ hr] <;> rfl
theorem LD.fz (h:LD w lb b cap id deal att zs P) (i:Nat):w.frozen? ⟨lb,i,none⟩=false:=by
 first
  | exact frozen_of_row h.row
  | (unfold World.frozen?; simp [h.row])
theorem LD.set {Q:PL} {i:Nat} {v:Value} (h:LD w lb b cap id deal att zs P) (hq:PW zs.length Q)
  (e:(pC id deal att (.slice (some ⟨b,0,none⟩) zs.length cap) P).set i v=pC id deal att (.slice (some ⟨b,0,none⟩) zs.length cap) Q):LD (w.setCell ⟨lb,i,none⟩ v) lb b cap id deal att zs Q :=
 ⟨by rw [heap_setCell_same w lb i _ _ _ h.row,List.setIfInBounds_toArray,e],fun j hj=>by
  have:=h.ws j hj
  have hb:=h.bl
  unfold World.cell? at this ⊢
  rw [show (w.setCell ⟨lb,i,none⟩ v).heap[(⟨b,0+j,none⟩:Addr).block]? = w.heap[(⟨b,0+j,none⟩:Addr).block]? from heap_setCell_other _ _ _ _ (by show b≠lb; omega)]
  exact this,h.bl,hq,h.glo⟩
theorem LD.setSt (h:LD w lb b cap id deal att zs P) (k:Nat):LD (w.setCell ⟨lb,4,none⟩ (.string (stP k))) lb b cap id deal att zs { P with stt:=k } :=
 h.set ⟨h.pw.len,h.pw.lo,h.pw.hi⟩ rfl
theorem LD.setAns (h:LD w lb b cap id deal att zs P) (x:Int) (h0:0≤x) (h1:x<2 ^ zs.length):LD (w.setCell ⟨lb,5,none⟩ (.int .i64 x)) lb b cap id deal att zs { P with ans:=x } :=
 h.set ⟨h.pw.len,h0,h1⟩ rfl
theorem LD.setPrep (h:LD w lb b cap id deal att zs P) (x:Int):LD (w.setCell ⟨lb,27,none⟩ (.int .i64 x)) lb b cap id deal att zs { P with prep:=x }:=by
 obtain ⟨t0,t1,t2,t3,t4,t5,t6,e⟩:=seven h.pw.len
 exact h.set ⟨h.pw.len,h.pw.lo,h.pw.hi⟩ (by unfold pC; simp only [e]; rfl)
theorem LD.setSeen (h:LD w lb b cap id deal att zs P) (x:Int):LD (w.setCell ⟨lb,28,none⟩ (.int .i64 x)) lb b cap id deal att zs { P with seen:=x }:=by
 obtain ⟨t0,t1,t2,t3,t4,t5,t6,e⟩:=seven h.pw.len
 exact h.set ⟨h.pw.len,h.pw.lo,h.pw.hi⟩ (by unfold pC; simp only [e]; rfl)
theorem LD.setHas (h:LD w lb b cap id deal att zs P) (x:Bool):LD (w.setCell ⟨lb,29,none⟩ (.bool x)) lb b cap id deal att zs { P with has:=x }:=by
 obtain ⟨t0,t1,t2,t3,t4,t5,t6,e⟩:=seven h.pw.len
 exact h.set ⟨h.pw.len,h.pw.lo,h.pw.hi⟩ (by unfold pC; simp only [e]; rfl)
end
def FrB (base:Nat) (w:World) (v:Value) (L:List F9):Prop:=∃ ad cap,v=.slice ad L.length cap∧FL w ad L∧∀ p,ad=some p→base≤p.block
theorem FrB.fr {base:Nat} {w:World} {v:Value} {L:List F9} (h:FrB base w v L):IsFr w v L:=by
 obtain ⟨ad,cap,e,hf,-⟩:=h
 exact ⟨ad,cap,e,hf⟩
theorem FrB.mono {base B:Nat} {w:World} {v:Value} {L:List F9} (h:FrB base w v L) (hb:B≤base):FrB B w v L:=by
 obtain ⟨ad,cap,e,hf,hg⟩:=h
 exact ⟨ad,cap,e,hf,fun p hp=>Nat.le_trans hb (hg p hp)⟩
theorem FrB.zero (base:Nat) (w:World):FrB base w (.slice none 0 0) []:=⟨none,0,rfl,FL.nil _ _,fun p hp=>by cases hp⟩
theorem FrB.owned {w:World} {base:Nat} {v:Value} {L:List F9} (h:w.ownsRow base 104 9 v L.length (frCells L)):FrB base w v L:=by
 obtain ⟨ad,cap,e,hf⟩:=IsFr.owned h
 subst e
 refine ⟨ad,cap,rfl,hf,fun p hp=>?_⟩
 subst hp
 rcases h.2 with ⟨hx,-⟩|⟨g,cap',cur,hx,hb,-⟩
 ·cases hx
 ·cases hx
  exact hb
theorem FrB.kept {S:Nat→Prop} {base:Nat} {w w':World} {v:Value} {L:List F9} (h:FrB base w v L) (k:Kept S w w') (hS:∀ i,S i→i<base):FrB base w' v L:=by
 obtain ⟨ad,cap,e,hf,hg⟩:=h
 refine ⟨ad,cap,e,fun i hi=>?_,hg⟩
 obtain ⟨b,off,ha,hc⟩:=hf i hi
 refine ⟨b,off,ha,fun j hj=>?_⟩
 have h2:=hc j hj
 have h3:(f9L (L[i]'hi))[j]? = some ((f9L (L[i]'hi))[j]'(by rw [f9L_length]; exact hj)):=List.getElem?_eq_getElem _
 rw [h3] at h2 ⊢
 have hb:b<w.heap.size:=cell_lt h2
 have hgb:base≤b:=hg _ ha
 unfold World.cell? at h2 ⊢
 rw [show w'.heap[(⟨b,off+i * 9+j,none⟩:Addr).block]? = w.heap[(⟨b,off+i * 9+j,none⟩:Addr).block]? from k.block b hb (fun hs=>by have:=hS b hs; omega)]
 exact h2
theorem Tryz.infoFq:(Tryz.prog.info? 104).map (fun i=>(i.zero,i.size,i.bytes))=some (some (frV 0 0 0 0 0 false 0 0 0),9,72):=by kernel_rfl
theorem lit_cellsQ (w:World) (t:TypeId) (L:List Value):∀ j u,L[j]? = some u→(w.alloc (.cells L.toArray t)).cell? ((⟨w.heap.size,0,none⟩:Addr).add j)=some u:=by
 intro j u h
 rw [addr_add,cell_of_row _ _ _ _ _ _ (heap_alloc_new w _),List.getElem?_toArray,Nat.zero_add]
 exact h
theorem f9_oneQ (x:F9):∀ u∈f9L x,u.oneCell'=true:=by
 intro u hu
 simp [f9L] at hu
 rcases hu with rfl|rfl|rfl|rfl|rfl|rfl|rfl|rfl|rfl <;> rfl
theorem ldtoAll_own (lb b cap id:Nat) (deal att:Int) (zs:List Int) (P:PL) (kind ph:Int) (w:World) (h:LD w lb b cap id deal att zs P) (hn:zs.length≤7) :
  Calls Tryz.prog 106 #[.pointer (some ⟨lb,0,none⟩),.int .i64 kind,.int .i64 ph] w fun e w'=>∃ v,e=.returned v∧w'.ownsRow w.heap.size 104 9 v (toL id deal kind att ph zs.length).length (frCells (toL id deal kind att ph zs.length))∧Below w.heap.size w w':=by
 obtain ⟨i0,hi,hz0,hz1,hz2⟩:=info_parts Tryz.infoFq
 have H:=hid h
 obtain ⟨c0,c1,c2,c3,-,-,-,-,-⟩:=h.cells
 clear h
 obtain ⟨n,HN⟩:∃ n,Hid (zs.length=n):=⟨_,rfl⟩
 rw [HN.out] at c3 hn ⊢
 obtain ⟨L,HL⟩:∃ L,Hid (toL id deal kind att ph=L):=⟨_,rfl⟩
 rw [HL.out]
 have HLE:Hid (∀ k,(L k).length=k):=by rw [← HL.out]; exact toL_length _ _ _ _ _
 have H0:Hid (L 0=[]):=by rw [← HL.out]; rfl
 go_enter Tryz.func106,Tryz.ntmps106
 go_wp2_with fail
 clear c0 c1 c2 c3
 go_loopw [7,14] (fun v i wr=>∃ k:Nat,k≤n∧i=.int .i64 (k:Int)∧wr.ownsRow w.heap.size 104 9 v (L k).length (frCells (L k))∧Below w.heap.size w wr) (fun _ i _=>n - (intOf i).toNat)
 case atStart=>exact ⟨0,Nat.zero_le _,rfl,by rw [H0.out]; exact World.ownsRow_nil _ _ _ _,Below.refl _ _⟩
 case round =>
  obtain ⟨k,hk,rfl,hown,hb⟩:=hrel
  have HO:=hid hown
  have HB:=hid hb
  obtain ⟨c0,c1,c2,c3,-,-,-,-,-⟩:=(H.out.later hb).cells
  have hlb:lb<wr.heap.size:=row_ltJ (H.out.later hb).row
  have hle:=Nat.le_of_eq (HLE.out k)
  clear hown hb
  by_cases hlt:k<n
  ·have HS:Hid (L (k+1)=L k ++ [⟨id,k,deal,kind,att,false,ph,0,0⟩]):=by rw [← HL.out]; rfl
   have HS2:Hid ((L (k+1)).length=(L k).length+1∧frCells (L (k+1))=frCells (L k) ++ f9L ⟨id,k,deal,kind,att,false,ph,0,0⟩):=by
    rw [HS.out]
    exact ⟨by simp,by rw [frCells_append]; rfl⟩
   have HZ:=World.ownsRow.alloc HO.out
   have hws:=HB.out.size
   go_wp2_with fail
   go_region_law ((refine step_append_lies _ (by rfl) _ _ _ (by rfl) w.heap.size 104 i0 (frV 0 0 0 0 0 false 0 0 0) 9 72 Tryz.underlying34 hi hz0 hz1 hz2 (by rfl) (by decide) _ (L k).length (frCells (L k)) (by rfl) (by exact HZ _) ⟨wr.heap.size,0,none⟩ 1 1 (f9L ⟨id,k,deal,kind,att,false,ph,0,0⟩) (by rfl) (by rfl) (by exact lit_cellsQ wr 104 (f9L ⟨id,k,deal,kind,att,false,ph,0,0⟩)) (by exact f9_oneQ _) (by decide) (by unfold maxLen; omega) (by omega) (by exact Nat.le_trans hws (by simp)) (wr.heap.size+1) (by simp) ?_; intro g5 c5 w5 hown5 hg5 hat5 hlt5; have HQ5:=hid (And.intro (show w5.ownsRow w.heap.size 104 9 (.slice (some ⟨g5,0,none⟩) ((L k).length+1) c5) (L (k+1)).length (frCells (L (k+1))) by rw [HS2.out.1,HS2.out.2]; exact hown5) ((HB.out.alloc HB.out.size (.cells (f9L ⟨id,k,deal,kind,att,false,ph,0,0⟩).toArray 104)).drew.grown hg5 (by simp; omega) (fun j hj=>(HO.out.lt j hj).1))); clear hown5 hg5 hat5))
   all_goals go_wp2_with fail
   all_goals go_roundw
   all_goals first|exact ⟨k+1,by omega,by go_num,HQ5.out.1,HQ5.out.2⟩|exact ⟨k+1,by omega,by go_num,HQ5.out.1,HQ5.out.2.drew⟩|(simp [intOf]; omega)
  ·obtain rfl:k=n:=by omega
   go_wp2_with fail
   go_ret
   exact ⟨_,rfl,HO.out,HB.out⟩
theorem ldtoAll_any (lb b cap id:Nat) (deal att:Int) (zs:List Int) (P:PL) (kind ph:Int) (w:World) (h:LD w lb b cap id deal att zs P) (hn:zs.length≤7) :
  Calls Tryz.prog 106 #[.pointer (some ⟨lb,0,none⟩),.int .i64 kind,.int .i64 ph] w fun e w'=>∃ v,e=.returned v∧FrB w.heap.size w' v (toL id deal kind att ph zs.length)∧Below w.heap.size w w':=by
 refine (ldtoAll_own lb b cap id deal att zs P kind ph w h hn).mono ?_
 rintro e w' ⟨v,h1,h2,h3⟩
 exact ⟨v,h1,FrB.owned h2,h3⟩
theorem gW_lt {w:World} {A:Nat→Addr} (h:Held3 w A) (i:Nat):gW i<w.heap.size:=by
 match i with
 | 0=>exact cell_lt (h 3 (by omega) (by omega))
 | 1=>exact cell_lt (h 1 (by omega) (by omega))
 | 2=>exact cell_lt (h 2 (by omega) (by omega))
 | n+3=>exact cell_lt (h 3 (by omega) (by omega))
theorem Held3.kept {S:Nat→Prop} {w w':World} {A:Nat→Addr} (h:Held3 w A) (k:Kept S w w') (hS:∀ i,S i→∀ j,gW j<i):Held3 w' A:=fun i h1 h3=>by
 have:=h i h1 h3
 have hb:gW i<w.heap.size:=cell_lt this
 unfold World.cell? at this ⊢
 rw [show w'.heap[(⟨gW i,0,none⟩:Addr).block]? = w.heap[(⟨gW i,0,none⟩:Addr).block]? from k.block _ hb (fun hs=>Nat.lt_irrefl _ (hS (gW i) hs i))]
 exact this
section
variable {w:World} {lb b cap id:Nat} {deal att:Int} {zs:List Int} {P:PL}
theorem lddecide_any (p:Int) (h:LD w lb b cap id deal att zs P) (hn:zs.length≤7) :
  Calls Tryz.prog 169 #[.pointer (some ⟨lb,0,none⟩),.int .i64 p] w fun e w'=>∃ v,e=.returned v∧FrB w.heap.size w' v (outL id deal att zs.length (decP P p).2)∧LD w' lb b cap id deal att zs (decP P p).1∧Kept (In1 lb) w w':=by
 have z4:=h.fz 4
 have c4:=h.cells.2.2.2.2.1
 have HX:=hid (h.setSt 2)
 have HK:Hid (Kept (In1 lb) w (w.setCell ⟨lb,4,none⟩ (.string (stP 2)))):=(Kept.refl _ _).set1 4 _
 have hlb:lb<w.heap.size:=row_ltJ h.row
 clear h
 rw [stP2] at HX HK
 go_enter Tryz.func169,Tryz.ntmps169
 go_wp2_with fail
 refine (ldtoAll_any lb b cap id deal att zs _ 7 p _ HX.out hn).mono ?_
 rintro e w1 ⟨v,rfl,ho,hb⟩
 have HV:=hid (ho.mono HK.out.size)
 have HR:=hid (HX.out.later hb)
 have HK2:=hid (HK.out.trans (Kept.of_below hb))
 clear ho hb
 go_wp2_with fail
 go_ret
 exact ⟨_,rfl,HV.out,HR.out,HK2.out⟩
theorem ldprepare_any (p:Int) (h:LD w lb b cap id deal att zs P) (hn:zs.length≤7) :
  Calls Tryz.prog 170 #[.pointer (some ⟨lb,0,none⟩),.int .i64 p] w fun e w'=>∃ v,e=.returned v∧FrB w.heap.size w' v (outL id deal att zs.length (preP P p).2)∧LD w' lb b cap id deal att zs (preP P p).1∧Kept (In1 lb) w w':=by
 have z4:=h.fz 4
 have z5:=h.fz 5
 have z27:=h.fz 27
 obtain ⟨c0,c1,c2,c3,c4,c5,c27,c28,c29⟩:=h.cells
 have HX:=hid (((h.setSt 1).setPrep p).setAns 0 (Int.le_refl _) (Int.pow_pos (by decide)))
 have HK:Hid (Kept (In1 lb) w (((w.setCell ⟨lb,4,none⟩ (.string (stP 1))).setCell ⟨lb,27,none⟩ (.int .i64 p)).setCell ⟨lb,5,none⟩ (.int .i64 0))):=(((Kept.refl _ _).set1 4 _).set1 27 _).set1 5 _
 have hlb:lb<w.heap.size:=row_ltJ h.row
 clear h
 rw [stP1] at HX HK
 go_enter Tryz.func170,Tryz.ntmps170
 go_wp2_with fail
 refine (ldtoAll_any lb b cap id deal att zs _ 5 p _ HX.out hn).mono ?_
 rintro e w1 ⟨v,rfl,ho,hb⟩
 have HV:=hid (ho.mono HK.out.size)
 have HR:=hid (HX.out.later hb)
 have HK2:=hid (HK.out.trans (Kept.of_below hb))
 clear ho hb
 go_wp2_with fail
 go_ret
 exact ⟨_,rfl,HV.out,HR.out,HK2.out⟩
theorem enough_ok_is (A:Nat→Addr) (v:Value) (zs:List Int) (set:Int) (x:Bool) (w:World) (hv:IsSl w v zs) (hE:Held3 w A) (hc:errS zs set=0) (hx:enoughB zs set=x) :
  Calls Tryz.prog 189 #[v,.int .i64 set] w fun e w'=>e=.returned (.tuple #[.bool x,.nilIface])∧Below w.heap.size w w':=by
 subst hx; exact enough_ok A v zs set w hv hE hc
theorem ldenough_is (A:Nat→Addr) (x:Bool) (h:LD w lb b cap id deal att zs P) (he:errW zs=0) (hE:Held3 w A) (hx:enoughB zs P.ans=x) :
  Calls Tryz.prog 171 #[.pointer (some ⟨lb,0,none⟩)] w fun e w'=>e=.returned (.bool x)∧Below w.heap.size w w':=by
 obtain ⟨h1,h2,h3,h4⟩:=errW_zero he
 obtain ⟨c0,c1,c2,c3,c4,c5,c27,c28,c29⟩:=h.cells
 have HS:=hid (h.sl h2)
 have HC:Hid (errS zs P.ans=0):=errS_mk he h.pw.lo h.pw.hi
 have HE:=hid hE
 have HX:=hid hx
 clear h h1 h3 h4 hE he hx
 go_enter Tryz.func171,Tryz.ntmps171
 go_wp2_with fail
 have HD:Hid (Below w.heap.size w w.drew):=(Below.refl _ _).drew
 have HS1:=hid (HS.out.later HD.out)
 have HE1:=hid (HE.out.later HD.out)
 go_region_held3 (fun w'=>w'.cell? ⟨lb,3,none⟩=some (.slice (some ⟨b,0,none⟩) zs.length cap)∧w'.cell? ⟨lb,5,none⟩=some (.int .i64 P.ans)) (go_keep) (first|(go_at_call 189; (with_reducible refine (enough_ok_is A _ zs P.ans x _ HS1.out HE1.out HC.out HX.out).mono ?_); rintro e w1 ⟨rfl,hb⟩; have HB:=hid (HD.out.trans hb); have hc3:=cell_later hb c3; have hc5:=cell_later hb c5; clear hb))
 all_goals cases x
 all_goals go_wp2_with fail
 all_goals go_ret
 all_goals exact ⟨rfl,HB.out⟩
theorem ldsee_any (p:Int) (h:LD w lb b cap id deal att zs P) :
  Calls Tryz.prog 143 #[.pointer (some ⟨lb,0,none⟩),.int .i64 p] w fun e w'=>e=.returned (.tuple #[])∧LD w' lb b cap id deal att zs (seeP P p)∧Kept (In1 lb) w w':=by
 have z28:=h.fz 28
 have z29:=h.fz 29
 obtain ⟨c0,c1,c2,c3,c4,c5,c27,c28,c29⟩:=h.cells
 have HX:=hid ((h.setSeen p).setHas true)
 have HK:Hid (Kept (In1 lb) w ((w.setCell ⟨lb,28,none⟩ (.int .i64 p)).setCell ⟨lb,29,none⟩ (.bool true))):=((Kept.refl _ _).set1 28 _).set1 29 _
 have HP:=hid h
 have hlb:lb<w.heap.size:=row_ltJ h.row
 clear h
 obtain ⟨hv,HV⟩:∃ x,Hid (P.has=x):=⟨_,rfl⟩
 rw [HV.out] at c29
 obtain ⟨sn,HSn⟩:∃ x,Hid (P.seen=x):=⟨_,rfl⟩
 rw [HSn.out] at c28
 by_cases g:hv=false ∨ sn<p
 ·have HQ:Hid (seeP P p={ P with seen:=p,has:=true }):=by unfold Hid seeP; rw [HV.out,HSn.out]; exact if_pos g
  rw [HQ.out]
  cases hv with
  | false =>
   go_enter Tryz.func143,Tryz.ntmps143
   go_wp2_with fail
   go_end0
   exact ⟨rfl,HX.out,HK.out⟩
  | true =>
   have g2:sn<p:=by
    rcases g with g|g
    ·cases g
    ·exact g
   go_enter Tryz.func143,Tryz.ntmps143
   go_wp2_with fail
   go_end0
   exact ⟨rfl,HX.out,HK.out⟩
 ·have HQ:Hid (seeP P p=P):=by unfold Hid seeP; rw [HV.out,HSn.out]; exact if_neg g
  rw [HQ.out]
  have hv1:hv=true:=by
   cases hv with
   | true=>rfl
   | false=>exact absurd (Or.inl rfl) g
  have g2:¬ sn<p:=fun x=>g (.inr x)
  subst hv1
  clear g
  go_enter Tryz.func143,Tryz.ntmps143
  go_wp2_with fail
  go_end0
  exact ⟨rfl,HP.out,Kept.refl _ _⟩
end
section
variable {w:World} {lb b cap id:Nat} {deal att:Int} {zs:List Int} {P:PL}
theorem ldwaits_any (k:Int) (hs:P.stt<4) (h:LD w lb b cap id deal att zs P) :
  Calls Tryz.prog 168 #[.pointer (some ⟨lb,0,none⟩),.int .i64 k] w fun e w'=>e=.returned (.bool (waitsB P att k))∧w'=w:=by
 obtain ⟨c0,c1,c2,c3,c4,c5,c27,c28,c29⟩:=h.cells
 clear h
 unfold waitsB
 generalize P.stt=q at hs c4 ⊢
 by_cases k2:k=2
 ·subst k2
  match q,hs with
  | 0,_ =>
   rw [stP0] at c4
   by_cases ha:att=0
   ·subst ha
    go_enter Tryz.func168,Tryz.ntmps168
    go_wp2_with fail
    go_ret
    exact ⟨rfl,rfl⟩
   ·go_enter Tryz.func168,Tryz.ntmps168
    go_wp2_with fail
    go_ret
    exact ⟨by simp [ha],rfl⟩
  | 1,_ =>
   rw [stP1] at c4
   go_enter Tryz.func168,Tryz.ntmps168
   go_wp2_with fail
   go_ret
   exact ⟨rfl,rfl⟩
  | 2,_ =>
   rw [stP2] at c4
   go_enter Tryz.func168,Tryz.ntmps168
   go_wp2_with fail
   go_ret
   exact ⟨rfl,rfl⟩
  | 3,_ =>
   rw [stP3] at c4
   go_enter Tryz.func168,Tryz.ntmps168
   go_wp2_with fail
   go_ret
   exact ⟨rfl,rfl⟩
 ·by_cases k4:k=4
  ·subst k4
   match q,hs with
   | 0,_ =>
    rw [stP0] at c4
    by_cases ha:0<att
    ·go_enter Tryz.func168,Tryz.ntmps168
     go_wp2_with fail
     go_ret
     exact ⟨by simp [ha],rfl⟩
    ·go_enter Tryz.func168,Tryz.ntmps168
     go_wp2_with fail
     go_ret
     exact ⟨by simp [ha],rfl⟩
   | 1,_ =>
    rw [stP1] at c4
    go_enter Tryz.func168,Tryz.ntmps168
    go_wp2_with fail
    go_ret
    exact ⟨rfl,rfl⟩
   | 2,_ =>
    rw [stP2] at c4
    go_enter Tryz.func168,Tryz.ntmps168
    go_wp2_with fail
    go_ret
    exact ⟨rfl,rfl⟩
   | 3,_ =>
    rw [stP3] at c4
    go_enter Tryz.func168,Tryz.ntmps168
    go_wp2_with fail
    go_ret
    exact ⟨rfl,rfl⟩
  ·by_cases k6:k=6
   ·subst k6
    match q,hs with
    | 0,_ =>
     rw [stP0] at c4
     go_enter Tryz.func168,Tryz.ntmps168
     go_wp2_with fail
     go_ret
     exact ⟨rfl,rfl⟩
    | 1,_ =>
     rw [stP1] at c4
     go_enter Tryz.func168,Tryz.ntmps168
     go_wp2_with fail
     go_ret
     exact ⟨rfl,rfl⟩
    | 2,_ =>
     rw [stP2] at c4
     go_enter Tryz.func168,Tryz.ntmps168
     go_wp2_with fail
     go_ret
     exact ⟨rfl,rfl⟩
    | 3,_ =>
     rw [stP3] at c4
     go_enter Tryz.func168,Tryz.ntmps168
     go_wp2_with fail
     go_ret
     exact ⟨rfl,rfl⟩
   ·go_enter Tryz.func168,Tryz.ntmps168
    go_wp2_with fail
    go_ret
    exact ⟨by simp [k2,k4,k6],rfl⟩
end
theorem bit_and0 {s:Int} (k:Nat) (h0:0≤s) (h1:s<9223372036854775808):(bits BinOp.and IntKind.i64 (s / 2 ^ k) 1 == 0)=!bit s k:=by
 obtain ⟨m,rfl⟩:=Int.eq_ofNat_of_zero_le h0
 have e:((m:Int) / 2 ^ k)=((m / 2 ^ k:Nat):Int):=by simp
 have hlt:m / 2 ^ k<9223372036854775808:=Nat.lt_of_le_of_lt (Nat.div_le_self _ _) (by omega)
 rw [e,show (1:Int)=((1:Nat):Int) from rfl,bits_and_nat _ 1 hlt (by decide),Nat.and_one_is_mod]
 unfold bit
 rw [Int.toNat_natCast,Nat.testBit_eq_decide_div_mod_eq,Bool.eq_iff_iff]
 simp; omega
section
variable {w:World} {lb b cap id:Nat} {deal att:Int} {zs:List Int} {P:PL}
theorem ldwaits_is (k:Int) (x:Bool) (hs:P.stt<4) (h:LD w lb b cap id deal att zs P) (hx:waitsB P att k=x) :
  Calls Tryz.prog 168 #[.pointer (some ⟨lb,0,none⟩),.int .i64 k] w fun e w'=>e=.returned (.bool x)∧w'=w:=by
 subst hx; exact ldwaits_any k hs h
theorem tk_ids {n:Nat} {f:F9} (h:¬ (f.t=id∧f.d=deal∧f.a=att)):takesB n id deal att P f=false:=by
 unfold takesB; rw [decide_eq_false h]; rfl
theorem tk_wait {n:Nat} {f:F9} (h:waitsB P att f.k=false):takesB n id deal att P f=false:=by
 unfold takesB; rw [h]; simp
theorem tk_from {n:Nat} {f:F9} (h:¬ (0≤f.f∧f.f<n)):takesB n id deal att P f=false:=by
 unfold takesB; rw [decide_eq_false h]; simp
theorem tk_in {n:Nat} {f:F9} (h:f.t=id∧f.d=deal∧f.a=att) (h2:waitsB P att f.k=true) (h3:0≤f.f∧f.f<n):takesB n id deal att P f=!bit P.ans f.f.toNat:=by
 unfold takesB; rw [decide_eq_true h,h2,decide_eq_true h3]; rfl
theorem ldtakes_any (f t d k a:Int) (y:Bool) (p1 p2 p3:Int) (hn:zs.length≤7) (hs:P.stt<4) (h:LD w lb b cap id deal att zs P) :
  Calls Tryz.prog 141 #[.pointer (some ⟨lb,0,none⟩),frV f t d k a y p1 p2 p3] w fun e w'=>e=.returned (.bool (takesB zs.length id deal att P ⟨f,t,d,k,a,y,p1,p2,p3⟩))∧Below w.heap.size w w':=by
 obtain ⟨W,HW⟩:∃ W,Hid (w.alloc (.cells #[.int .i64 f,.int .i64 t,.int .i64 d,.int .i64 k,.int .i64 a,.bool y,.int .i64 p1,.int .i64 p2,.int .i64 p3] 104)=W):=⟨_,rfl⟩
 have HB:Hid (Below w.heap.size w W):=by rw [← HW.out]; exact (Below.refl _ _).alloc (Nat.le_refl _) _
 have HR:Hid (W.heap[w.heap.size]? = some (.cells #[.int .i64 f,.int .i64 t,.int .i64 d,.int .i64 k,.int .i64 a,.bool y,.int .i64 p1,.int .i64 p2,.int .i64 p3] 104 (0,0))):=by rw [← HW.out]; exact heap_alloc_new w _
 have HX:=hid (h.later HB.out)
 obtain ⟨b0,b1,b2,b3,b4,b5,b6,b7,b8⟩:=nine HR.out
 obtain ⟨c0,c1,c2,c3,c4,c5,c27,c28,c29⟩:=HX.out.cells
 have hW:=HW.out
 have HPW:=hid h.pw
 have HST:=hid hs
 clear h hs
 obtain ⟨r,HR2⟩:∃ r,Hid (takesB zs.length id deal att P ⟨f,t,d,k,a,y,p1,p2,p3⟩=r):=⟨_,rfl⟩
 rw [HR2.out]
 by_cases g1:t=(id:Int)
 ·by_cases g2:d=deal
  ·by_cases g3:a=att
   ·subst g1; subst g2; subst g3
    obtain ⟨x,HWt⟩:∃ x,Hid (waitsB P a k=x):=⟨_,rfl⟩
    cases x with
    | false =>
     obtain rfl:r=false:=HR2.out.symm.trans (tk_wait HWt.out)
     go_enter Tryz.func141,Tryz.ntmps141
     go_wp2_with fail
     go_quiet ((go_at_call 168; exact Calls.quiet_of_same (ldwaits_is k false HST.out (by first|exact HX.out|exact HX.out.later (below_drewN (Below.refl _ _) _)) HWt.out)))
     go_wp2
     go_ret
     exact ⟨rfl,below_drewN HB.out _⟩
    | true =>
     by_cases g4:f<0
     ·obtain rfl:r=false:=HR2.out.symm.trans (tk_from (by show ¬ (0≤f∧f<(zs.length:Int)); omega))
      have g4x:decide (0≤f)=false:=decide_eq_false (by omega)
      go_enter Tryz.func141,Tryz.ntmps141
      go_wp2_with fail
      go_quiet ((go_at_call 168; exact Calls.quiet_of_same (ldwaits_is k true HST.out (by first|exact HX.out|exact HX.out.later (below_drewN (Below.refl _ _) _)) HWt.out)))
      go_wp2
      go_quiet (fail)
      go_wp2
      go_ret
      exact ⟨rfl,below_drewN (below_drewN HB.out _) _⟩
     ·obtain ⟨m,rfl⟩:=Int.eq_ofNat_of_zero_le (show 0≤f by omega)
      by_cases g5:(m:Int)<(zs.length:Int)
      ·obtain rfl:r=!bit P.ans m:=HR2.out.symm.trans (tk_in ⟨rfl,rfl,rfl⟩ HWt.out ⟨by show 0≤(m:Int); omega,g5⟩)
       have hp:=(pow_le7 hn).1
       have h1:=HPW.out.lo
       have h2:=HPW.out.hi
       have hbit:Hid ((bits BinOp.and IntKind.i64 (P.ans / 2 ^ m) 1 == 0)=!bit P.ans m):=bit_and0 m h1 (by omega)
       have hm7:m<7:=by omega
       go_enter Tryz.func141,Tryz.ntmps141
       go_wp2_with fail
       go_quiet ((go_at_call 168; exact Calls.quiet_of_same (ldwaits_is k true HST.out (by first|exact HX.out|exact HX.out.later (below_drewN (Below.refl _ _) _)) HWt.out)))
       go_wp2
       go_quiet (fail)
       go_wp2
       go_ret
       exact ⟨congrArg (fun z=>Ending.returned (.bool z)) hbit.out,below_drewN (below_drewN HB.out _) _⟩
      ·obtain rfl:r=false:=HR2.out.symm.trans (tk_from (by show ¬ (0≤(m:Int)∧(m:Int)<(zs.length:Int)); omega))
       have g5':¬ m<zs.length:=by omega
       go_enter Tryz.func141,Tryz.ntmps141
       go_wp2_with fail
       go_quiet ((go_at_call 168; exact Calls.quiet_of_same (ldwaits_is k true HST.out (by first|exact HX.out|exact HX.out.later (below_drewN (Below.refl _ _) _)) HWt.out)))
       go_wp2
       go_quiet (fail)
       go_wp2
       go_ret
       exact ⟨rfl,below_drewN (below_drewN HB.out _) _⟩
   ·obtain rfl:r=false:=HR2.out.symm.trans (tk_ids (fun x=>g3 x.2.2))
    have e3:(a != att)=true:=bne_iff_ne.2 g3
    subst g1; subst g2
    go_enter Tryz.func141,Tryz.ntmps141
    go_wp2_with fail
    go_quiet (fail)
    go_wp2
    go_ret
    exact ⟨rfl,below_drewN HB.out _⟩
  ·obtain rfl:r=false:=HR2.out.symm.trans (tk_ids (fun x=>g2 x.2.1))
   have e2:(d != deal)=true:=bne_iff_ne.2 g2
   subst g1
   go_enter Tryz.func141,Tryz.ntmps141
   go_wp2_with fail
   go_quiet (fail)
   go_wp2
   go_ret
   exact ⟨rfl,below_drewN HB.out _⟩
 ·obtain rfl:r=false:=HR2.out.symm.trans (tk_ids (fun x=>g1 x.1))
  have e1:(t != (id:Int))=true:=bne_iff_ne.2 g1
  go_enter Tryz.func141,Tryz.ntmps141
  go_wp2_with fail
  go_quiet (fail)
  go_wp2
  go_ret
  exact ⟨rfl,below_drewN HB.out _⟩
end
section
variable {w:World} {lb b cap id:Nat} {deal att:Int} {zs:List Int} {P:PL}
theorem ldvote_any (y:Bool) (hn:zs.length≤7) (h:LD w lb b cap id deal att zs P) :
  Calls Tryz.prog 142 #[.pointer (some ⟨lb,0,none⟩),.bool y] w fun e w'=>∃ v,e=.returned v∧FrB w.heap.size w' v (outL id deal att zs.length (voteP zs.length P y).2)∧LD w' lb b cap id deal att zs (voteP zs.length P y).1∧Kept (In1 lb) w w':=by
 obtain ⟨c0,c1,c2,c3,c4,c5,c27,c28,c29⟩:=h.cells
 have HX:=hid h
 have hp:=(pow_le7 hn).1
 have hp2:=(pow_le7 hn).2
 obtain ⟨R,HR⟩:∃ R,Hid (voteP zs.length P y=R):=⟨_,rfl⟩
 have hlb:lb<w.heap.size:=row_ltJ h.row
 rw [HR.out]
 clear h
 cases y with
 | false =>
  obtain rfl:R=decP P 3:=HR.out.symm
  go_enter Tryz.func142,Tryz.ntmps142
  go_wp2_with fail
  refine (lddecide_any 3 HX.out hn).mono ?_
  rintro e w1 ⟨v,rfl,ho,hl,hk⟩
  have HV:=hid (And.intro ho (And.intro hl hk))
  clear ho hl hk
  go_wp2_with fail
  go_ret
  exact ⟨_,rfl,HV.out⟩
 | true =>
  by_cases g:P.ans=2 ^ zs.length - 1
  ·obtain rfl:R=preP P 4:=by rw [← HR.out]; unfold voteP; rw [if_neg (by decide),if_pos g]
   rw [g] at c5
   go_enter Tryz.func142,Tryz.ntmps142
   go_wp2_with fail
   go_quiet (fail)
   go_wp2_with fail
   refine (ldprepare_any 4 (HX.out.later (below_drewN (Below.refl _ _) _)) hn).mono ?_
   rintro e w1 ⟨v,rfl,ho,hl,hk⟩
   have HV:=hid (And.intro (ho.mono (below_drewN (Below.refl w.heap.size w) nq).size) (And.intro hl ((Kept.of_below (below_drewN (Below.refl _ _) nq)).trans hk)))
   clear ho hl hk
   go_wp2_with fail
   go_ret
   exact ⟨_,rfl,HV.out⟩
  ·obtain rfl:R=(P,none):=by rw [← HR.out]; unfold voteP; rw [if_neg (by decide),if_neg g]
   have e1:(P.ans != 2 ^ zs.length - 1)=true:=bne_iff_ne.2 g
   go_enter Tryz.func142,Tryz.ntmps142
   go_wp2_with fail
   go_quiet (fail)
   go_wp2_with fail
   go_ret
   exact ⟨_,rfl,FrB.zero _ _,HX.out.later (below_drewN (Below.refl _ _) _),Kept.of_below (below_drewN (Below.refl _ _) _)⟩
theorem ldack_any (A:Nat→Addr) (he:errW zs=0) (hE:Held3 w A) (h:LD w lb b cap id deal att zs P) :
  Calls Tryz.prog 145 #[.pointer (some ⟨lb,0,none⟩)] w fun e w'=>∃ v,e=.returned v∧FrB w.heap.size w' v (outL id deal att zs.length (ackP zs P).2)∧LD w' lb b cap id deal att zs (ackP zs P).1∧Kept (In1 lb) w w':=by
 obtain ⟨x,HX⟩:∃ x,Hid (enoughB zs P.ans=x):=⟨_,rfl⟩
 obtain ⟨R,HR⟩:∃ R,Hid (ackP zs P=R):=⟨_,rfl⟩
 rw [HR.out]
 have HL:=hid h
 have HE:=hid hE
 have HZ:=hid he
 have hn:=(errW_zero he).2.1
 clear h hE he
 go_enter Tryz.func145,Tryz.ntmps145
 go_wp2_with fail
 refine (ldenough_is A x HL.out HZ.out HE.out HX.out).mono ?_
 rintro e w1 ⟨rfl,hb⟩
 have HL1:=hid (HL.out.later hb)
 have HB:=hid hb
 clear hb
 have c27:=HL1.out.cells.2.2.2.2.2.2.1
 cases x with
 | false =>
  obtain rfl:R=(P,none):=by rw [← HR.out]; unfold ackP; rw [if_pos HX.out]
  go_wp2_with fail
  go_ret
  exact ⟨_,rfl,FrB.zero _ _,HL1.out,Kept.of_below HB.out⟩
 | true =>
  obtain rfl:R=decP P (afterI P.prep):=by rw [← HR.out]; unfold ackP; rw [if_neg (by rw [HX.out]; decide)]
  go_wp2_with (go_at_call 173; refine (tafter_any P.prep _).mono ?_; rintro e w2 ⟨rfl,rfl⟩)
  refine (lddecide_any (afterI P.prep) HL1.out hn).mono ?_
  rintro e w2 ⟨v,rfl,ho,hl,hk⟩
  have HV:=hid (And.intro (ho.mono HB.out.size) (And.intro hl ((Kept.of_below HB.out).trans hk)))
  clear ho hl hk
  go_wp2_with fail
  go_ret
  exact ⟨_,rfl,HV.out⟩
end
end Go.Proofs.YtadhpkopkkjmfaaGreatDoor
