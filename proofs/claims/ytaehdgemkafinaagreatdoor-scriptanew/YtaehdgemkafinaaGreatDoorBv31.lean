/-
  On the way to SAnewProof: O11.
-/
import Derived.Test.YtaehdgemkafinaaGreatDoorBv14
import Derived.Test.YtaehdgemkafinaaGreatDoorBv29
set_option maxHeartbeats 8000000
set_option maxRecDepth 100000
namespace Go.Proofs.YtaehdgemkafinaaGreatDoor
open Go.RowKit
theorem step_append_str {w:World} {ops:Array Oper} {o:Oper} {a:Act} {K:Act→World→Prop} {Q:Exit→Act→World→Prop} {E:Prop} (hgd:o.guard=none) (s x:Operand)
  (ho:o.op=.call { callee:=.builtin .append,args:=#[s,x],argTypes:=#[22,22] })
  (base n:Nat) (v:Value) (xs:List Value) (ad:Addr) (c:Nat) (F:ByteArray) (hs:a.eval s=v) (hx:a.eval x=.slice (some ad) 1 c) (hown:w.ownsRow base 9 1 v n xs) (hu:∀ j u,[Value.string F][j]? = some u→w.cell? (ad.add j)=some u) (hn:n≤1000000000000) (hb:base≤w.heap.size)
  (h:∀ ad' cap' w',w'.ownsRow base 9 1 (.slice ad' (n+1) cap') (n+1) (xs ++ [Value.string F])→w.grownBy w' v.ownBlock→K (a.put o.dst (.slice ad' (n+1) cap')) w') :
  if Region.wanted o (yielded ops a.tmps)=true then Oper.wp Tryz.prog o a w K Q else E:=by
 have hw:Region.wanted o (yielded ops a.tmps)=true:=by simp [Region.wanted,hgd]
 rw [if_pos hw]
 obtain ⟨i0,hi0,hz0,hz1,hz2⟩:=info_parts Tryz.infoStr
 obtain ⟨v',w',hr,h2,h3,-,-⟩:=run_append_own_at (P:=Tryz.prog) w base 22 o.type 9 i0 _ 1 16 Tryz.underlying22 hi0 hz0 hz1 hz2 rfl (by decide) v n xs hown ad 1 c [Value.string F] rfl hu (by intro u hu; simp at hu; subst hu; rfl) (by unfold maxLen; omega) (by omega) hb
 obtain ⟨ad',cap',rfl⟩:∃ ad' cap',v'=.slice ad' (n+1) cap':=by
  rcases h2.2 with ⟨e,h0⟩|⟨g,cap,cur,e,-⟩
  ·omega
  ·exact ⟨_,_,e⟩
 unfold Oper.wp execOp
 simp only [ho,resolve,invoke,builtin,Sem.run_bind,Sem.run_pure,Result.andThen_ok,List.map_toArray,List.map_cons,List.map_nil,hs,hx,hr]
 exact h ad' cap' w' h2 h3
def evB (e:E3):Bs:=Lib.decDigits e.s.toNat ++ 32 :: (Lib.decDigits e.d.toNat ++ 32 :: phaseO e.p)
def eventsO (L:List E3):Bs:=if L=[] then [110,111,116,104,105,110,103] else Lib.join (L.map evB) [44,32]
def EvN (L:List E3):Prop:=∀ e,e∈L→∃ i d p:Nat,e=⟨i,d,p⟩∧i≤1000∧d≤1000
theorem evB_len {L:List E3} (h:EvN L) {e:E3} (he:e∈L):(evB e).length≤100:=by
 obtain ⟨i,d,p,rfl,hi,hd⟩:=h e he
 unfold evB
 have h1:=Lib.nDigits_le20 i (by omega)
 have h2:=Lib.nDigits_le20 d (by omega)
 have h3:=phaseO_len (p:Int)
 simp [Lib.decDigits_length]
 omega
theorem join_len (sep:Bs) (n:Nat):∀ (xs:List Bs),(∀ x,x∈xs→x.length≤n)→(Lib.join xs sep).length≤xs.length * (n+sep.length)
 | [],_=>by simp [Lib.join_nil]
 | x :: r,h=>by
  rw [Lib.join_cons]
  have h1:(Lib.joinTail sep r).length≤r.length * (n+sep.length):=by
   unfold Lib.joinTail
   have:∀ l:List Bs,(∀ x,x∈l→x.length≤n)→((l.map (sep ++ ·)).flatten).length≤l.length * (n+sep.length):=fun l=>by
    induction l with
    | nil=>intro _; simp
    | cons y l ih =>
     intro hl
     have h2:=ih (fun x hx=>hl x (List.mem_cons_of_mem _ hx))
     have h3:=hl y List.mem_cons_self
     simp only [List.map_cons,List.flatten_cons,List.length_append,List.length_cons,Nat.add_mul] at *
     omega
   exact this r (fun x hx=>h x (List.mem_cons_of_mem _ hx))
  have h2:=h x List.mem_cons_self
  simp only [List.length_append,List.length_cons,Nat.add_mul]
  omega
def toldV (L:List E3):List Value:=L.map fun e=>Value.string (bB (evB e))
theorem toldV_take {L:List E3} {k:Nat} (h:k<L.length):toldV (L.take (k+1))=toldV (L.take k) ++ [Value.string (bB (evB (L[k]'h)))]:=by
 unfold toldV
 rw [List.take_succ_eq_append_getElem h,List.map_append]; rfl
section
variable {w0 w:World} {C:Nat→Nat} {X:XB} {m pb:Nat} {zs:List Int} {V:PX} {A:Nat→Addr}
structure TeI (w1 wr:World) (ad:Option Addr) (L:List E3) (k:Nat) (u:Value):Prop where
 bel:Below w1.heap.size w1 wr
 own:wr.ownsRow w1.heap.size 9 1 u k (toldV (L.take k))
theorem tellEvents_any (h:WD w0 w C X zs V m) (hT:TabO w) (hp:BoxO w pb (ptrO X.xb)) (hN:EvN V.evs) (hl:V.evs.length≤500) :
  Calls Tryz.prog 75 #[ptrO pb] w fun e w'=>e=.returned (.string (bB (eventsO V.evs)))∧Below w.heap.size w w':=by
 have HS:=hid (events_any h)
 have HT:=hid hT
 have HN:=hid hN
 obtain ⟨L,HL⟩:∃ L,Hid (V.evs=L):=⟨_,rfl⟩
 rw [HL.out] at HS HN hl ⊢
 obtain ⟨n,Hn⟩:∃ n,Hid (L.length=n):=⟨_,rfl⟩
 rw [Hn.out] at HS hl
 clear h hT hN
 go_enter Tryz.func75,Tryz.ntmps75
 go_wp2_with fail
 refine HS.out.mono ?_
 rintro e w1 ⟨v1,rfl,ho1,hb1⟩
 have HB1:=hid hb1
 have HT1:=hid (HT.out.later hb1)
 rw [← Hn.out] at ho1
 obtain ⟨ad,cap,rfl,-,-,hel⟩:=own_el ho1
 have HEl:=hid hel
 rw [Hn.out]
 clear hb1 ho1 hel
 go_wp2_with fail
 go_loopw [3,12] (fun u v wr=>∃ k:Nat,k≤n∧v=.int .i64 (k:Int)∧Hid (TeI w1 wr ad L k u)) (fun _ v _=>n - (intOf v).toNat)
 case atStart=>exact ⟨0,Nat.zero_le _,rfl,Below.refl _ _,World.ownsRow_nil _ _ _ _⟩
 case round =>
  obtain ⟨k,hk,rfl,HI⟩:=hrel
  obtain ⟨adu,capu,hu⟩:=own_formO HI.out.own
  subst hu
  by_cases hlt:k<n
  ·have hlt2:(k:Int)<(n:Int):=by omega
   have hkl:k<L.length:=by rw [Hn.out]; exact hlt
   obtain ⟨b,off,hadr,y0,y1,y2⟩:=(HEl.out.later HI.out.bel) k hkl
   subst hadr
   obtain ⟨s,d,p,he,hsb,hdb⟩:=HN.out (L[k]'hkl) (List.getElem_mem hkl)
   have HEe:=hid he
   rw [he] at y0 y1 y2
   have HTr:=hid (HT1.out.later HI.out.bel)
   obtain ⟨W1,HW1⟩:∃ W1,Hid (wr.alloc (.cells #[.int .i64 (s:Int),.int .i64 (d:Int),.int .i64 (p:Int)] 180)=W1):=⟨_,rfl⟩
   have hr1:=heap_alloc_new wr (.cells #[.int .i64 (s:Int),.int .i64 (d:Int),.int .i64 (p:Int)] 180)
   have hbW:Below wr.heap.size wr (wr.alloc (.cells #[.int .i64 (s:Int),.int .i64 (d:Int),.int .i64 (p:Int)] 180)):=(Below.refl _ _).alloc (Nat.le_refl _) _
   rw [HW1.out] at hr1 hbW
   have HBW:=hid hbW
   have hTW:=HTr.out.later hbW
   have HTW:Hid (TabO W1.drew):=hTW
   have HR1:=hid hr1
   have HIt1:=hid (itoa_any s W1.drew HTW.out (by omega))
   clear he
   go_wp2_with fail
   rw [HW1.out]
   have d0:=cell_of_row _ _ 0 _ _ _ hr1
   have d1:=cell_of_row _ _ 1 _ _ _ hr1
   have d2:=cell_of_row _ _ 2 _ _ _ hr1
   have hbn:w1.heap.size≤wr.heap.size:=HI.out.bel.size
   clear hr1 hbW hTW y0 y1 y2
   go_region_held_law (fun W=>W.cell? ⟨wr.heap.size,0,none⟩=some (.int .i64 (s:Int))∧W.cell? ⟨wr.heap.size,1,none⟩=some (.int .i64 (d:Int))∧W.cell? ⟨wr.heap.size,2,none⟩=some (.int .i64 (p:Int))) (first|exact k2|exact k3|exact k4|exact k5|go_keep) (first
    | (go_at_call 132; (with_reducible refine (phase_is (p:Int) _).mono ?_); rintro e wx ⟨rfl,hx⟩; subst wx)
    | (go_at_call 64; (with_reducible refine HIt1.out.mono ?_); rintro e w2 ⟨rfl,hb2⟩; have HB2:=hid hb2; have hr2:=(hb2.block _ (row_ltJ HR1.out)).trans HR1.out; have HR2:=hid hr2; have k2:=And.intro (cell_of_row _ _ 0 _ _ _ hr2) (And.intro (cell_of_row _ _ 1 _ _ _ hr2) (cell_of_row _ _ 2 _ _ _ hr2)); have HIt2:=hid (itoa_any d w2 (HTW.out.later hb2) (by omega)); clear hb2 hr2)
    | (go_at_call 64; (with_reducible refine HIt2.out.mono ?_); rintro e w3 ⟨rfl,hb3⟩; have HB3:=hid hb3; have hr3:=(hb3.block _ (row_ltJ HR2.out)).trans HR2.out; have HR3:=hid hr3; have k3:=And.intro (cell_of_row _ _ 0 _ _ _ hr3) (And.intro (cell_of_row _ _ 1 _ _ _ hr3) (cell_of_row _ _ 2 _ _ _ hr3)); clear hb3 hr3)
    | (go_at_call 131; (with_reducible refine (join_three w3.heap.size (Lib.decDigits s) (Lib.decDigits d) (phaseO (p:Int)) _ (heap_alloc_new w3 _) (dec_len (by omega)) (dec_len (by omega)) (by have:=phaseO_len (p:Int); omega)).mono ?_); rintro e w4 ⟨rfl,hb4⟩; have hb34:=below_trans ((Below.refl w3.heap.size w3).alloc (Nat.le_refl _) _) hb4; have HB4:=hid hb34; have hr4:=(hb34.block _ (row_ltJ HR3.out)).trans HR3.out; have HR4:=hid hr4; have k4:=And.intro (cell_of_row _ _ 0 _ _ _ hr4) (And.intro (cell_of_row _ _ 1 _ _ _ hr4) (cell_of_row _ _ 2 _ _ _ hr4)); clear hb4 hb34 hr4)
    | (refine step_append_str (by rfl) _ _ (by rfl) w1.heap.size k (.slice adu k capu) (toldV (L.take k)) ⟨w4.heap.size,0,none⟩ 1 (bB (Lib.decDigits s ++ 32 :: (Lib.decDigits d ++ 32 :: phaseO (p:Int)))) (by rfl) (by rfl) (by exact own_later (own_later HI.out.own (below_trans HBW.out (below_trans (show Below W1.heap.size W1 w2 from ((Below.refl _ W1).drew).trans HB2.out) (below_trans HB3.out HB4.out))) (Nat.le_refl _)) ((Below.refl w4.heap.size w4).alloc (Nat.le_refl _) _) (Nat.le_refl _)) (by exact lit_one w4 9 _) (by omega) (by exact Nat.le_trans hbn (Nat.le_trans HBW.out.size (Nat.le_trans HB2.out.size (Nat.le_trans HB3.out.size (Nat.le_trans HB4.out.size ((Below.refl w4.heap.size w4).alloc (Nat.le_refl _) _).size))))) ?_; intro ad' cap' w5 hown5 hg5; have HS5:=hid (And.intro hown5 hg5); have hr5a:=((((Below.refl w4.heap.size w4).alloc (Nat.le_refl _) (.cells #[.string (bB (Lib.decDigits s ++ 32 :: (Lib.decDigits d ++ 32 :: phaseO (p:Int))))] 9)).block _ (row_ltJ HR4.out)).trans HR4.out); have hr5:=(hg5.block _ (row_ltJ hr5a) (fun e=>by have:=(HI.out.own.lt _ e.symm).2; omega)).trans hr5a; have k5:=And.intro (cell_of_row _ _ 0 _ _ _ hr5) (And.intro (cell_of_row _ _ 1 _ _ _ hr5) (cell_of_row _ _ 2 _ _ _ hr5)); clear hown5 hg5 hr5 hr5a))
   go_wp2_with fail
   go_roundw
   case rel =>
    refine ⟨k+1,by omega,by go_num,?_,?_⟩
    ·have hB:=(HI.out.bel.trans (HBW.out.mono hbn)).trans ((below_trans (show Below W1.heap.size W1 w2 from ((Below.refl _ W1).drew).trans HB2.out) (below_trans HB3.out HB4.out)).mono (Nat.le_trans hbn HBW.out.size))
     have hB2:=hB.trans (((Below.refl w4.heap.size w4).alloc (Nat.le_refl _) (.cells #[.string (bB (Lib.decDigits s ++ 32 :: (Lib.decDigits d ++ 32 :: phaseO (p:Int))))] 9)).mono hB.size)
     exact Below.grown hB2 HS5.out.2 hB2.size (fun y hy=>(HI.out.own.lt y hy).1)
    ·have he:=toldV_take hkl
     rw [HEe.out] at he
     rw [he]
     exact HS5.out.1
   case measure=>simp [intOf]; omega
  ·obtain rfl:k=n:=by omega
   have hlt2:¬ (k:Int)<(k:Int):=by omega
   have HO:=HI.out.own
   rw [List.take_of_length_le (Nat.le_of_eq Hn.out)] at HO
   have HOh:=hid HO
   have HBr:=hid (HB1.out.trans (HI.out.bel.mono HB1.out.size))
   clear HO
   by_cases hk0:k=0
   ·subst hk0
    have HZ:Hid (eventsO L=[110,111,116,104,105,110,103]):=by
     change _=_
     unfold eventsO
     rw [if_pos (List.length_eq_zero_iff.1 Hn.out)]
    go_wp2_with fail
    go_ret
    exact ⟨by rw [HZ.out]; rfl,HBr.out⟩
   ·have HZ:Hid (eventsO L=Lib.join (L.map evB) [44,32]):=by
     change _=_
     unfold eventsO
     rw [if_neg (fun e=>hk0 (by rw [← Hn.out,e]; rfl))]
    have hk1:¬ (k:Int)=0:=by omega
    have hk2:((k:Int) == 0)=false:=by simpa using hk1
    obtain ⟨g,hg,hcp,hrow⟩:∃ g,adu=some ⟨g,0,none⟩∧k≤capu∧(∀ (j:Nat) z,(L.map fun e=>bB (evB e))[j]? = some z→wr.cell? ⟨g,0+j,none⟩=some (.string z))∧g<wr.heap.size:=by
     have hc:=HOh.out
     rcases HOh.out.2 with ⟨e,h0⟩|⟨g,cap',cur,e,-,hrow,hle,-⟩
     ·exact absurd h0 hk0
     ·injection e with e1 e2 e3
      refine ⟨g,e1,by omega,fun j z hj=>?_,row_ltJ hrow⟩
      subst e1
      have:=hc.cells rfl j (.string z) (by unfold toldV; rw [List.getElem?_map] at hj ⊢; revert hj; cases L[j]? <;> simp)
      rw [addr_add] at this
      exact this
    subst hg
    have hml:((L.map fun e=>bB (evB e)).map (·.data.toList))=L.map evB:=by simp
    have hjl:=join_len [44,32] 100 (L.map evB) (fun x hx=>by obtain ⟨e,he,rfl⟩:=List.mem_map.1 hx; exact evB_len HN.out he)
    rw [List.length_map,Hn.out] at hjl
    have HJ:=hid (join_any g 0 capu (L.map fun e=>bB (evB e)) ⟨#[44,32]⟩ wr hrow.1 hrow.2 (by rw [List.length_map,Hn.out]; omega) (by rw [List.length_map,Hn.out]; exact hcp) (by rw [hml]; show (Lib.join (L.map evB) [44,32]).length≤_; simp at hjl; omega))
    rw [hml,List.length_map,Hn.out] at HJ
    clear hml hjl hrow
    go_wp2_with fail
    refine HJ.out.mono ?_
    rintro e w6 ⟨rfl,hb6⟩
    have HB6:=hid (below_trans HBr.out hb6)
    clear hb6
    go_wp2_with fail
    go_ret
    exact ⟨by rw [HZ.out]; rfl,HB6.out⟩
end
end Go.Proofs.YtaehdgemkafinaaGreatDoor
