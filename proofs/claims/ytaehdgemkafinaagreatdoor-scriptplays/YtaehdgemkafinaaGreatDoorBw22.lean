/-
  On the way to SPlaysProof: O11 VN VO GW.
-/
import Derived.Test.YtaehdgemkafinaaGreatDoorBw20
set_option maxHeartbeats 8000000
set_option maxRecDepth 100000
namespace Go.Proofs.YtaehdgemkafinaaGreatDoor
open Go.RowKit
theorem step_append_str {w:World} {ops:Array Oper} {o:Oper} {a:Act} {K:Act→World→Prop} {Q:Exit→Act→World→Prop} {E:Prop} (hgd:o.guard=none) (s x:Operand)
  (ho:o.op=.call { callee:=.builtin .append,args:=#[s,x],argTypes:=#[22,22] })
  (base n:Nat) (v:Value) (xs:List Value) (ad:Addr) (c:Nat) (F:ByteArray) (hs:a.eval s=v) (hx:a.eval x=.slice (some ad) 1 c) (hown:w.ownsRow base 9 1 v n xs) (hu:∀ j u,[Value.string F][j]? = some u→w.cell? (ad.add j)=some u) (hn:n≤1000000000000) (hb:base≤w.heap.size)
  (h:∀ ad' cap' w',w'.ownsRow base 9 1 (.slice ad' (n+1) cap') (n+1) (xs ++ [Value.string F])→w.grownBy w' v.ownBlock→K (a.put o.dst (.slice ad' (n+1) cap')) w') :
  if Region.wanted o (yielded ops a.tmps)=true then Oper.wp Tryz.prog o a w K Q else E:=by
 have hw:Region.wanted o (yielded ops a.tmps)=true:=by simp [Region.wanted,hgd]
 rw [if_pos hw]
 obtain ⟨i0,hi0,hz0,hz1,hz2⟩:=info_parts Tryz.infoStr
 obtain ⟨v',w',hr,h2,h3,-,-⟩:=run_append_own_at (P:=Tryz.prog) w base 22 o.type 9 i0 _ 1 16 Tryz.underlying22 hi0 hz0 hz1 hz2 rfl (by decide) v n xs hown ad 1 c [Value.string F] rfl hu (by intro u hu; simp at hu; subst hu; rfl) (by unfold maxLen; omega) (by omega) hb
 obtain ⟨ad',cap',rfl⟩:∃ ad' cap',v'=.slice ad' (n+1) cap':=by
  rcases h2.2 with ⟨e,h0⟩|⟨g,cap,cur,e,-⟩
  ·omega
  ·exact ⟨_,_,e⟩
 unfold Oper.wp execOp
 simp only [ho,resolve,invoke,builtin,Sem.run_bind,Sem.run_pure,Result.andThen_ok,List.map_toArray,List.map_cons,List.map_nil,hs,hx,hr]
 exact h ad' cap' w' h2 h3
def evB (e:E3):Bs:=Lib.decDigits e.s.toNat ++ 32 :: (Lib.decDigits e.d.toNat ++ 32 :: phaseO e.p)
def eventsO (L:List E3):Bs:=if L=[] then [110,111,116,104,105,110,103] else Lib.join (L.map evB) [44,32]
def EvN (L:List E3):Prop:=∀ e,e∈L→∃ i d p:Nat,e=⟨i,d,p⟩∧i≤1000∧d≤1000
theorem evB_len {L:List E3} (h:EvN L) {e:E3} (he:e∈L):(evB e).length≤100:=by
 obtain ⟨i,d,p,rfl,hi,hd⟩:=h e he
 unfold evB
 have h1:=Lib.nDigits_le20 i (by omega)
 have h2:=Lib.nDigits_le20 d (by omega)
 have h3:=phaseO_len (p:Int)
 simp [Lib.decDigits_length]
 omega
theorem join_len (sep:Bs) (n:Nat):∀ (xs:List Bs),(∀ x,x∈xs→x.length≤n)→(Lib.join xs sep).length≤xs.length * (n+sep.length)
 | [],_=>by simp [Lib.join_nil]
 | x :: r,h=>by
  rw [Lib.join_cons]
  have h1:(Lib.joinTail sep r).length≤r.length * (n+sep.length):=by
   unfold Lib.joinTail
   have:∀ l:List Bs,(∀ x,x∈l→x.length≤n)→((l.map (sep ++ ·)).flatten).length≤l.length * (n+sep.length):=fun l=>by
    induction l with
    | nil=>intro _; simp
    | cons y l ih =>
     intro hl
     have h2:=ih (fun x hx=>hl x (List.mem_cons_of_mem _ hx))
     have h3:=hl y List.mem_cons_self
     simp only [List.map_cons,List.flatten_cons,List.length_append,List.length_cons,Nat.add_mul] at *
     omega
   exact this r (fun x hx=>h x (List.mem_cons_of_mem _ hx))
  have h2:=h x List.mem_cons_self
  simp only [List.length_append,List.length_cons,Nat.add_mul]
  omega
def toldV (L:List E3):List Value:=L.map fun e=>Value.string (bB (evB e))
theorem toldV_take {L:List E3} {k:Nat} (h:k<L.length):toldV (L.take (k+1))=toldV (L.take k) ++ [Value.string (bB (evB (L[k]'h)))]:=by
 unfold toldV
 rw [List.take_succ_eq_append_getElem h,List.map_append]; rfl
section
variable {w0 w:World} {C:Nat→Nat} {X:XB} {m pb:Nat} {zs:List Int} {V:PX} {A:Nat→Addr}
structure TeI (w1 wr:World) (ad:Option Addr) (L:List E3) (k:Nat) (u:Value):Prop where
 bel:Below w1.heap.size w1 wr
 own:wr.ownsRow w1.heap.size 9 1 u k (toldV (L.take k))
theorem tellEvents_any (h:WD w0 w C X zs V m) (hT:TabO w) (hp:BoxO w pb (ptrO X.xb)) (hN:EvN V.evs) (hl:V.evs.length≤500) :
  Calls Tryz.prog 75 #[ptrO pb] w fun e w'=>e=.returned (.string (bB (eventsO V.evs)))∧Below w.heap.size w w':=by
 have HS:=hid (events_any h)
 have HT:=hid hT
 have HN:=hid hN
 obtain ⟨L,HL⟩:∃ L,Hid (V.evs=L):=⟨_,rfl⟩
 rw [HL.out] at HS HN hl ⊢
 obtain ⟨n,Hn⟩:∃ n,Hid (L.length=n):=⟨_,rfl⟩
 rw [Hn.out] at HS hl
 clear h hT hN
 go_enter Tryz.func75,Tryz.ntmps75
 go_wp2_with fail
 refine HS.out.mono ?_
 rintro e w1 ⟨v1,rfl,ho1,hb1⟩
 have HB1:=hid hb1
 have HT1:=hid (HT.out.later hb1)
 rw [← Hn.out] at ho1
 obtain ⟨ad,cap,rfl,-,-,hel⟩:=own_el ho1
 have HEl:=hid hel
 rw [Hn.out]
 clear hb1 ho1 hel
 go_wp2_with fail
 go_loopw [3,12] (fun u v wr=>∃ k:Nat,k≤n∧v=.int .i64 (k:Int)∧Hid (TeI w1 wr ad L k u)) (fun _ v _=>n - (intOf v).toNat)
 case atStart=>exact ⟨0,Nat.zero_le _,rfl,Below.refl _ _,World.ownsRow_nil _ _ _ _⟩
 case round =>
  obtain ⟨k,hk,rfl,HI⟩:=hrel
  obtain ⟨adu,capu,hu⟩:=own_formO HI.out.own
  subst hu
  by_cases hlt:k<n
  ·have hlt2:(k:Int)<(n:Int):=by omega
   have hkl:k<L.length:=by rw [Hn.out]; exact hlt
   obtain ⟨b,off,hadr,y0,y1,y2⟩:=(HEl.out.later HI.out.bel) k hkl
   subst hadr
   obtain ⟨s,d,p,he,hsb,hdb⟩:=HN.out (L[k]'hkl) (List.getElem_mem hkl)
   have HEe:=hid he
   rw [he] at y0 y1 y2
   have HTr:=hid (HT1.out.later HI.out.bel)
   obtain ⟨W1,HW1⟩:∃ W1,Hid (wr.alloc (.cells #[.int .i64 (s:Int),.int .i64 (d:Int),.int .i64 (p:Int)] 180)=W1):=⟨_,rfl⟩
   have hr1:=heap_alloc_new wr (.cells #[.int .i64 (s:Int),.int .i64 (d:Int),.int .i64 (p:Int)] 180)
   have hbW:Below wr.heap.size wr (wr.alloc (.cells #[.int .i64 (s:Int),.int .i64 (d:Int),.int .i64 (p:Int)] 180)):=(Below.refl _ _).alloc (Nat.le_refl _) _
   rw [HW1.out] at hr1 hbW
   have HBW:=hid hbW
   have hTW:=HTr.out.later hbW
   have HTW:Hid (TabO W1.drew):=hTW
   have HR1:=hid hr1
   have HIt1:=hid (itoa_any s W1.drew HTW.out (by omega))
   clear he
   go_wp2_with fail
   rw [HW1.out]
   have d0:=cell_of_row _ _ 0 _ _ _ hr1
   have d1:=cell_of_row _ _ 1 _ _ _ hr1
   have d2:=cell_of_row _ _ 2 _ _ _ hr1
   have hbn:w1.heap.size≤wr.heap.size:=HI.out.bel.size
   clear hr1 hbW hTW y0 y1 y2
   go_region_held_law (fun W=>W.cell? ⟨wr.heap.size,0,none⟩=some (.int .i64 (s:Int))∧W.cell? ⟨wr.heap.size,1,none⟩=some (.int .i64 (d:Int))∧W.cell? ⟨wr.heap.size,2,none⟩=some (.int .i64 (p:Int))) (first|exact k2|exact k3|exact k4|exact k5|go_keep) (first
    | (go_at_call 132; (with_reducible refine (phase_is (p:Int) _).mono ?_); rintro e wx ⟨rfl,hx⟩; subst wx)
    | (go_at_call 64; (with_reducible refine HIt1.out.mono ?_); rintro e w2 ⟨rfl,hb2⟩; have HB2:=hid hb2; have hr2:=(hb2.block _ (row_ltJ HR1.out)).trans HR1.out; have HR2:=hid hr2; have k2:=And.intro (cell_of_row _ _ 0 _ _ _ hr2) (And.intro (cell_of_row _ _ 1 _ _ _ hr2) (cell_of_row _ _ 2 _ _ _ hr2)); have HIt2:=hid (itoa_any d w2 (HTW.out.later hb2) (by omega)); clear hb2 hr2)
    | (go_at_call 64; (with_reducible refine HIt2.out.mono ?_); rintro e w3 ⟨rfl,hb3⟩; have HB3:=hid hb3; have hr3:=(hb3.block _ (row_ltJ HR2.out)).trans HR2.out; have HR3:=hid hr3; have k3:=And.intro (cell_of_row _ _ 0 _ _ _ hr3) (And.intro (cell_of_row _ _ 1 _ _ _ hr3) (cell_of_row _ _ 2 _ _ _ hr3)); clear hb3 hr3)
    | (go_at_call 131; (with_reducible refine (join_three w3.heap.size (Lib.decDigits s) (Lib.decDigits d) (phaseO (p:Int)) _ (heap_alloc_new w3 _) (dec_len (by omega)) (dec_len (by omega)) (by have:=phaseO_len (p:Int); omega)).mono ?_); rintro e w4 ⟨rfl,hb4⟩; have hb34:=below_trans ((Below.refl w3.heap.size w3).alloc (Nat.le_refl _) _) hb4; have HB4:=hid hb34; have hr4:=(hb34.block _ (row_ltJ HR3.out)).trans HR3.out; have HR4:=hid hr4; have k4:=And.intro (cell_of_row _ _ 0 _ _ _ hr4) (And.intro (cell_of_row _ _ 1 _ _ _ hr4) (cell_of_row _ _ 2 _ _ _ hr4)); clear hb4 hb34 hr4)
    | (refine step_append_str (by rfl) _ _ (by rfl) w1.heap.size k (.slice adu k capu) (toldV (L.take k)) ⟨w4.heap.size,0,none⟩ 1 (bB (Lib.decDigits s ++ 32 :: (Lib.decDigits d ++ 32 :: phaseO (p:Int)))) (by rfl) (by rfl) (by exact own_later (own_later HI.out.own (below_trans HBW.out (below_trans (show Below W1.heap.size W1 w2 from ((Below.refl _ W1).drew).trans HB2.out) (below_trans HB3.out HB4.out))) (Nat.le_refl _)) ((Below.refl w4.heap.size w4).alloc (Nat.le_refl _) _) (Nat.le_refl _)) (by exact lit_one w4 9 _) (by omega) (by exact Nat.le_trans hbn (Nat.le_trans HBW.out.size (Nat.le_trans HB2.out.size (Nat.le_trans HB3.out.size (Nat.le_trans HB4.out.size ((Below.refl w4.heap.size w4).alloc (Nat.le_refl _) _).size))))) ?_; intro ad' cap' w5 hown5 hg5; have HS5:=hid (And.intro hown5 hg5); have hr5a:=((((Below.refl w4.heap.size w4).alloc (Nat.le_refl _) (.cells #[.string (bB (Lib.decDigits s ++ 32 :: (Lib.decDigits d ++ 32 :: phaseO (p:Int))))] 9)).block _ (row_ltJ HR4.out)).trans HR4.out); have hr5:=(hg5.block _ (row_ltJ hr5a) (fun e=>by have:=(HI.out.own.lt _ e.symm).2; omega)).trans hr5a; have k5:=And.intro (cell_of_row _ _ 0 _ _ _ hr5) (And.intro (cell_of_row _ _ 1 _ _ _ hr5) (cell_of_row _ _ 2 _ _ _ hr5)); clear hown5 hg5 hr5 hr5a))
   go_wp2_with fail
   go_roundw
   case rel =>
    refine ⟨k+1,by omega,by go_num,?_,?_⟩
    ·have hB:=(HI.out.bel.trans (HBW.out.mono hbn)).trans ((below_trans (show Below W1.heap.size W1 w2 from ((Below.refl _ W1).drew).trans HB2.out) (below_trans HB3.out HB4.out)).mono (Nat.le_trans hbn HBW.out.size))
     have hB2:=hB.trans (((Below.refl w4.heap.size w4).alloc (Nat.le_refl _) (.cells #[.string (bB (Lib.decDigits s ++ 32 :: (Lib.decDigits d ++ 32 :: phaseO (p:Int))))] 9)).mono hB.size)
     exact Below.grown hB2 HS5.out.2 hB2.size (fun y hy=>(HI.out.own.lt y hy).1)
    ·have he:=toldV_take hkl
     rw [HEe.out] at he
     rw [he]
     exact HS5.out.1
   case measure=>simp [intOf]; omega
  ·obtain rfl:k=n:=by omega
   have hlt2:¬ (k:Int)<(k:Int):=by omega
   have HO:=HI.out.own
   rw [List.take_of_length_le (Nat.le_of_eq Hn.out)] at HO
   have HOh:=hid HO
   have HBr:=hid (HB1.out.trans (HI.out.bel.mono HB1.out.size))
   clear HO
   by_cases hk0:k=0
   ·subst hk0
    have HZ:Hid (eventsO L=[110,111,116,104,105,110,103]):=by
     change _=_
     unfold eventsO
     rw [if_pos (List.length_eq_zero_iff.1 Hn.out)]
    go_wp2_with fail
    go_ret
    exact ⟨by rw [HZ.out]; rfl,HBr.out⟩
   ·have HZ:Hid (eventsO L=Lib.join (L.map evB) [44,32]):=by
     change _=_
     unfold eventsO
     rw [if_neg (fun e=>hk0 (by rw [← Hn.out,e]; rfl))]
    have hk1:¬ (k:Int)=0:=by omega
    have hk2:((k:Int) == 0)=false:=by simpa using hk1
    obtain ⟨g,hg,hcp,hrow⟩:∃ g,adu=some ⟨g,0,none⟩∧k≤capu∧(∀ (j:Nat) z,(L.map fun e=>bB (evB e))[j]? = some z→wr.cell? ⟨g,0+j,none⟩=some (.string z))∧g<wr.heap.size:=by
     have hc:=HOh.out
     rcases HOh.out.2 with ⟨e,h0⟩|⟨g,cap',cur,e,-,hrow,hle,-⟩
     ·exact absurd h0 hk0
     ·injection e with e1 e2 e3
      refine ⟨g,e1,by omega,fun j z hj=>?_,row_ltJ hrow⟩
      subst e1
      have:=hc.cells rfl j (.string z) (by unfold toldV; rw [List.getElem?_map] at hj ⊢; revert hj; cases L[j]? <;> simp)
      rw [addr_add] at this
      exact this
    subst hg
    have hml:((L.map fun e=>bB (evB e)).map (·.data.toList))=L.map evB:=by simp
    have hjl:=join_len [44,32] 100 (L.map evB) (fun x hx=>by obtain ⟨e,he,rfl⟩:=List.mem_map.1 hx; exact evB_len HN.out he)
    rw [List.length_map,Hn.out] at hjl
    have HJ:=hid (join_any g 0 capu (L.map fun e=>bB (evB e)) ⟨#[44,32]⟩ wr hrow.1 hrow.2 (by rw [List.length_map,Hn.out]; omega) (by rw [List.length_map,Hn.out]; exact hcp) (by rw [hml]; show (Lib.join (L.map evB) [44,32]).length≤_; simp at hjl; omega))
    rw [hml,List.length_map,Hn.out] at HJ
    clear hml hjl hrow
    go_wp2_with fail
    refine HJ.out.mono ?_
    rintro e w6 ⟨rfl,hb6⟩
    have HB6:=hid (below_trans HBr.out hb6)
    clear hb6
    go_wp2_with fail
    go_ret
    exact ⟨by rw [HZ.out]; rfl,HB6.out⟩
end
theorem Held9.to3 {w:World} {A:Nat→Addr} (h:Held9 w A):Held3 w A:=fun i h1 h3=>by
 have hi:i=1 ∨ i=2 ∨ i=3:=by omega
 rcases hi with rfl|rfl|rfl
 ·exact h.var 1 (by decide)
 ·exact h.var 2 (by decide)
 ·exact h.var 3 (by decide)
theorem seeP_seen {P:PL} {p M:Int} (h0:0≤P.seen) (h1:P.seen≤M) (p0:0≤p) (p1:p≤M):0≤(seeP P p).seen∧(seeP P p).seen≤M:=by
 unfold seeP
 split
 ·exact ⟨p0,p1⟩
 ·exact ⟨h0,h1⟩
theorem phear_seen {zs:List Int} {id:Nat} {deal att:Int} {P:PL} {f:F9} {M:Int} (h0:0≤P.seen) (h1:P.seen≤M) (p0:0≤f.pr) (p1:f.pr≤M):0≤(phear zs id deal att P f).1.seen∧(phear zs id deal att P f).1.seen≤M:=by
 have hn:(noteP P f).seen=P.seen:=rfl
 have hs:=seeP_seen (P:=noteP P f) (p:=f.pr) (M:=M) (by rw [hn]; exact h0) (by rw [hn]; exact h1) p0 p1
 unfold phear
 split
 ·unfold takenP
  split
  ·unfold voteP
   split
   ·exact ⟨h0,h1⟩
   ·split
    ·exact ⟨h0,h1⟩
    ·exact ⟨h0,h1⟩
  ·split
   ·exact hs
   ·split
    ·unfold tellP
     split
     ·exact hs
     ·split
      ·exact hs
      ·exact hs
    ·unfold ackP
     split
     ·exact hs
     ·exact hs
 ·exact ⟨h0,h1⟩
theorem phear_out {zs:List Int} {id:Nat} {deal att:Int} {P:PL} {f:F9} {x:Int×Int} (h:(phear zs id deal att P f).2=some x):(x.1=7 ∨ x.1=5)∧0≤x.2∧x.2≤5:=by
 unfold phear at h
 split at h
 ·unfold takenP at h
  split at h
  ·unfold voteP at h
   split at h
   ·obtain rfl:=Option.some.inj h; exact ⟨.inl rfl,by decide,by decide⟩
   ·split at h
    ·obtain rfl:=Option.some.inj h; exact ⟨.inr rfl,by decide,by decide⟩
    ·cases h
  ·split at h
   ·cases h
   ·split at h
    ·unfold tellP at h
     split at h
     ·cases h
     ·generalize hc:chooseL _=c at h
      have:=choose_ways (toldS (seeP (noteP P f) f.pr).told f.f.toNat ⟨f.ph,f.pr,f.pa⟩)
      rw [hc] at this
      split at h
      ·obtain rfl:=Option.some.inj h
       refine ⟨.inl rfl,?_⟩
       rcases this with rfl|rfl|rfl|rfl <;> exact ⟨by decide,by decide⟩
      ·obtain rfl:=Option.some.inj h
       refine ⟨.inr rfl,?_⟩
       rcases this with rfl|rfl|rfl|rfl <;> exact ⟨by decide,by decide⟩
    ·unfold ackP at h
     split at h
     ·cases h
     ·obtain rfl:=Option.some.inj h
      refine ⟨.inl rfl,?_⟩
      show 0≤afterI _∧afterI _≤5
      unfold afterI
      split
      ·decide
      ·split <;> decide
 ·cases h
theorem toL_fi {n:Nat} {id d:Nat} {k a ph:Int} (hid:id<n) (hn:n≤7) (hd:d<6) (hk:1≤k∧k≤7) (ha:0≤a∧a≤1048576) (hp:0≤ph∧ph≤5):∀ m,m≤n→∀ f,f∈toL id d k a ph m→FI n f
 | 0,_,f,hf=>by cases hf
 | m+1,hm,f,hf=>by
  rw [toL,List.mem_append] at hf
  rcases hf with hf|hf
  ·exact toL_fi hid hn hd hk ha hp m (by omega) f hf
  ·rw [List.mem_singleton] at hf
   subst hf
   refine ⟨by show (0:Int)≤id; omega,by show (id:Int)<n; omega,by show (0:Int)≤m; omega,by show (m:Int)<n; omega,⟨?_,?_,?_,hk,ha,hp,by show (0:Int)≤0∧(0:Int)≤1048576; decide,by show (0:Int)≤0∧(0:Int)≤1048576; decide⟩⟩
   ·show (0:Int)≤id∧(id:Int)≤6; omega
   ·show (0:Int)≤m∧(m:Int)≤6; omega
   ·show (0:Int)≤d∧(d:Int)≤5; omega
theorem outL_fi {zs:List Int} {id d:Nat} {att:Int} {P:PL} {f:F9} (hid:id<zs.length) (hn:zs.length≤7) (hd:d<6) (ha:0≤att∧att≤1048576):∀ x,x∈outL id d att zs.length (phear zs id d att P f).2→FI zs.length x:=by
 intro x hx
 cases h:(phear zs id d att P f).2 with
 | none=>rw [h] at hx; cases hx
 | some y =>
  rw [h] at hx
  have:=phear_out h
  exact toL_fi hid hn hd (by omega) ha this.2 _ (Nat.le_refl _) x hx
section
variable {w0 w w':World} {C:Nat→Nat} {K:NB} {X:XB} {i m m':Nat} {zs:List Int} {N:PN} {V V':PX} {A:Nat→Addr}
theorem ldV_set {d e:Nat} {x y:Int×PL} (h:N.ld d=some x):ldV K (setLd N d y) e=ldV K N e:=by
 unfold ldV setLd
 by_cases g:e=d
 ·subst g; simp [h]
 ·simp [g]
theorem ND.leadHear {d:Nat} {x:Int×PL} {P:PL} (h:ND w0 w C K i zs N m) (hd:d<6) (hl:N.ld d=some x) (hL:LD w' (K.lb d) (K.b d) (K.cap d) i d x.1 zs P) (hk:Kept (In1 (K.lb d)) w w') (hlo:w0.heap.size≤K.lb d):ND w0 w' C K i zs (setLd N d (x.1,P)) m:=by
 have e1:=h.cs; have e2:=h.cj; have e3:=h.cm; have e4:=h.cp; have e5:=h.cq; have e6:=h.cn
 have g0:=h.cl d hd x hl
 have nS:∀ y,C y≠100 * i+10+d→¬ In1 (K.lb d) y:=fun y g hy=>by rw [show y=K.lb d from hy] at g; exact g g0.1
 have hlo':∀ y,In1 (K.lb d) y→w0.heap.size≤y:=fun y hy=>by rw [show y=K.lb d from hy]; exact hlo
 have hrow:ndC K (setLd N d (x.1,P))=ndC K N:=by unfold ndC; simp only [ldV_set hl]
 refine ⟨by rw [hrow]; exact hk.row h.row (nS _ (by omega)),h.sp.far hk hlo' (fun y hy=>nS y (by rcases hy with rfl|rfl|rfl <;> omega)) (nS _ (by omega)) (nS _ (by omega)),fun e he y hy=>?_,h.cn,h.cs,h.cj,h.cm,h.cp,h.cq,fun e he y hy=>?_,h.n0⟩
 ·by_cases g:e=d
  ·subst g
   have hy':(x.1,P)=y:=by simpa [setLd] using hy
   subst hy'
   exact hL
  ·have hy':N.ld e=some y:=by simpa [setLd,g] using hy
   have g1:=h.cl e he y hy'
   exact (h.lds e he y hy').kept hk (nS _ (by omega)) (nS _ (by omega))
 ·by_cases g:e=d
  ·subst g; exact h.cl e he x hl
  ·exact h.cl e he y (by simpa [setLd,g] using hy)
theorem NI.leadHear {n d:Nat} {x:Int×PL} {P:PL} (h:NI n N m) (hl:N.ld d=some x) (h1:P.stt<4) (h2:0≤P.seen∧P.seen≤1048576) (h3:PW n P):NI n (setLd N d (x.1,P)) m:=by
 refine ⟨h.gd,h.nm,h.sz,h.up,h.l0,h.l1,fun e y hy=>?_⟩
 by_cases g:e=d
 ·subst g
  have hy':(x.1,P)=y:=by simpa [setLd] using hy
  subst hy'
  have:=h.ld e x hl
  exact ⟨this.1,this.2.1,h1,h2,h3⟩
 ·exact h.ld e y (by simpa [setLd,g] using hy)
theorem lead_out {W2 w3:World} {d:Nat} {x:Int×PL} {F:F9} {v:Value} (h:WD w0 w C X zs V m) (hb:Below w.heap.size w W2) (hi:i<zs.length) (hd:d<6) (hl:(V.nd i).ld d=some x) (hf:FrB W2.heap.size w3 v (outL i d x.1 zs.length (phear zs i d x.1 x.2 F).2)) (hL:LD w3 ((X.K i).lb d) ((X.K i).b d) ((X.K i).cap d) i d x.1 zs (phear zs i d x.1 x.2 F).1) (hk:Kept (In1 ((X.K i).lb d)) W2 w3) (hF:FI zs.length F) :
  WOutF w0 w w3 C X zs (leadX zs V i d F) (m+1) v (leadO zs V i d F):=by
 have h2:=h.later hb
 have g0:=(h2.nds i hi).cl d hd x hl
 have hlo:w0.heap.size≤(X.K i).lb d:=h.low _ (by have:=h.n7.2; omega)
 have hni:=(h.inv.nd i hi).ld d x hl
 have hp:=hF.ok.2.2.2.2.2.2.1
 have hkc:Kept (fun y=>C y / 100=i) W2 w3:=hk.mono (fun y hy=>by rw [show y=_ from hy]; show C _ / 100=i; omega)
 have hI:=(h.inv.nd i hi).leadHear hl (phear_st hni.2.2.1) (phear_seen (zs:=zs) (id:=i) (deal:=d) (att:=x.1) hni.2.2.2.1.1 hni.2.2.2.1.2 hp.1 hp.2) hL.pw
 have e1:leadX zs V i d F=setNd V i (setLd (V.nd i) d (x.1,(phear zs i d x.1 x.2 F).1)):=by unfold leadX; rw [hl]
 have e2:leadO zs V i d F=outL i d x.1 zs.length (phear zs i d x.1 x.2 F).2:=by unfold leadO; rw [hl]
 rw [e1,e2]
 have n7:=h.n7.2
 refine ⟨C,_,h2.node hkc hi (fun y hy=>hy) (fun _ _=>rfl) (fun y hy hc=>by have:=h2.lt y hc; omega) (((h2.nds i hi).leadHear hd hl hL hk hlo).mono (Nat.le_succ _)) rfl (Nat.le_succ _) (h2.inv.node (hI.mono (Nat.le_succ _)) (Nat.le_succ _)),key_K rfl,(Kept.of_below hb).trans (hkc.mono (fun y hy=>by show C y<2000; omega)),fun _ _=>rfl,(FrF.of_b hf (fun y hy=>?_)).mono hb.size⟩
 rcases Nat.lt_or_ge (C y) 2000 with q|q
 ·have:=h.lt y q
  have:=hb.size
  omega
 ·exact q
theorem arrive_none (f d k a ph pr pa:Nat) (y:Bool) (hl:(V.nd i).ld d=none) (h:WD w0 w C X zs V m) (hE:Held9 w0 A) (hi:i<zs.length) (hf:FI zs.length (frN f i d k a y ph pr pa)) (hk:((k:Int) == 2)=true ∨ (((k:Int) == 2)=false∧((k:Int) == 4)=true) ∨ (((k:Int) == 2)=false∧((k:Int) == 4)=false∧((k:Int) == 6)=true)) (hd:d<6) :
  Calls Tryz.prog 116 #[.pointer (some ⟨X.xb,0,none⟩),frV (f:Int) (i:Int) (d:Int) (k:Int) (a:Int) y (ph:Int) (pr:Int) (pa:Int)] w fun e w'=>∃ v,e=.returned v∧WOutF w0 w w' C X zs V (m+1) v []:=by
 obtain ⟨W,HW⟩:∃ W,Hid (w.alloc (.cells #[.int .i64 (f:Int),.int .i64 (i:Int),.int .i64 (d:Int),.int .i64 (k:Int),.int .i64 (a:Int),.bool y,.int .i64 (ph:Int),.int .i64 (pr:Int),.int .i64 (pa:Int)] 125)=W):=⟨_,rfl⟩
 have HB:Hid (Below w.heap.size w W):=by rw [← HW.out]; exact (Below.refl _ _).alloc (Nat.le_refl _) _
 have HR:Hid (W.heap[w.heap.size]? = some (.cells #[.int .i64 (f:Int),.int .i64 (i:Int),.int .i64 (d:Int),.int .i64 (k:Int),.int .i64 (a:Int),.bool y,.int .i64 (ph:Int),.int .i64 (pr:Int),.int .i64 (pa:Int)] 125 (0,0))):=by rw [← HW.out]; exact heap_alloc_new w _
 obtain ⟨b0,b1,b2,b3,b4,b5,b6,b7,b8⟩:=nine HR.out
 have H0:=hid h
 have H1:=hid (h.later HB.out)
 have HE:=hid hE
 have HI:=hid hi
 have HFI:=hid hf
 obtain ⟨-,c1,-,-,-⟩:=H1.out.cells
 have c2:=H1.out.ns i hi
 have c3:=(H1.out.nds i hi).lead hd
 obtain ⟨n,hn7⟩:∃ n,Hid (zs.length=n):=⟨_,rfl⟩
 have n7:=h.n7
 rw [hn7.out] at c1 hi n7
 have hW:=HW.out
 rw [ldV_none hl] at c3
 clear h hE hf hl
 rcases hk with hk|hk|hk
 all_goals
  go_enter Tryz.func116,Tryz.ntmps116
  go_wp2_with fail
  go_quiet (fail)
  rename_i nq
  obtain ⟨W2,HW2⟩:∃ W2,Hid (W.drewN nq=W2):=⟨_,rfl⟩
  have HB2:Hid (Below w.heap.size w W2):=by rw [← HW2.out]; exact below_drewN HB.out nq
  have hW2:=HW2.out
  rw [hW2]
  have HR2:Hid (W2.heap[w.heap.size]? = some (.cells #[.int .i64 (f:Int),.int .i64 (i:Int),.int .i64 (d:Int),.int .i64 (k:Int),.int .i64 (a:Int),.bool y,.int .i64 (ph:Int),.int .i64 (pr:Int),.int .i64 (pa:Int)] 125 (0,0))):=by rw [← HW2.out]; exact HR.out
  clear hW2 b0 b1 b2 b3 b4 b5 b6 b7 b8 c1 c2 c3 hW
  obtain ⟨b0,b1,b2,b3,b4,b5,b6,b7,b8⟩:=nine HR2.out
  have H2:=hid (H0.out.later HB2.out)
  go_wp2_with fail
  go_ret
  refine ⟨_,rfl,?_⟩
  exact ⟨C,X,H2.out.mono (Nat.le_succ _),rfl,Kept.of_below HB2.out,fun _ _=>rfl,FrF.nil _ _ _⟩
theorem arrive_some (f d k a ph pr pa:Nat) (y:Bool) (x:Int×PL) (hl:(V.nd i).ld d=some x) (h:WD w0 w C X zs V m) (hE:Held9 w0 A) (hi:i<zs.length) (hf:FI zs.length (frN f i d k a y ph pr pa)) (hk:((k:Int) == 2)=true ∨ (((k:Int) == 2)=false∧((k:Int) == 4)=true) ∨ (((k:Int) == 2)=false∧((k:Int) == 4)=false∧((k:Int) == 6)=true)) (hd:d<6) :
  Calls Tryz.prog 116 #[.pointer (some ⟨X.xb,0,none⟩),frV (f:Int) (i:Int) (d:Int) (k:Int) (a:Int) y (ph:Int) (pr:Int) (pa:Int)] w fun e w'=>∃ v,e=.returned v∧WOutF w0 w w' C X zs (leadX zs V i d (frN f i d k a y ph pr pa)) (m+1) v (leadO zs V i d (frN f i d k a y ph pr pa)):=by
 obtain ⟨W,HW⟩:∃ W,Hid (w.alloc (.cells #[.int .i64 (f:Int),.int .i64 (i:Int),.int .i64 (d:Int),.int .i64 (k:Int),.int .i64 (a:Int),.bool y,.int .i64 (ph:Int),.int .i64 (pr:Int),.int .i64 (pa:Int)] 125)=W):=⟨_,rfl⟩
 have HB:Hid (Below w.heap.size w W):=by rw [← HW.out]; exact (Below.refl _ _).alloc (Nat.le_refl _) _
 have HR:Hid (W.heap[w.heap.size]? = some (.cells #[.int .i64 (f:Int),.int .i64 (i:Int),.int .i64 (d:Int),.int .i64 (k:Int),.int .i64 (a:Int),.bool y,.int .i64 (ph:Int),.int .i64 (pr:Int),.int .i64 (pa:Int)] 125 (0,0))):=by rw [← HW.out]; exact heap_alloc_new w _
 obtain ⟨b0,b1,b2,b3,b4,b5,b6,b7,b8⟩:=nine HR.out
 have H0:=hid h
 have H1:=hid (h.later HB.out)
 have HE:=hid hE
 have HI:=hid hi
 have HFI:=hid hf
 obtain ⟨-,c1,-,-,-⟩:=H1.out.cells
 have c2:=H1.out.ns i hi
 have c3:=(H1.out.nds i hi).lead hd
 obtain ⟨n,hn7⟩:∃ n,Hid (zs.length=n):=⟨_,rfl⟩
 have n7:=h.n7
 rw [hn7.out] at c1 hi n7
 have hW:=HW.out
 have HLd:=hid hl
 have HP:=hid ((h.inv.nd i (by rw [hn7.out]; exact hi)).ld d x hl).2.2.1
 rw [ldV_some hl] at c3
 clear h hE hf hl
 rcases hk with hk|hk|hk
 all_goals
  go_enter Tryz.func116,Tryz.ntmps116
  go_wp2_with fail
  go_quiet (fail)
  rename_i nq
  obtain ⟨W2,HW2⟩:∃ W2,Hid (W.drewN nq=W2):=⟨_,rfl⟩
  have HB2:Hid (Below w.heap.size w W2):=by rw [← HW2.out]; exact below_drewN HB.out nq
  have hW2:=HW2.out
  rw [hW2]
  have HR2:Hid (W2.heap[w.heap.size]? = some (.cells #[.int .i64 (f:Int),.int .i64 (i:Int),.int .i64 (d:Int),.int .i64 (k:Int),.int .i64 (a:Int),.bool y,.int .i64 (ph:Int),.int .i64 (pr:Int),.int .i64 (pa:Int)] 125 (0,0))):=by rw [← HW2.out]; exact HR.out
  clear hW2 b0 b1 b2 b3 b4 b5 b6 b7 b8 c1 c2 c3 hW
  obtain ⟨b0,b1,b2,b3,b4,b5,b6,b7,b8⟩:=nine HR2.out
  have H2:=hid (H0.out.later HB2.out)
  go_wp2_with fail
  refine (ldhear_any A (f:Int) (i:Int) (d:Int) (k:Int) (a:Int) y (ph:Int) (pr:Int) (pa:Int) H0.out.inv.he HP.out (H2.out.held HE.out).to3 ((H2.out.nds i HI.out).lds d hd x HLd.out)).mono ?_
  rintro e w3 ⟨v,rfl,hf3,hl3,hk3⟩
  have HA3:=hid (And.intro hf3 (And.intro hl3 hk3))
  clear hf3 hl3 hk3
  go_wp2_with fail
  go_ret
  refine ⟨_,rfl,?_⟩
  exact lead_out H0.out HB2.out HI.out hd HLd.out HA3.out.1 HA3.out.2.1 HA3.out.2.2 HFI.out
theorem arrive_hear (f d k a ph pr pa:Nat) (y:Bool) (h:WD w0 w C X zs V m) (hE:Held9 w0 A) (hi:i<zs.length) (hf:FI zs.length (frN f i d k a y ph pr pa)) (hk:((k:Int) == 2)=false∧((k:Int) == 4)=false∧((k:Int) == 6)=false) (hd:d<6) (hu:(V.nd i).l≠-2) (hm:m<1000000) :
  Calls Tryz.prog 116 #[.pointer (some ⟨X.xb,0,none⟩),frV (f:Int) (i:Int) (d:Int) (k:Int) (a:Int) y (ph:Int) (pr:Int) (pa:Int)] w fun e w'=>∃ v,e=.returned v∧WOutF w0 w w' C X zs (hearX V i (frN f i d k a y ph pr pa)) (m+2) v (ansN i (V.nd i) (frN f i d k a y ph pr pa)):=by
 obtain ⟨W,HW⟩:∃ W,Hid (w.alloc (.cells #[.int .i64 (f:Int),.int .i64 (i:Int),.int .i64 (d:Int),.int .i64 (k:Int),.int .i64 (a:Int),.bool y,.int .i64 (ph:Int),.int .i64 (pr:Int),.int .i64 (pa:Int)] 125)=W):=⟨_,rfl⟩
 have HB:Hid (Below w.heap.size w W):=by rw [← HW.out]; exact (Below.refl _ _).alloc (Nat.le_refl _) _
 have HR:Hid (W.heap[w.heap.size]? = some (.cells #[.int .i64 (f:Int),.int .i64 (i:Int),.int .i64 (d:Int),.int .i64 (k:Int),.int .i64 (a:Int),.bool y,.int .i64 (ph:Int),.int .i64 (pr:Int),.int .i64 (pa:Int)] 125 (0,0))):=by rw [← HW.out]; exact heap_alloc_new w _
 obtain ⟨b0,b1,b2,b3,b4,b5,b6,b7,b8⟩:=nine HR.out
 have H0:=hid h
 have H1:=hid (h.later HB.out)
 have HE:=hid hE
 have HI:=hid hi
 have HFI:=hid hf
 obtain ⟨-,c1,-,-,-⟩:=H1.out.cells
 have c2:=H1.out.ns i hi
 have c3:=(H1.out.nds i hi).lead hd
 obtain ⟨n,hn7⟩:∃ n,Hid (zs.length=n):=⟨_,rfl⟩
 have n7:=h.n7
 rw [hn7.out] at c1 hi n7
 have hW:=HW.out
 obtain ⟨hk,hk4,hk6⟩:=hk
 have HU:=hid hu
 clear h hE hf hu
 go_enter Tryz.func116,Tryz.ntmps116
 go_wp2_with fail
 refine (whear_any f d k a ph pr pa y _ rfl H1.out HE.out HI.out HU.out HFI.out hm).mono ?_
 rintro e w3 ⟨v,rfl,ho⟩
 have HO:=hid ho
 clear ho
 go_wp2_with fail
 go_ret
 refine ⟨_,rfl,?_⟩
 obtain ⟨C',X',x1,x2,x3,x4,x5⟩:=HO.out
 exact ⟨C',X',x1,x2,(Kept.of_below HB.out).trans x3,fun x hx=>x4 x (Nat.lt_of_lt_of_le hx HB.out.size),x5.mono HB.out.size⟩
theorem WOutF.mono {v:Value} {L:List F9} (h:WOutF w0 w w' C X zs V m v L) (hm:m≤m'):WOutF w0 w w' C X zs V m' v L:=by
 obtain ⟨C',X',x1,x2,x3,x4,x5⟩:=h
 exact ⟨C',X',x1.mono hm,x2,x3,x4,x5⟩
theorem arrive_any (f d k a ph pr pa:Nat) (y:Bool) (F:F9) (hF:F=frN f i d k a y ph pr pa) (h:WD w0 w C X zs V m) (hE:Held9 w0 A) (hi:i<zs.length) (hu:(V.nd i).l≠-2) (hf:FI zs.length F) (hm:m<1000000) :
  Calls Tryz.prog 116 #[.pointer (some ⟨X.xb,0,none⟩),frV (f:Int) (i:Int) (d:Int) (k:Int) (a:Int) y (ph:Int) (pr:Int) (pa:Int)] w fun e w'=>∃ v,e=.returned v∧WOutF w0 w w' C X zs (arriveX zs V F) (m+2) v (arriveO zs V F):=by
 subst hF
 have hd:d<6:=by have:(0:Int)≤d∧(d:Int)≤5:=hf.ok.2.2.1; omega
 by_cases hk:k=2 ∨ k=4 ∨ k=6
 ·have e1:arriveX zs V (frN f i d k a y ph pr pa)=leadX zs V i d (frN f i d k a y ph pr pa):=by
   unfold arriveX isAns
   rw [if_pos (by show decide ((k:Int)=2 ∨ (k:Int)=4 ∨ (k:Int)=6)=true; exact decide_eq_true (by omega))]
   rfl
  have e2:arriveO zs V (frN f i d k a y ph pr pa)=leadO zs V i d (frN f i d k a y ph pr pa):=by
   unfold arriveO isAns
   rw [if_pos (by show decide ((k:Int)=2 ∨ (k:Int)=4 ∨ (k:Int)=6)=true; exact decide_eq_true (by omega))]
   rfl
  rw [e1,e2]
  cases hl:(V.nd i).ld d with
  | none =>
   have e3:leadX zs V i d (frN f i d k a y ph pr pa)=V:=by unfold leadX; rw [hl]
   have e4:leadO zs V i d (frN f i d k a y ph pr pa)=[]:=by unfold leadO; rw [hl]
   rw [e3,e4]
   have hk':((k:Int) == 2)=true ∨ (((k:Int) == 2)=false∧((k:Int) == 4)=true) ∨ (((k:Int) == 2)=false∧((k:Int) == 4)=false∧((k:Int) == 6)=true):=by rcases hk with rfl|rfl|rfl <;> decide
   refine (arrive_none f d k a ph pr pa y hl h hE hi hf hk' hd).mono ?_
   rintro e w1 ⟨v,h1,h2⟩
   exact ⟨v,h1,h2.mono (Nat.le_succ _)⟩
  | some x =>
   have hk':((k:Int) == 2)=true ∨ (((k:Int) == 2)=false∧((k:Int) == 4)=true) ∨ (((k:Int) == 2)=false∧((k:Int) == 4)=false∧((k:Int) == 6)=true):=by rcases hk with rfl|rfl|rfl <;> decide
   refine (arrive_some f d k a ph pr pa y x hl h hE hi hf hk' hd).mono ?_
   rintro e w1 ⟨v,h1,h2⟩
   exact ⟨v,h1,h2.mono (Nat.le_succ _)⟩
 ·have e1:arriveX zs V (frN f i d k a y ph pr pa)=hearX V i (frN f i d k a y ph pr pa):=by
   unfold arriveX isAns
   rw [if_neg (by show ¬ decide ((k:Int)=2 ∨ (k:Int)=4 ∨ (k:Int)=6)=true; rw [decide_eq_true_iff]; omega)]
   rfl
  have e2:arriveO zs V (frN f i d k a y ph pr pa)=ansN i (V.nd i) (frN f i d k a y ph pr pa):=by
   unfold arriveO isAns
   rw [if_neg (by show ¬ decide ((k:Int)=2 ∨ (k:Int)=4 ∨ (k:Int)=6)=true; rw [decide_eq_true_iff]; omega)]
   rfl
  rw [e1,e2]
  exact arrive_hear f d k a ph pr pa y h hE hi hf ⟨beq_eq_false_iff_ne.2 (by omega),beq_eq_false_iff_ne.2 (by omega),beq_eq_false_iff_ne.2 (by omega)⟩ hd hu hm
theorem arriveO_fi {F:F9} (h:XI zs V m) (hu:(V.nd F.t.toNat).l≠-2) (hf:FI zs.length F) (hm:m<1000000):(∀ x,x∈arriveO zs V F→FI zs.length x)∧(arriveO zs V F).length≤7:=by
 have ht:F.t.toNat<zs.length:=by have:=hf.t0; have:=hf.t1; omega
 have hd:F.d.toNat<6:=by have:=hf.ok.2.2.1; omega
 have n7:=(errW_zero h.he).2.1
 unfold arriveO
 split
 ·unfold leadO
  cases hl:(V.nd F.t.toNat).ld F.d.toNat with
  | none=>exact ⟨fun x hx=>(by cases hx),Nat.zero_le _⟩
  | some x=>exact ⟨outL_fi ht n7 hd ((h.nd _ ht).ld _ x hl).2.1,Nat.le_trans (outL_le _ _ _ _ _) n7⟩
 ·exact ⟨ansN_fi (h.nd _ ht) hu hf (by omega) (by have:=hf.t0; omega),Nat.le_trans ansN_len (by decide)⟩
end
section
variable {w0 w w':World} {C:Nat→Nat} {K:NB} {X:XB} {i m m':Nat} {zs:List Int} {N:PN} {V V':PX} {A:Nat→Addr}
theorem XI.take {k:Nat} (h:XI zs V m):XI zs (takeX V k) m :=
 ⟨h.he,h.nd,fun f hf=>h.fr f (List.mem_of_mem_eraseIdx hf),Nat.le_trans (List.length_eraseIdx_le _ _) h.fl,h.ev⟩
theorem WD.flyForm (h:WD w0 w C X zs V m) (hn:0<V.fly.length):∃ g o cap,∃ cur:Array Value,X.fv=.slice (some ⟨g,o,none⟩) V.fly.length cap∧w0.heap.size≤g∧w.heap[g]? = some (.cells cur 125 (0,0))∧V.fly.length≤cap∧cap≤maxLen∧o+cap * 9≤cur.size∧∀ j,j<V.fly.length * 9→cur[o+j]? = (frCells V.fly)[j]?:=by
 rcases h.fly with ⟨-,h0⟩|⟨g,o,cap,cur,h1,h2,h3,h4,h5,h6,h7⟩
 ·rw [h0] at hn; simp at hn
 ·exact ⟨g,o,cap,cur,h1,h2,h3,h4,h5,h6,h7⟩
theorem WD.taken {k g o o1 cap cap1:Nat} (h:WD w0 w C X zs V m) (hv:X.fv=.slice (some ⟨g,o,none⟩) V.fly.length cap) (hown:OwnF w' w0.heap.size (.slice (some ⟨g,o1,none⟩) (V.fly.length - 1) cap1) (V.fly.eraseIdx k)) (hkk:Kept (In1 g) w w') :
  WOut w0 w (w'.setCell ⟨X.xb,3,none⟩ (.slice (some ⟨g,o1,none⟩) (V.fly.length - 1) cap1)) C X zs (takeX V k) m:=by
 have cg:C g=1005:=h.cf g (by rw [hv]; rfl)
 have hcx:=h.cx
 have hgx:g≠X.xb:=fun e=>by rw [e] at cg; omega
 have hrow:w'.heap[X.xb]? = some (.cells (wdC X zs.length).toArray 148 (0,0)):=hkk.row h.row (fun e=>hgx (show X.xb=g from e).symm)
 have hS:∀ x,(x=X.xb ∨ x=g)→C x=1001 ∨ C x=1005 ∨ C x=1006:=fun x hx=>by
  rcases hx with rfl|rfl
  ·exact .inl h.cx
  ·exact .inr (.inl cg)
 have hK2:Kept (fun x=>x=X.xb ∨ x=g) w (w'.setCell ⟨X.xb,3,none⟩ (.slice (some ⟨g,o1,none⟩) (V.fly.length - 1) cap1)):=(hkk.mono (fun x hx=>.inr hx)).setCell (.inl rfl) _
 refine ⟨C,{ X with fv:=.slice (some ⟨g,o1,none⟩) (V.fly.length - 1) cap1 },?_,rfl,hK2.mono (fun x hx=>by show C x<2000; rcases hS x hx with q|q|q <;> omega),fun _ _=>rfl⟩
 refine h.own (ev:=X.ev) (E:=V.evs) (F:=V.fly.eraseIdx k) hK2 hS (fun _ _=>rfl) (fun x hx hc=>by have:=h.lt x hc; omega) ?_ ?_ ?_ ?_ h.ce (Nat.le_refl _) h.inv.take
 ·rw [heap_setCell_same w' X.xb 3 _ _ _ hrow]; rfl
 ·exact hown.kept ((Kept.refl (In1 X.xb) w').set1 3 _) (fun y hy e=>by
   have:g=y:=Option.some.inj hy
   rw [← this] at e
   exact hgx e)
 ·exact own_kept h.evs hK2 (fun y hy e=>by
   have h6:=h.ce y hy
   rcases e with rfl|rfl
   ·omega
   ·omega)
 ·intro y hy
  have:g=y:=Option.some.inj hy
  rw [← this]; exact cg
theorem fly_cells {g o k:Nat} {cur:Array Value} {L:List F9} (hg:w.heap[g]? = some (.cells cur 125 (0,0))) (ht:∀ j,j<L.length * 9→cur[o+j]? = (frCells L)[j]?) (hk:k<L.length):∀ j,j<9→w.cell? ⟨g,o+k * 9+j,none⟩=(f9L (L[k]'hk))[j]?:=by
 intro j hj
 rw [cell_of_row _ _ _ _ _ _ hg,← frCells_get L k j hk hj,← ht _ (by omega),Nat.add_assoc]
theorem OwnF.moved {base g o o1 k cap:Nat} {cur:Array Value} {L:List F9} (hb:base≤g) (hg:w.heap[g]? = some (.cells cur 125 (0,0))) (hk:k<L.length) (hle:L.length≤cap) (hcap:cap≤maxLen) (hsz:o+cap * 9≤cur.size) (hc:∀ j,j<L.length * 9→cur[o+j]? = (frCells L)[j]?) (ho:o1=if cap=1 then o else o+9) :
  OwnF (w.setCells g o1 (frCells (L.take k))) base (.slice (some ⟨g,o1,none⟩) (L.length - 1) (cap - 1)) (L.eraseIdx k)∧(frCells (L.take k)).length=k * 9∧o1+k * 9≤cur.size:=by
 have hl:(frCells (L.take k)).length=k * 9:=by rw [frCells_length,List.length_take,Nat.min_eq_left (Nat.le_of_lt hk)]
 have hel:(L.eraseIdx k).length=L.length - 1:=List.length_eraseIdx_of_lt hk
 have hfit:o1+k * 9≤cur.size:=by
  rw [ho]; split <;> omega
 refine ⟨?_,hl,hfit⟩
 have hr:=row_setCells (frCells (L.take k)) o1 w cur hg (by rw [hl]; exact hfit)
 refine .inr ⟨g,o1,cap - 1,_,by rw [hel],hb,hr,by rw [hel]; omega,by omega,?_,fun j hj=>?_⟩
 ·rw [List.size_toArray,List.length_append,List.length_append,List.length_take,List.length_drop,Array.length_toList (xs:=cur),hl,ho]
  split <;> omega
 ·rw [hel] at hj
  have ho9:o1=o+9:=by rw [ho,if_neg (by omega)]
  rw [List.getElem?_toArray,get_spliced _ _ _ _ (by rw [Array.length_toList (xs:=cur),hl]; exact hfit),if_neg (by omega),hl,List.eraseIdx_eq_take_drop_succ,frCells_append]
  by_cases h1:j<k * 9
  ·rw [if_pos (by omega),List.getElem?_append_left (by rw [hl]; exact h1)]
   congr 1
   omega
  ·rw [if_neg (by omega),List.getElem?_append_right (by rw [hl]; omega),hl,Array.getElem?_toList,ho9,Nat.add_assoc,hc _ (by omega),frCells_drop,List.getElem?_drop]
   congr 1
   omega
theorem WD.far {S:Nat→Prop} (h:WD w0 w C X zs V m) (k:Kept S w w') (hS:∀ x,S x→2000≤C x) (hb:∀ x,S x→w0.heap.size≤x):WD w0 w' C X zs V m:=by
 obtain ⟨D,hD,hh⟩:=h.brk
 have n7:=h.n7
 have e1:=h.cx; have e2:=h.cw; have e3:=h.cn; have e4:=h.cm
 have no:∀ x,C x<2000→¬ S x:=fun x hx hs=>by have:=hS x hs; omega
 exact ⟨k.below h.bel.size hb h.bel,k.row h.row (no _ (by omega)),fun i hi=>cell_kept (h.ws i hi) k (no _ (by show C X.wb<2000; omega)),fun i hi=>cell_kept (h.ns i hi) k (no _ (by show C X.nb<2000; omega)),fun i hi=>(h.nds i hi).kept k (fun x _ hx=>no x (by omega)) hb,
  ⟨D,ownsMap_kept hD k (no _ (by omega)),hh⟩,h.fly.kept k (fun g hg=>no g (by have:=h.cf g hg; omega)),own_kept h.evs k (fun g hg=>no g (by have:=h.ce g hg; omega)),h.cx,h.cw,h.cn,h.cm,h.cf,h.ce,fun x hx=>Nat.lt_of_lt_of_le (h.lt x hx) k.size,h.low,h.inv⟩
theorem take_end {W4 Y:World} {C':Nat→Nat} {X':XB} {h:Nat} (g1:WD w0 W4 C' X' zs V' m) (g2:key X'=key X) (g3:Kept (OwnX C) w W4) (g4:∀ x,x<w.heap.size→C' x=C x) (hk:Kept (In1 h) W4 Y) (hl:w.heap.size≤h) (hn:2000≤C' h) (h0:w0.heap.size≤h):WOut w0 w Y C X zs V' m :=
 ⟨C',X',g1.far hk (fun x hx=>by rw [show x=h from hx]; exact hn) (fun x hx=>by rw [show x=h from hx]; exact h0),g2,⟨hk.os.trans g3.os,hk.tape.trans g3.tape,hk.output.trans g3.output,Nat.le_trans g3.size hk.size,fun y hy hs=>(hk.block y (Nat.lt_of_lt_of_le hy g3.size) (fun e=>by have:y=h:=e; omega)).trans (g3.block y hy hs)⟩,g4⟩
theorem take_ok (k:Nat) (F:F9) (h:WD w0 w C X zs V m) (hk:k<V.fly.length) (hF:V.fly[k]'hk=F) (hm:m≤100000000) :
  Calls Tryz.prog 114 #[.pointer (some ⟨X.xb,0,none⟩),.int .i64 (k:Int)] w fun e w'=>e=.returned (frV F.f F.t F.d F.k F.a F.y F.ph F.pr F.pa)∧WOut w0 w w' C X zs (takeX V k) m:=by
 obtain ⟨g,o,cap,cur,hv,h2,h3,h4,h5,h6,h7⟩:=h.flyForm (by omega)
 have hcl:=fly_cells h3 h7 hk
 rw [hF] at hcl
 obtain ⟨ff,ft,fd,fk,fa,fy,fh,fp,fq⟩:=F
 obtain ⟨W1,HW1⟩:∃ W1,Hid (w.alloc (.cells #[.int .i64 0,.int .i64 0,.int .i64 0,.int .i64 0,.int .i64 0,.bool false,.int .i64 0,.int .i64 0,.int .i64 0] 125)=W1):=⟨_,rfl⟩
 have HB1:Hid (Below w.heap.size w W1):=by rw [← HW1.out]; exact (Below.refl _ _).alloc (Nat.le_refl _) _
 have HR1:Hid (W1.heap[w.heap.size]? = some (.cells #[.int .i64 0,.int .i64 0,.int .i64 0,.int .i64 0,.int .i64 0,.bool false,.int .i64 0,.int .i64 0,.int .i64 0] 125 (0,0))):=by rw [← HW1.out]; exact heap_alloc_new w _
 have hs1:W1.heap.size=w.heap.size+1:=by rw [← HW1.out]; simp
 obtain ⟨W2,HW2⟩:∃ W2,Hid (W1.alloc (.cells #[.int .i64 ff,.int .i64 ft,.int .i64 fd,.int .i64 fk,.int .i64 fa,.bool fy,.int .i64 fh,.int .i64 fp,.int .i64 fq] 125)=W2):=⟨_,rfl⟩
 have HB2:Hid (Below w.heap.size w W2):=by rw [← HW2.out]; exact HB1.out.alloc HB1.out.size _
 have HR2:Hid (W2.heap[w.heap.size]? = some (.cells #[.int .i64 0,.int .i64 0,.int .i64 0,.int .i64 0,.int .i64 0,.bool false,.int .i64 0,.int .i64 0,.int .i64 0] 125 (0,0))):=by rw [← HW2.out]; exact (Below.heap_alloc W1 _ _ (row_ltJ HR1.out)).trans HR1.out
 have HR3:Hid (W2.heap[w.heap.size+1]? = some (.cells #[.int .i64 ff,.int .i64 ft,.int .i64 fd,.int .i64 fk,.int .i64 fa,.bool fy,.int .i64 fh,.int .i64 fp,.int .i64 fq] 125 (0,0))):=by rw [← HW2.out,← hs1]; exact heap_alloc_new W1 _
 have hlg:=row_ltJ h3
 have hlx:=row_ltJ h.row
 have H:=hid h
 have HWD:=hid (h.later HB2.out)
 have hg2:W2.heap[g]? = some (.cells cur 125 (0,0)):=(HB2.out.block _ hlg).trans h3
 obtain ⟨o1,ho1⟩:∃ o1,o1=if cap=1 then o else o+9:=⟨_,rfl⟩
 obtain ⟨q1,q2,q3⟩:=OwnF.moved (w:=W2.drew) h2 hg2 hk h4 h5 h6 h7 ho1
 obtain ⟨W3,HW3⟩:∃ W3,Hid (W2.drew.setCells g o1 (frCells (V.fly.take k))=W3):=⟨_,rfl⟩
 have hcp:∀ ty dc sc,(Builtin.copy_ #[55,55] ty #[.slice (some ⟨g,o1,none⟩) k dc,.slice (some ⟨g,o,none⟩) k sc]).run Tryz.prog W2.drew=.ok (goInt (k:Int)) W3:=fun ty dc sc=>by
  rw [← HW3.out]
  exact run_copy_frs W2.drew 55 ty g o1 k dc ⟨g,o,none⟩ k sc k (frCells (V.fly.take k)) (by simp only [Nat.min_def]; split <;> omega) q2
   (fun j v hj=>by
    have hjl:=(List.getElem?_eq_some_iff.1 hj).1
    rw [q2] at hjl
    rw [addr_add]
    show W2.cell? ⟨g,o+j,none⟩=some v
    rw [cell_of_row _ _ _ _ _ _ hg2,h7 _ (by omega),← hj,frCells_take,List.getElem?_take_of_lt hjl])
   (fun j hj=>by rw [q2] at hj; show (W2.cell? _).isSome=true; rw [cell_of_row _ _ _ _ _ _ hg2,Array.getElem?_eq_getElem (by omega)]; rfl) (fun j _=>frozen_of_row W2 _ _ _ _ hg2) (frCells_one _)
 rw [HW3.out] at q1
 have HK3:Hid (Kept (In1 g) W2 W3):=by rw [← HW3.out]; exact (Kept.refl _ W2).drew.trans (kept_setCells g _ _ _)
 have cg:C g=1005:=h.cf g (by rw [hv]; rfl)
 have hcx:=h.cx
 have hgx:g≠X.xb:=fun e=>by rw [e] at cg; omega
 have HT:=hid (HWD.out.taken hv q1 HK3.out)
 obtain ⟨n,hn⟩:∃ n,Hid (V.fly.length=n):=⟨_,rfl⟩
 have hbig:V.fly.length≤1000000000000:=by have:=h.inv.fl; omega
 have hrow3:=HK3.out.row HWD.out.row (fun e=>hgx (show X.xb=g from e).symm)
 have c3:=(h.cells).2.2.2.1
 rw [hv] at c3
 have c3W1:=cell_later HB1.out c3
 have c3W2:=cell_later HB2.out c3
 have c3W3:W3.cell? ⟨X.xb,3,none⟩=some (.slice (some ⟨g,o,none⟩) V.fly.length cap):=by rw [cell_of_row _ _ _ _ _ _ hrow3,← hv]; rfl
 have z3W3:W3.frozen? ⟨X.xb,3,none⟩=false:=frozen_of_row _ _ _ _ _ hrow3
 rw [hn.out] at HT c3 c3W1 c3W2 c3W3 hk hbig h4
 obtain ⟨W4,HW4⟩:∃ W4,Hid (W3.setCell ⟨X.xb,3,none⟩ (.slice (some ⟨g,o1,none⟩) (n - 1) (cap - 1))=W4):=⟨_,rfl⟩
 rw [HW4.out] at HT
 have HK4:Hid (Kept (fun x=>x=X.xb ∨ x=g) W2 W4):=by rw [← HW4.out]; exact (HK3.out.mono (fun x hx=>.inr hx)).setCell (.inl rfl) _
 have HR4:=hid (HK4.out.row HR2.out (fun e=>by rcases e with e|e <;> omega))
 have HR5:=hid (HK4.out.row HR3.out (fun e=>by rcases e with e|e <;> omega))
 obtain ⟨Y,HY,HYR,HYK⟩:=stored9 HR4.out ff ft fd fk fa fy fh fp fq
 obtain ⟨z0,z1,z2,z3,z4,z5,z6,z7,z8⟩:=nine (f:=0) (t:=0) (d:=0) (k:=0) (a:=0) (y:=false) (ph:=0) (pr:=0) (pa:=0) HR4.out
 obtain ⟨f0,f1,f2,f3,f4,f5,f6,f7,f8⟩:=frozen9 HR4.out
 obtain ⟨e0,e1,e2,e3,e4,e5,e6,e7,e8⟩:=nine HR5.out
 have HN:Hid (2000≤C w.heap.size):=by
  rcases Nat.lt_or_ge (C w.heap.size) 2000 with q|q
  ·have:=h.lt _ q; omega
  ·exact q
 obtain ⟨b0,b1,b2,b3,b4,b5,b6,b7,b8⟩:=nineO (o:=o+k * 9) hcl
 simp only at b0 b1 b2 b3 b4 b5 b6 b7 b8
 have y0:=cell_later HB1.out b0
 have y1:=cell_later HB1.out b1
 have y2:=cell_later HB1.out b2
 have y3:=cell_later HB1.out b3
 have y4:=cell_later HB1.out b4
 have y5:=cell_later HB1.out b5
 have y6:=cell_later HB1.out b6
 have y7:=cell_later HB1.out b7
 have y8:=cell_later HB1.out b8
 have hW1:=HW1.out
 have hW2:=HW2.out
 have hW3:=HW3.out
 have hW4:=HW4.out
 have HO1:=hid ho1
 clear h hv h2 h3 h5 h6 h7 cg hcl hF hg2 q1 q2 q3 ho1 hrow3 b0 b1 b2 b3 b4 b5 b6 b7 b8 hW3
 have hA1:(if cap=1 then some (⟨g,o,none⟩:Addr) else some ⟨g,o+9,none⟩)=some ⟨g,o1,none⟩:=by rw [HO1.out]; split <;> rfl
 have hw1:IntKind.i64.wrap ((k:Int)+1)=(k:Int)+1:=by rw [IntKind.wrap_i64]; omega
 have hb1:(0:Int)≤(k:Int)+1:=by omega
 have hb2:(k:Int)+1≤(cap:Int):=by omega
 have hb3:(1:Int)≤max ((k:Int)+1) 0:=by omega
 have hb4:((k:Int)+1).toNat - 1=k:=by omega
 have hb5:(k:Int)≤(cap:Int):=by omega
 have hb6:(1:Int)≤(n:Int):=by omega
 have hb7:1≤n:=by omega
 have hb8:(1:Int)≤(k:Int)+1:=by omega
 go_enter Tryz.func114,Tryz.ntmps114
 go_wp2_with fail
 go_region_law (refine step_copy_runF rfl _ _ 55 55 rfl _ _ (by simp [Act.eval,Act.put]) (by simp [Act.eval,Act.put]) (hcp _ _ _) ?_)
 all_goals go_wp2_with fail
 all_goals rw [HY.out]
 all_goals refine bodyPost_ret (results_cell_row rfl _ _ w.heap.size 125 _ (0,0) _ rfl (HYR.out) Tryz.underlying125 rfl (by kernel_rfl)) rfl ?_
 all_goals refine ⟨rfl,?_⟩
 all_goals obtain ⟨C',X',g1,g2,g3,g4⟩:=HT.out
 all_goals exact take_end g1 g2 ((Kept.of_below HB2.out).trans g3) (fun x hx=>g4 x (Nat.lt_of_lt_of_le hx HB2.out.size)) HYK.out (Nat.le_refl _) (by rw [g4 _ (row_ltJ HR2.out)]; exact HN.out) H.out.bel.size
theorem drop_no (s:Int) (h:WD w0 w C X zs V m) (hE:Held9 w0 A) (hs:¬ (0≤s∧s<V.fly.length)) :
  Calls Tryz.prog 47 #[.pointer (some ⟨X.xb,0,none⟩),.int .i64 s] w fun e w'=>e=.returned (ev A 4)∧w'=w:=by
 have H:=hid h
 have HB:=hid (decide_eq_false hs)
 have g3:=(h.held hE).var 3 (by decide)
 have g3':w.cell? ⟨3,0,none⟩=some (.iface 318 (.pointer (some (A 3)))):=g3
 clear h hE hs g3
 go_enter Tryz.func47,Tryz.ntmps47
 go_wp2_with fail
 refine (flies_is s false H.out HB.out).mono ?_
 rintro e w1 ⟨rfl,hx⟩
 subst w1
 go_wp2_with fail
 go_ret
 exact ⟨rfl,rfl⟩
theorem drop_ok (k:Nat) (h:WD w0 w C X zs V m) (hk:k<V.fly.length) (hm:m≤100000000) :
  Calls Tryz.prog 47 #[.pointer (some ⟨X.xb,0,none⟩),.int .i64 (k:Int)] w fun e w'=>e=.returned .nilIface∧WOut w0 w w' C X zs (takeX V k) m:=by
 have H:=hid h
 have HB:Hid (decide (0≤(k:Int)∧(k:Int)<V.fly.length)=true):=decide_eq_true (by omega)
 have HT:=hid (take_ok k _ h hk rfl hm)
 clear h
 go_enter Tryz.func47,Tryz.ntmps47
 go_wp2_with fail
 refine (flies_is (k:Int) true H.out HB.out).mono ?_
 rintro e w1 ⟨rfl,hx⟩
 subst w1
 go_wp2_with fail
 refine HT.out.mono ?_
 rintro e w1 ⟨rfl,hw1⟩
 have HO:=hid hw1
 clear hw1
 go_wp2_with fail
 go_ret
 exact ⟨rfl,HO.out⟩
end
theorem own_base {w:World} {b b':Nat} {e:TypeId} {size n:Nat} {v:Value} {xs:List Value} (h:w.ownsRow b e size v n xs) (hb:b'≤b):w.ownsRow b' e size v n xs:=by
 refine ⟨h.1,?_⟩
 rcases h.2 with hn|⟨g,cap,cur,rfl,hb',rest⟩
 ·exact .inl hn
 ·exact .inr ⟨g,cap,cur,rfl,Nat.le_trans hb hb',rest⟩
theorem OwnF.base {w:World} {b b':Nat} {v:Value} {L:List F9} (h:OwnF w b v L) (hb:b'≤b):OwnF w b' v L:=by
 rcases h with h|⟨g,o,cap,cur,rfl,hb',rest⟩
 ·exact .inl h
 ·exact .inr ⟨g,o,cap,cur,rfl,Nat.le_trans hb hb',rest⟩
section
variable {w0 w1 w w':World} {C C' Ca Cb:Nat→Nat} {X Xa Xb:XB} {m ma mb:Nat} {zs:List Int} {V Va Vb:PX}
theorem WD.rebase (h:WD w1 w C X zs V m) (hb:Below w0.heap.size w0 w) (hs:w0.heap.size≤w1.heap.size):WD w0 w C X zs V m:=by
 refine ⟨hb,h.row,h.ws,h.ns,fun i hi=>?_,h.brk,h.fly.base hs,own_base h.evs hs,h.cx,h.cw,h.cn,h.cm,h.cf,h.ce,h.lt,fun x hx=>Nat.le_trans hs (h.low x hx),h.inv⟩
 have n:=h.nds i hi
 have p:=n.sp
 have j:=p.jp
 exact ⟨n.row,⟨⟨hb,j.jr,j.pl,j.jp,j.jq,Nat.le_trans hs j.j0,Nat.le_trans hs j.p0,Nat.le_trans hs j.q0,j.l0,j.l1,j.sz,j.s6⟩,p.sr,p.ns,p.nm,p.sm,Nat.le_trans hs p.s0,Nat.le_trans hs p.m0⟩,n.lds,n.cn,n.cs,n.cj,n.cm,n.cp,n.cq,n.cl,Nat.le_trans hs n.n0⟩
end
end Go.Proofs.YtaehdgemkafinaaGreatDoor
