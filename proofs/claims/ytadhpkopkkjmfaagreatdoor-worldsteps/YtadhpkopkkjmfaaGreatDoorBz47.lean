/-
  On the way to WStepsProof, WCommitsProof, WAgreesProof, WEndsProof, WWaitsProof, JTampersProof, PAgreesProof, PAgainProof: VU VW VX.
-/
import Derived.Test.YtadhpkopkkjmfaaGreatDoorBz44
import Derived.Test.YtadhpkopkkjmfaaGreatDoorBz43
set_option maxHeartbeats 8000000
set_option maxRecDepth 100000
namespace Go.Proofs.YtadhpkopkkjmfaaGreatDoor
open Go.RowKit
theorem step_append_fr1 {w:World} {ops:Array Oper} {o:Oper} {a:Act} {K:Act→World→Prop} {Q:Exit→Act→World→Prop} {E:Prop} (hgd:o.guard=none) (s x:Operand)
  (ho:o.op=.call { callee:=.builtin .append,args:=#[s,x],argTypes:=#[34,34] })
  (base n:Nat) (v:Value) (xs:List Value) (ad:Addr) (c:Nat) (F:F9) (hs:a.eval s=v) (hx:a.eval x=.slice (some ad) 1 c) (hown:w.ownsRow base 104 9 v n xs) (hu:∀ j u,(f9L F)[j]? = some u→w.cell? (ad.add j)=some u) (hn:n≤1000000000000) (hb:base≤w.heap.size)
  (h:∀ ad' cap' w',w'.ownsRow base 104 9 (.slice ad' (n+1) cap') (n+1) (xs ++ f9L F)→w.grownBy w' v.ownBlock→((Value.slice ad' (n+1) cap').ownBlock=v.ownBlock ∨ (Value.slice ad' (n+1) cap').ownBlock=some w.heap.size)→K (a.put o.dst (.slice ad' (n+1) cap')) w') :
  if Region.wanted o (yielded ops a.tmps)=true then Oper.wp Tryz.prog o a w K Q else E:=by
 have hw:Region.wanted o (yielded ops a.tmps)=true:=by simp [Region.wanted,hgd]
 rw [if_pos hw]
 obtain ⟨i0,hi0,hz0,hz1,hz2⟩:=info_parts Tryz.infoFq
 obtain ⟨v',w',hr,h2,h3,-,h5⟩:=run_append_own_at (P:=Tryz.prog) w base 34 o.type 104 i0 _ 9 72 Tryz.underlying34 hi0 hz0 hz1 hz2 rfl (by decide) v n xs hown ad 1 c (f9L F) rfl hu (f9_oneQ F) (by unfold maxLen; omega) (by omega) hb
 obtain ⟨ad',cap',rfl⟩:∃ ad' cap',v'=.slice ad' (n+1) cap':=by
  rcases h2.2 with ⟨e,h0⟩|⟨g,cap,cur,e,-⟩
  ·omega
  ·exact ⟨_,_,e⟩
 unfold Oper.wp execOp
 simp only [ho,resolve,invoke,builtin,Sem.run_bind,Sem.run_pure,Result.andThen_ok,List.map_toArray,List.map_cons,List.map_nil,hs,hx,hr]
 exact h ad' cap' w' h2 h3 h5
theorem step_append_fr1F {w:World} {ops:Array Oper} {o:Oper} {a:Act} {K:Act→World→Prop} {Q:Exit→Act→World→Prop} {E:Prop} (hgd:o.guard=none) (s x:Operand)
  (ho:o.op=.call { callee:=.builtin .append,args:=#[s,x],argTypes:=#[34,34] })
  (base n:Nat) (v:Value) (M:List F9) (b off c:Nat) (F:F9) (hM:M.length=n) (hs:a.eval s=v) (hx:a.eval x=.slice (some ⟨b,off,none⟩) 1 c) (hown:OwnF w base v M) (hu:∀ j u,(f9L F)[j]? = some u→w.cell? ((⟨b,off,none⟩:Addr).add j)=some u) (hn:n<1000000000000) (hb:base≤w.heap.size)
  (h:∀ ad' cap' w',OwnF w' base (.slice ad' (n+1) cap') (M ++ [F])→w.grownBy w' v.ownBlock→((Value.slice ad' (n+1) cap').ownBlock=v.ownBlock ∨ (Value.slice ad' (n+1) cap').ownBlock=some w.heap.size)→K (a.put o.dst (.slice ad' (n+1) cap')) w') :
  if Region.wanted o (yielded ops a.tmps)=true then Oper.wp Tryz.prog o a w K Q else E:=by
 have hw:Region.wanted o (yielded ops a.tmps)=true:=by simp [Region.wanted,hgd]
 rw [if_pos hw]
 have hfr:IsFr w (.slice (some ⟨b,off,none⟩) 1 c) [F]:=by
  refine ⟨_,c,rfl,fun i hi=>⟨b,off,rfl,fun j hj=>?_⟩⟩
  obtain rfl:i=0:=by simpa using hi
  have h9:(f9L F)[j]? = some ((f9L F)[j]'(by rw [f9L_length]; exact hj)):=List.getElem?_eq_getElem _
  have:=hu j _ h9
  rw [addr_add] at this
  rw [Nat.zero_mul,Nat.add_zero,this,← h9]
  rfl
 obtain ⟨v',w',hr,h2,h3,h5⟩:=run_append_frsF w o.type base v _ M [F] hown hfr (by show M.length+1≤_; omega) hb
 obtain ⟨ad',cap',rfl⟩:∃ ad' cap',v'=.slice ad' (n+1) cap':=by
  obtain ⟨ad',cap',e⟩:=h2.form
  exact ⟨ad',cap',by rw [e,List.length_append,hM]; rfl⟩
 unfold Oper.wp execOp
 simp only [ho,resolve,invoke,builtin,Sem.run_bind,Sem.run_pure,Result.andThen_ok,List.map_toArray,List.map_cons,List.map_nil,hs,hx,hr]
 exact h ad' cap' w' h2 h3 h5
section
variable {w0 w w':World} {C C':Nat→Nat} {K:NB} {X:XB} {i m m':Nat} {zs:List Int} {N:PN} {V V':PX} {A:Nat→Addr}
theorem sendX_nil:sendX V []=V:=by unfold sendX; rw [List.append_nil]
theorem sendX_app (L M:List F9):sendX (sendX V L) M=sendX V (L ++ M):=by unfold sendX; simp only [List.append_assoc]
theorem tell_step {W wr W2 w':World} {C1:Nat→Nat} {X1:XB} {s d ph pr k:Nat} {F:F9} {v':Value} (g1:WD w0 wr C1 X1 zs (sendX V (toL s d 7 pr ph k)) (m+k)) (g2:key X1=key X) (g3:Kept (OwnX C) W wr) (g4:∀ x,x<W.heap.size→C1 x=C x) (hb:Below wr.heap.size wr W2)
  (ho:OwnF w' w0.heap.size v' ((sendX V (toL s d 7 pr ph k)).fly ++ [F])) (hg:W2.grownBy w' X1.fv.ownBlock) (hw:v'.ownBlock=X1.fv.ownBlock ∨ v'.ownBlock=some W2.heap.size) (hs:s<zs.length) (hk:k<zs.length) (hn:zs.length≤7) (hd:d<6) (hp:ph≤5) (hr:pr≤1048576) (hF:F=⟨s,k,d,7,pr,false,ph,0,0⟩) :
  WOut w0 W (w'.setCell ⟨X.xb,3,none⟩ v') C X zs (sendX V (toL s d 7 pr ph (k+1))) (m+(k+1)):=by
 have hFI:∀ f,f∈[F]→FI zs.length f:=fun f hf=>by
  have hm2:f∈toL s d 7 (pr:Int) (ph:Int) (k+1):=by rw [toL,List.mem_append]; right; rw [← hF]; exact hf
  exact toL_fi hs hn hd (by decide) (by omega) (by omega) (k+1) hk f hm2
 obtain ⟨C2,h1,h2,h3⟩:=(g1.later hb).sent (L:=[F]) ho hg hw hFI (by show 1≤1000; decide)
 rw [key_xb g2] at h1 h2
 have e:sendX (sendX V (toL s d 7 pr ph k)) [F]=sendX V (toL s d 7 pr ph (k+1)):=by rw [sendX_app,hF]; rfl
 rw [e] at h1
 refine WOut.step (C1:=C1) (X1:=X1) g2 g3 g4 ?_
 refine WOut.step (C1:=C1) (X1:=X1) rfl (Kept.of_below hb) (fun _ _=>rfl) ?_
 exact ⟨C2,_,h1,(by unfold key; exact Prod.ext (key_xb g2).symm rfl),h2,h3⟩
theorem tellEnd_any (s d ph pr pa:Nat) (h:WD w0 w C X zs V m) (hs:s<zs.length) (hd:d<6) (hp:ph≤5) (hr:pr≤1048576) (hm:m<1000000) :
  Calls Tryz.prog 111 #[.pointer (some ⟨X.xb,0,none⟩),.int .i64 (s:Int),.int .i64 (d:Int),agS ph pr pa] w fun e w'=>e=.returned (.tuple #[])∧WOut w0 w w' C X zs (sendX V (toL s d 7 pr ph zs.length)) (m+7):=by
 obtain ⟨W,HW⟩:∃ W,Hid (w.alloc (.cells #[.int .i64 (ph:Int),.int .i64 (pr:Int),.int .i64 (pa:Int)] 43)=W):=⟨_,rfl⟩
 have HB:Hid (Below w.heap.size w W):=by rw [← HW.out]; exact (Below.refl _ _).alloc (Nat.le_refl _) _
 have HR:Hid (W.heap[w.heap.size]? = some (.cells #[.int .i64 (ph:Int),.int .i64 (pr:Int),.int .i64 (pa:Int)] 43 (0,0))):=by rw [← HW.out]; exact heap_alloc_new w _
 have H0:=hid h
 have H:=hid (h.later HB.out)
 obtain ⟨-,c1,-,-,-⟩:=H.out.cells
 have n7:=h.n7
 have HNW:Hid (2000≤C w.heap.size):=by
  rcases Nat.lt_or_ge (C w.heap.size) 2000 with q|q
  ·have:=h.lt _ q; omega
  ·exact q
 have HSS:=hid hs
 obtain ⟨n,hn⟩:∃ n,Hid (zs.length=n):=⟨_,rfl⟩
 rw [hn.out] at c1 n7 hs ⊢
 have hW:=HW.out
 clear h
 go_enter Tryz.func111,Tryz.ntmps111
 go_wp2_with fail
 clear c1
 go_loopw [14] (fun v wr=>∃ k:Nat,k≤n∧v=.int .i64 (k:Int)∧WOut w0 W wr C X zs (sendX V (toL s d 7 pr ph k)) (m+k)) (fun v _=>n - (intOf v).toNat)
 case atStart=>exact ⟨0,Nat.zero_le _,rfl,by show WOut w0 W W C X zs (sendX V []) m; rw [sendX_nil]; exact H.out.out (Below.refl _ _) (Nat.le_refl _)⟩
 case round =>
  obtain ⟨k,hk,rfl,C1,X1,g1,g2,g3,g4⟩:=hrel
  have HG:=hid (And.intro g1 (And.intro g2 (And.intro g3 g4)))
  have HRr:=hid (g3.row HR.out (fun e=>by have h1:=HNW.out; have h2:C w.heap.size<2000:=e; omega))
  have b0:wr.cell? ⟨w.heap.size,0,none⟩=some (.int .i64 (ph:Int)):=by rw [cell_of_row _ _ _ _ _ _ HRr.out]; rfl
  have b1:wr.cell? ⟨w.heap.size,1,none⟩=some (.int .i64 (pr:Int)):=by rw [cell_of_row _ _ _ _ _ _ HRr.out]; rfl
  obtain ⟨-,-,-,c3,-⟩:=g1.cells
  obtain ⟨nf,hnf⟩:∃ nf,Hid ((sendX V (toL s d 7 pr ph k)).fly.length=nf):=⟨_,rfl⟩
  obtain ⟨ad,cap,hv⟩:∃ ad cap,Hid (X1.fv=.slice ad nf cap):=by
   rw [← hnf.out]
   exact g1.fly.form
  have hnfb:nf<1000000000000:=by rw [← hnf.out]; have:=g1.inv.fl; omega
  rw [key_xb g2,hv.out] at c3
  have hb0:=g1.bel.size
  by_cases hlt:k<n
  ·obtain ⟨F,HF⟩:∃ F:F9,Hid (F=⟨s,k,d,7,pr,false,ph,0,0⟩):=⟨_,rfl⟩
   obtain ⟨W2,HW2⟩:∃ W2,Hid (wr.drew.alloc (.cells #[.int .i64 (s:Int),.int .i64 (k:Int),.int .i64 (d:Int),.int .i64 7,.int .i64 (pr:Int),.bool false,.int .i64 (ph:Int),.int .i64 0,.int .i64 0] 104)=W2):=⟨_,rfl⟩
   have HB2:Hid (Below wr.heap.size wr W2):=by rw [← HW2.out]; exact (Below.refl _ _).drew.alloc (Nat.le_refl _) _
   have H2:=hid (g1.later HB2.out)
   have HO:Hid (OwnF W2 w0.heap.size (.slice ad nf cap) (sendX V (toL s d 7 pr ph k)).fly):=by have:=H2.out.fly; rw [hv.out] at this; exact this
   have HLit:Hid (∀ j u,(f9L F)[j]? = some u→W2.cell? ((⟨wr.heap.size,0,none⟩:Addr).add j)=some u):=by rw [← HW2.out,HF.out]; exact lit_cellsQ wr.drew 104 (f9L ⟨s,k,d,7,pr,false,ph,0,0⟩)
   have hb2:w0.heap.size≤W2.heap.size:=H2.out.bel.size
   have HX:Hid (∀ w',W2.grownBy w' (Value.slice ad nf cap).ownBlock→w'.cell? ⟨X.xb,3,none⟩=some (.slice ad nf cap)∧w'.frozen? ⟨X.xb,3,none⟩=false):=by
    intro w' hg
    have hr:=(grown_kept hg).row H2.out.row (fun e=>by rw [← hv.out] at e; have h1:=H2.out.cf _ e; have h2:=H2.out.cx; omega)
    rw [key_xb HG.out.2.1] at hr
    exact ⟨by rw [cell_of_row _ _ _ _ _ _ hr,← hv.out]; rfl,frozen_of_row _ _ _ _ _ hr⟩
   have hW2:=HW2.out
   have e3:=cell_later HB2.out c3
   have e0:=cell_later HB2.out b0
   have e1:=cell_later HB2.out b1
   clear g1 g2 g3 g4
   go_wp2_with fail
   go_region_law ((refine step_append_fr1F (by rfl) _ _ (by rfl) w0.heap.size nf (.slice ad nf cap) (sendX V (toL s d 7 pr ph k)).fly wr.heap.size 0 1 F hnf.out (by rfl) (by rfl) (by exact HO.out) (by exact HLit.out) hnfb hb2 ?_; intro ad' cap' w' hown hg ho; obtain ⟨c3',z3'⟩:=HX.out w' hg; have HS:=hid (And.intro hown (And.intro hg ho)); clear hown hg ho))
   all_goals go_wp2_with fail
   all_goals go_roundw
   all_goals first|(simp [intOf]; omega)|skip
   all_goals refine ⟨k+1,by omega,by go_num,?_⟩
   all_goals rw [← hv.out] at HS
   all_goals rw [← hnf.out] at HS ⊢
   all_goals exact tell_step HG.out.1 HG.out.2.1 HG.out.2.2.1 HG.out.2.2.2 HB2.out HS.out.1 HS.out.2.1 HS.out.2.2 HSS.out (by rw [hn.out]; exact hlt) (by rw [hn.out]; exact n7.2) hd hp hr HF.out
  ·obtain rfl:k=n:=by omega
   clear g1 g2 g3 g4
   go_wp2_with fail
   go_end0
   refine ⟨rfl,?_⟩
   exact ⟨C1,X1,HG.out.1.mono (by omega),HG.out.2.1,(Kept.of_below HB.out).trans HG.out.2.2.1,fun x hx=>HG.out.2.2.2 x (Nat.lt_of_lt_of_le hx HB.out.size)⟩
end
section
variable {w0 w w':World} {C C':Nat→Nat} {K:NB} {X:XB} {i m m':Nat} {zs:List Int} {N:PN} {V V':PX} {A:Nat→Addr}
theorem wrap64_inV (n:Int) (h:-9223372036854775808≤n∧n≤9223372036854775807):wrap64 n=n:=by unfold wrap64; omega
theorem seen_is (d p:Nat) (h:ND w0 w C K i zs N m) (hd:d<6) (hp:(stN N d).pr=p) :
  Calls Tryz.prog 148 #[.pointer (some ⟨K.nd,0,none⟩),.int .i64 (d:Int),.int .i64 (p:Int)] w fun e w'=>e=.returned (.int .i64 (aboveN N d))∧w'=w:=by
 have c1:=h.lead hd
 cases hl:N.ld d with
 | none =>
  rw [ldV_none hl] at c1
  have e:aboveN N d=(p:Int):=by unfold aboveN; rw [hl,hp]
  rw [e]
  clear h e hl
  go_enter Tryz.func148,Tryz.ntmps148
  go_wp2_with fail
  go_ret
  exact ⟨rfl,rfl⟩
 | some x =>
  rw [ldV_some hl] at c1
  have e:aboveN N d=max (p:Int) x.2.seen:=by unfold aboveN; rw [hl,hp]
  rw [e]
  have HL:=hid (h.lds d hd x hl)
  clear h e hl
  go_enter Tryz.func148,Tryz.ntmps148
  go_wp2_with fail
  refine (ldSeen_any HL.out).mono ?_
  rintro e w1 ⟨rfl,hx⟩
  subst w1
  go_wp2_with fail
  go_ret
  exact ⟨rfl,rfl⟩
theorem attempt_is (s:Nat) (a:Int) (h:WD w0 w C X zs V m) (hs:s<zs.length) (h0:0≤a) (h1:a≤1048576) :
  Calls Tryz.prog 147 #[.pointer (some ⟨X.xb,0,none⟩),.int .i64 (s:Int),.int .i64 a] w fun e w'=>e=.returned (.int .i64 (attemptX zs.length s a))∧w'=w:=by
 obtain ⟨-,c1,-,-,-⟩:=h.cells
 have n7:=h.n7
 obtain ⟨n,hn⟩:∃ n,zs.length=n:=⟨_,rfl⟩
 rw [hn] at c1 n7 hs ⊢
 clear h hn
 go_enter Tryz.func147,Tryz.ntmps147
 go_wp2_with fail
 go_ret
 refine ⟨?_,rfl⟩
 have hp:(0:Int)<n:=by omega
 have r0:=Int.emod_nonneg (a+1) (show (n:Int)≠0 by omega)
 have r1:=Int.emod_lt_of_pos (a+1) hp
 have e1:wrap64 ((s:Int)+n - (a+1) % n)=(s:Int)+n - (a+1) % n:=wrap64_inV _ (by omega)
 have e2:((s:Int)+n - (a+1) % n).tmod n=((s:Int)+n - (a+1) % n) % n:=Int.tmod_eq_emod_of_nonneg (by omega)
 have q0:=Int.emod_nonneg ((s:Int)+n - (a+1) % n) (show (n:Int)≠0 by omega)
 have q1:=Int.emod_lt_of_pos ((s:Int)+n - (a+1) % n) hp
 have e3:wrap64 (a+1+(wrap64 ((s:Int)+n - (a+1) % n)).tmod n)=attemptX n s a:=by
  rw [e1,e2,wrap64_inV _ (by omega)]
  rfl
 show Ending.returned (Value.int IntKind.i64 (wrap64 (a+1+(wrap64 ((s:Int)+n - (a+1) % n)).tmod n)))=_
 rw [e3]
theorem attemptX_bd (n s:Nat) (a:Int) (hn:0<n):a+1≤attemptX n s a∧attemptX n s a≤a+n:=by
 unfold attemptX
 have hp:(0:Int)<n:=by omega
 have q0:=Int.emod_nonneg ((s:Int)+n - (a+1) % n) (show (n:Int)≠0 by omega)
 have q1:=Int.emod_lt_of_pos ((s:Int)+n - (a+1) % n) hp
 omega
end
theorem ldTry_far (A:Nat→Addr) (v:Value) (zs:List Int) (id:Nat) (deal att:Int) (w:World) (hv:IsSl w v zs) (hE:Held3 w A) (he:errW zs=0) (hid':id<zs.length) (h0:0≤deal) (h1:deal<6) (a1:1048576<att) :
  Calls Tryz.prog 149 #[.int .i64 (id:Int),.int .i64 deal,v,.int .i64 att] w fun e w'=>e=.returned (.tuple #[.pointer none,.iface 276 (.pointer (some (A 1)))])∧Below w.heap.size w w':=by
 have HC:=hid (ldbegin_ok A v zs id deal att w hv hE he hid' h0 h1)
 have g1:w.cell? ⟨3,0,none⟩=some (.iface 276 (.pointer (some (A 1)))):=hE 1 (by omega) (by omega)
 obtain ⟨a,cap0,rfl,-,-,-⟩:=hv
 have g2:¬ att<1:=by omega
 clear hE he
 go_enter Tryz.func149,Tryz.ntmps149
 go_wp2_with fail
 refine HC.out.mono ?_
 rintro e w1 ⟨lb,b,cap,rfl,hl,hb,hg⟩
 have HB:=hid hb
 have g1':=cell_later hb g1
 clear hl hb hg
 go_wp2_with fail
 go_quiet (fail)
 go_wp2
 go_ret2
 exact ⟨rfl,below_drewN HB.out _⟩
section
variable {w0 w w':World} {C C':Nat→Nat} {K:NB} {X:XB} {i m m':Nat} {zs:List Int} {N:PN} {V V':PX} {A:Nat→Addr}
theorem ND.recolor (h:ND w0 w C K i zs N m) (hi:i≤9) (hC:∀ x,C x<2000→C' x=C x):ND w0 w C' K i zs N m:=by
 have e1:=h.cs; have e2:=h.cj; have e3:=h.cm; have e4:=h.cp; have e5:=h.cq; have e6:=h.cn
 refine ⟨h.row,h.sp,h.lds,(hC _ (by omega)).trans e6,(hC _ (by omega)).trans e1,(hC _ (by omega)).trans e2,(hC _ (by omega)).trans e3,(hC _ (by omega)).trans e4,(hC _ (by omega)).trans e5,fun d hd x hx=>?_,h.n0⟩
 have g:=h.cl d hd x hx
 exact ⟨(hC _ (by omega)).trans g.1,(hC _ (by omega)).trans g.2⟩
theorem WD.recolor (h:WD w0 w C X zs V m) (hC:∀ x,C x<2000→C' x=C x) (hl:∀ x,C' x<2000→x<w.heap.size) (hw:∀ x,C' x<2000→w0.heap.size≤x):WD w0 w C' X zs V m:=by
 have n7:=h.n7.2
 have e1:=h.cx; have e2:=h.cw; have e3:=h.cn; have e4:=h.cm
 exact ⟨h.bel,h.row,h.ws,h.ns,fun i hi=>(h.nds i hi).recolor (by omega) hC,h.brk,h.fly,h.evs,(hC _ (by omega)).trans e1,(hC _ (by omega)).trans e2,(hC _ (by omega)).trans e3,(hC _ (by omega)).trans e4,fun g hg=>(hC g (by have:=h.cf g hg; omega)).trans (h.cf g hg),fun g hg=>(hC g (by have:=h.ce g hg; omega)).trans (h.ce g hg),hl,hw,h.inv⟩
theorem WD.adopt {d lb b cap:Nat} {a:Int} {P:PL} (h:WD w0 w C X zs V m) (hi:i<zs.length) (hd:d<6) (hu:(V.nd i).l≠-2) (hL:LD w lb b cap i d a zs P) (c1:2000≤C lb) (c2:2000≤C b) (h0:w0.heap.size≤b) (ha:0≤a∧a≤1048576) (h1:P.stt<4) (h2:0≤P.seen∧P.seen≤1048576) :
  ∃ C',WD w0 (w.setCell ⟨(X.K i).nd,1+d,none⟩ (.pointer (some ⟨lb,0,none⟩))) C' { X with K:=fun e=>if e=i then putLd (X.K i) d lb b cap else X.K e } zs (setNd V i (setLd (V.nd i) d (a,P))) m∧Kept (OwnX C) w (w.setCell ⟨(X.K i).nd,1+d,none⟩ (.pointer (some ⟨lb,0,none⟩)))∧(∀ x,x≠lb→x≠b→C' x=C x):=by
 have n7:=h.n7.2
 have hbl:=hL.bl
 have hlt:=row_ltJ hL.row
 obtain ⟨C1,hC1⟩:∃ C1,C1=paint (paint C lb (100 * i+10+d)) b (100 * i+20+d):=⟨_,rfl⟩
 have hne:∀ x,x≠lb→x≠b→C1 x=C x:=fun x n1 n2=>by rw [hC1,paint_ne n2,paint_ne n1]
 have e1:C1 lb=100 * i+10+d:=by rw [hC1,paint_ne (by omega),paint_at]
 have e2:C1 b=100 * i+20+d:=by rw [hC1,paint_at]
 have hC:∀ x,C x<2000→C1 x=C x:=fun x hx=>hne x (fun e=>by rw [e] at hx; omega) (fun e=>by rw [e] at hx; omega)
 have hcase:∀ x,C1 x<2000→C x<2000 ∨ x=lb ∨ x=b:=fun x hx=>by
  by_cases n1:x=lb
  ·exact .inr (.inl n1)
  ·by_cases n2:x=b
   ·exact .inr (.inr n2)
   ·rw [hne x n1 n2] at hx; exact .inl hx
 have hg:=h.recolor (C':=C1) hC (fun x hx=>by
   rcases hcase x hx with q|q|q
   ·exact h.lt x q
   ·rw [q]; exact hlt
   ·rw [q]; omega) (fun x hx=>by
   rcases hcase x hx with q|q|q
   ·exact h.low x q
   ·rw [q]; omega
   ·rw [q]; exact h0)
 have hcn:=(h.nds i hi).cn
 have hcn1:=(hg.nds i hi).cn
 have hni:=(h.inv.nd i hi).putLead (d:=d) hu ha h1 h2 hL.pw
 refine ⟨C1,?_,(Kept.refl _ w).setCell (show C (X.K i).nd<2000 by omega) _,hne⟩
 exact hg.node (S:=In1 (X.K i).nd) ((Kept.refl _ w).set1 _ _) hi (fun x hx=>by rw [show x=_ from hx]; omega) (fun _ _=>rfl) (fun x hx hc=>by have:=hg.lt x hc; omega) ((hg.nds i hi).putLead hd hL e1 e2 (h.nds i hi).n0) rfl (Nat.le_refl _) (h.inv.node hni (Nat.le_refl _))
theorem aboveN_bd {n d:Nat} (h:NI n N m) (hd:d<6):0≤aboveN N d∧aboveN N d≤1048576:=by
 have hg:=(h.gd d hd).2.1
 have e:(stN N d).pr=(dlN N d).2.pr:=rfl
 unfold aboveN
 cases hl:N.ld d with
 | none=>simp only; omega
 | some x =>
  have:=(h.ld d x hl).2.2.2.1
  simp only
  omega
theorem electF_fi {n s d:Nat} {a:Int} (hs:s<n) (hn:n≤7) (hd:d<6) (ha:0≤a∧a≤1048576):FI n (electF s d a):=by
 refine ⟨by show (0:Int)≤s; omega,by show (s:Int)<n; omega,by show (0:Int)≤s; omega,by show (s:Int)<n; omega,⟨?_,?_,?_,?_,ha,⟨?_,?_,?_⟩⟩⟩
 ·show (0:Int)≤s∧(s:Int)≤6; omega
 ·show (0:Int)≤s∧(s:Int)≤6; omega
 ·show (0:Int)≤d∧(d:Int)≤5; omega
 ·show (1:Int)≤3∧(3:Int)≤7; omega
 ·show (0:Int)≤0∧(0:Int)≤5; omega
 ·show (0:Int)≤0∧(0:Int)≤1048576; omega
 ·show (0:Int)≤0∧(0:Int)≤1048576; omega
theorem electL_fi {n s d:Nat} {a:Int} (hs:s<n) (hn:n≤7) (hd:d<6) (ha:0≤a∧a≤1048576):(∀ f,f∈electsL s d a n→FI n f)∧(electsL s d a n).length≤1000:=by
 unfold electsL
 refine ⟨fun f hf=>toL_fi hs hn hd (by decide) ha (by decide) n (Nat.le_refl _) f (List.mem_of_mem_eraseIdx hf),?_⟩
 have:=List.length_eraseIdx_le (toL s d 3 a 0 n) s
 rw [toL_length] at this
 omega
theorem hearX_nd (V:PX) (i:Nat) (f:F9):(hearX V i f).nd i=hearN (V.nd i) f:=by
 unfold hearX setNd
 simp
theorem try_far (s d p:Nat) (h:WD w0 w C X zs V m) (hE:Held9 w0 A) (hs:s<zs.length) (hd:d<6) (hp:(stN (V.nd s) d).pr=p) (ha:1048576<attemptX zs.length s (aboveN (V.nd s) d)) :
  Calls Tryz.prog 112 #[.pointer (some ⟨X.xb,0,none⟩),.int .i64 (s:Int),.int .i64 (d:Int),.int .i64 (p:Int)] w fun e w'=>e=.returned (.tuple #[])∧Below w.heap.size w w':=by
 obtain ⟨c0,c1,-,-,-⟩:=h.cells
 have c2:=h.ns s hs
 have n7:=h.n7
 have H:=hid h
 have HE:=hid hE
 have HS:=hid hs
 have HP:=hid hp
 have hbd:=aboveN_bd (h.inv.nd s hs) hd
 obtain ⟨n,hn⟩:∃ n,Hid (zs.length=n):=⟨_,rfl⟩
 have HA:=hid (attempt_is s (aboveN (V.nd s) d) h hs hbd.1 hbd.2)
 have HSe:=hid (seen_is d p (h.nds s hs) hd hp)
 have HT:=hid (ldTry_far A _ zs s (d:Int) _ w h.sl (h.held hE).to3 h.inv.he hs (by omega) (by omega) ha)
 rw [hn.out] at c0 c1 hs HA HT ha n7
 generalize aboveN (V.nd s) d=ab at HA HSe HT ha hbd
 generalize attemptX n s ab=at_ at HA HT ha
 clear h hE hp
 go_enter Tryz.func112,Tryz.ntmps112
 go_wp2_with fail
 refine HSe.out.mono ?_
 rintro e w1 ⟨rfl,hx⟩
 subst w1
 go_wp2_with fail
 refine HA.out.mono ?_
 rintro e w1 ⟨rfl,hx⟩
 subst w1
 go_wp2_with fail
 refine HT.out.mono ?_
 rintro e w1 ⟨rfl,hb⟩
 have HB:=hid hb
 clear hb
 go_wp2_with fail
 refine bodyPost_ret (results_none rfl _ _ _) rfl ?_
 exact ⟨rfl,HB.out⟩
theorem FrF.adopt {base:Nat} {v:Value} {L:List F9} (h:FrF w C base v L) (k:Kept (OwnX C) w w') (hC:∀ x,base≤x→C' x=C x):FrF w' C' base v L:=by
 obtain ⟨ad,cap,e,hf,hg⟩:=h.kept (C':=C) k (fun _ _=>rfl)
 exact ⟨ad,cap,e,hf,fun hne p hp=>by have:=hg hne p hp; exact ⟨by rw [hC _ this.2.2]; exact this.1,this.2⟩⟩
theorem try_down (s d p an:Nat) (h:WD w0 w C X zs V m) (hE:Held9 w0 A) (hs:s<zs.length) (hd:d<6) (hu:(V.nd s).l≠-2) (hm:m<1000000) (hp:(stN (V.nd s) d).pr=p) (ha:attemptX zs.length s (aboveN (V.nd s) d)=an) (ha1:1≤an) (ha2:an≤1048576) (hdn:upN (hearN (V.nd s) (electF s d an))=false) (HAns:Hid (ansN s (V.nd s) (electF s d an)=[])) :
  Calls Tryz.prog 112 #[.pointer (some ⟨X.xb,0,none⟩),.int .i64 (s:Int),.int .i64 (d:Int),.int .i64 (p:Int)] w fun e w'=>e=.returned (.tuple #[])∧WOut w0 w w' C X zs (hearX V s (electF s d an)) (m+2):=by
 have HDn:=hid hdn
 clear hdn
 obtain ⟨c0,c1,-,-,-⟩:=h.cells
 have c2:=h.ns s hs
 have n7:=h.n7
 have H:=hid h
 have HE:=hid hE
 have HS:=hid hs
 have HU:=hid hu
 have hbd:=aboveN_bd (h.inv.nd s hs) hd
 obtain ⟨n,hn⟩:∃ n,Hid (zs.length=n):=⟨_,rfl⟩
 have HA:=hid (attempt_is s (aboveN (V.nd s) d) h hs hbd.1 hbd.2)
 rw [ha] at HA
 have HSe:=hid (seen_is d p (h.nds s hs) hd hp)
 have HT:=hid (ldTry_ok A _ zs s (d:Int) (an:Int) w h.sl (h.held hE).to3 h.inv.he hs (by omega) (by omega) (by omega) (by omega))
 have HFI:=hid (electF_fi (a:=(an:Int)) hs n7.2 hd (by omega))
 rw [hn.out] at c0 c1 hs HT n7
 generalize aboveN (V.nd s) d=ab at HA HSe hbd ha
 clear h hE hp hu ha
 go_enter Tryz.func112,Tryz.ntmps112
 go_wp2_with fail
 refine HSe.out.mono ?_
 rintro e w1 ⟨rfl,hx⟩
 subst w1
 go_wp2_with fail
 refine HA.out.mono ?_
 rintro e w1 ⟨rfl,hx⟩
 subst w1
 go_wp2_with fail
 refine HT.out.mono ?_
 rintro e w1 ⟨lb,b,cap,rfl,hl,hb,hlb⟩
 have H1:=hid (H.out.later hb)
 have HL1:=hid hl
 have HB1:=hid hb
 have hbl:=hl.bl
 have HCl:Hid (2000≤C lb∧2000≤C b):=by
  constructor
  ·rcases Nat.lt_or_ge (C lb) 2000 with q|q
   ·have:=H.out.lt _ q; omega
   ·exact q
  ·rcases Nat.lt_or_ge (C b) 2000 with q|q
   ·have:=H.out.lt _ q; omega
   ·exact q
 have HHe:=hid (whear_any s d 3 an 0 0 0 false (electF s d an) rfl H1.out HE.out HS.out HU.out HFI.out hm)
 rw [show ((3:Nat):Int)=3 from rfl,show ((0:Nat):Int)=0 from rfl,HAns.out] at HHe
 clear hl hb
 go_wp2_with fail
 refine HHe.out.mono ?_
 rintro e w2 ⟨v,rfl,C2,X2,g1,g2,g3,g4,-⟩
 obtain ⟨d0,d1,d2⟩:=(g1.nds s HS.out).way
 rw [key_nd g2] at d0
 have HPl:=hid (g1.nds s HS.out).sp.jp.pl
 have HDn2:Hid ((((hearX V s (electF s d an)).nd s).l != -2)=false):=by rw [hearX_nd]; exact HDn.out
 have HG:=hid (And.intro g1 (And.intro g2 (And.intro g3 g4)))
 clear g1 g2 g3 g4
 go_wp2_with fail
 refine (power_b _ _ _ _ false w2 HPl.out HDn2.out).mono ?_
 rintro e w3 ⟨rfl,hx⟩
 subst w3
 go_wp2_with fail
 refine bodyPost_ret (results_none rfl _ _ _) rfl ?_
 refine ⟨rfl,?_⟩
 exact WOut.step (C1:=C) (X1:=X) rfl (Kept.of_below HB1.out) (fun _ _=>rfl) ⟨C2,X2,HG.out.1,HG.out.2.1,HG.out.2.2.1,HG.out.2.2.2⟩
theorem try_eq (s d:Nat) (a:Int) (f0:F9) (hA:ansN s (V.nd s) (electF s d a)=[f0]) (ha:¬ 1048576<a) (hup:upN (hearN (V.nd s) (electF s d a))=true) :
  sendX (leadX zs (sendX (setNd (hearX V s (electF s d a)) s (setLd ((hearX V s (electF s d a)).nd s) d (a,P0))) (electsL s d a zs.length)) s d f0) (leadO zs (sendX (setNd (hearX V s (electF s d a)) s (setLd ((hearX V s (electF s d a)).nd s) d (a,P0))) (electsL s d a zs.length)) s d f0)=tryX zs V s d a:=by
 have hl:((sendX (setNd (hearX V s (electF s d a)) s (setLd ((hearX V s (electF s d a)).nd s) d (a,P0))) (electsL s d a zs.length)).nd s).ld d=some (a,P0):=by
  simp [sendX,setNd,setLd]
 have e1:∀ W:PX,(W.nd s).ld d=some (a,P0)→leadX zs W s d f0=setNd W s (setLd (W.nd s) d (a,(phear zs s d a P0 f0).1)):=fun W hW=>by unfold leadX; rw [hW]
 have e2:∀ W:PX,(W.nd s).ld d=some (a,P0)→leadO zs W s d f0=outL s d a zs.length (phear zs s d a P0 f0).2:=fun W hW=>by unfold leadO; rw [hW]
 rw [e1 _ hl,e2 _ hl]
 unfold tryX
 rw [if_neg ha,if_neg (by rw [hup]; decide),hA,hearX_nd]
 have eN:∀ N:PN,setLd (setLd N d (a,P0)) d (a,(phear zs s d a P0 f0).1)=setLd N d (a,(phear zs s d a P0 f0).1):=fun N=>by
  unfold setLd
  simp only
  congr 1
  funext e
  split <;> rfl
 unfold sendX setNd hearsL hearsL electsL electL
 simp only [if_true,eN,List.append_nil,List.append_assoc]
 congr 1
 funext e
 split <;> rfl
theorem try_up (s d p an:Nat) (f0:F9) (h:WD w0 w C X zs V m) (hE:Held9 w0 A) (hs:s<zs.length) (hd:d<6) (hu:(V.nd s).l≠-2) (hm:m<1000000) (hp:(stN (V.nd s) d).pr=p) (ha:attemptX zs.length s (aboveN (V.nd s) d)=an) (ha1:1≤an) (ha2:an≤1048576) (hdn:upN (hearN (V.nd s) (electF s d an))=true) (HAns:Hid (ansN s (V.nd s) (electF s d an)=[f0])) (hf0:FI zs.length f0) :
  Calls Tryz.prog 112 #[.pointer (some ⟨X.xb,0,none⟩),.int .i64 (s:Int),.int .i64 (d:Int),.int .i64 (p:Int)] w fun e w'=>e=.returned (.tuple #[])∧WOut w0 w w' C X zs (tryX zs V s d an) (m+5):=by
 have HDn:=hid hdn
 have HF0:=hid hf0
 clear hdn hf0
 obtain ⟨c0,c1,-,-,-⟩:=h.cells
 have c2:=h.ns s hs
 have n7:=h.n7
 have H:=hid h
 have HE:=hid hE
 have HS:=hid hs
 have HU:=hid hu
 have hbd:=aboveN_bd (h.inv.nd s hs) hd
 obtain ⟨n,hn⟩:∃ n,Hid (zs.length=n):=⟨_,rfl⟩
 have HA:=hid (attempt_is s (aboveN (V.nd s) d) h hs hbd.1 hbd.2)
 rw [ha] at HA
 have HSe:=hid (seen_is d p (h.nds s hs) hd hp)
 have HT:=hid (ldTry_ok A _ zs s (d:Int) (an:Int) w h.sl (h.held hE).to3 h.inv.he hs (by omega) (by omega) (by omega) (by omega))
 have HFI:=hid (electF_fi (a:=(an:Int)) hs n7.2 hd (by omega))
 rw [hn.out] at c0 c1 hs HT n7
 generalize aboveN (V.nd s) d=ab at HA HSe hbd ha
 clear h hE hp hu ha
 go_enter Tryz.func112,Tryz.ntmps112
 go_wp2_with fail
 refine HSe.out.mono ?_
 rintro e w1 ⟨rfl,hx⟩
 subst w1
 go_wp2_with fail
 refine HA.out.mono ?_
 rintro e w1 ⟨rfl,hx⟩
 subst w1
 go_wp2_with fail
 refine HT.out.mono ?_
 rintro e w1 ⟨lb,b,cap,rfl,hl,hb,hlb⟩
 have H1:=hid (H.out.later hb)
 have HL1:=hid hl
 have HB1:=hid hb
 have hbl:=hl.bl
 have HCl:Hid (2000≤C lb∧2000≤C b):=by
  constructor
  ·rcases Nat.lt_or_ge (C lb) 2000 with q|q
   ·have:=H.out.lt _ q; omega
   ·exact q
  ·rcases Nat.lt_or_ge (C b) 2000 with q|q
   ·have:=H.out.lt _ q; omega
   ·exact q
 have HHe:=hid (whear_any s d 3 an 0 0 0 false (electF s d an) rfl H1.out HE.out HS.out HU.out HFI.out hm)
 rw [show ((3:Nat):Int)=3 from rfl,show ((0:Nat):Int)=0 from rfl,HAns.out] at HHe
 clear hl hb
 go_wp2_with fail
 have HHe2:Hid (Calls Tryz.prog 109 #[.pointer (some ⟨X.xb,0,none⟩),frV (s:Int) (s:Int) (d:Int) 3 (an:Int) false 0 0 0] w1 fun e w2=>∃ g off cp,e=.returned (.slice (some ⟨g,off,none⟩) 1 cp)∧∃ C2 X2,WD w0 w2 C2 X2 zs (hearX V s (electF s d an)) (m+2)∧key X2=key X∧Kept (OwnX C) w1 w2∧(∀ x,x<w1.heap.size→C2 x=C x)∧FrF w2 C2 w1.heap.size (.slice (some ⟨g,off,none⟩) 1 cp) [f0]):=by
  refine HHe.out.mono ?_
  rintro e w2 ⟨v,rfl,C2,X2,g1,g2,g3,g4,g5⟩
  have g6:=g5
  obtain ⟨ad,cp,rfl,hf,-⟩:=g5
  obtain ⟨g,off,rfl,-⟩:=hf 0 (by simp)
  exact ⟨g,off,cp,rfl,C2,X2,g1,g2,g3,g4,g6⟩
 clear HHe
 refine HHe2.out.mono ?_
 rintro e w2 ⟨g,off,cp,rfl,C2,X2,g1,g2,g3,g4,g5⟩
 obtain ⟨d0,d1,d2⟩:=(g1.nds s HS.out).way
 rw [key_nd g2] at d0
 have HPl:=hid (g1.nds s HS.out).sp.jp.pl
 have HDn2:Hid ((((hearX V s (electF s d an)).nd s).l != -2)=true):=by rw [hearX_nd]; exact HDn.out
 have hlw:=row_ltJ HL1.out.row
 have HL2:Hid (LD w2 lb b cap s d an zs P0):=HL1.out.kept g3 (fun e=>by have h1:C lb<2000:=e; have:=HCl.out.1; omega) (fun e=>by have h1:C b<2000:=e; have:=HCl.out.2; omega)
 have hup2:((hearX V s (electF s d an)).nd s).l≠-2:=by have:=HDn2.out; simpa using this
 obtain ⟨C3,q1,q2,q3⟩:=g1.adopt HS.out hd hup2 HL2.out (by rw [g4 _ hlw]; exact HCl.out.1) (by rw [g4 _ (by omega)]; exact HCl.out.2) (by have:=H.out.bel.size; omega) (by omega) (by decide) (by decide)
 rw [key_nd g2] at q1 q2
 obtain ⟨W3,HW3⟩:∃ W3,Hid (w2.setCell ⟨(X.K s).nd,1+d,none⟩ (.pointer (some ⟨lb,0,none⟩))=W3):=⟨_,rfl⟩
 have hW3:=HW3.out
 rw [hW3] at q1 q2
 have HFr3:=hid (g5.adopt q2 (fun x hx=>q3 x (by omega) (by omega)))
 have c1n:=(g1.nds s HS.out).lead hd
 have z1n:=(g1.nds s HS.out).fz (1+d)
 rw [key_nd g2] at c1n z1n
 obtain ⟨X3,HX3⟩:∃ X3:XB,Hid (({ X2 with K:=fun e=>if e=s then putLd (X2.K s) d lb b cap else X2.K e }:XB)=X3):=⟨_,rfl⟩
 have HKX:Hid (key X3=key X):=by rw [← HX3.out]; exact (key_K (i:=s) (K:=putLd (X2.K s) d lb b cap) rfl).trans g2
 have HKL:Hid ((X3.K s).lb d=lb∧(X3.K s).b d=b∧(X3.K s).cap d=cap):=by rw [← HX3.out]; exact ⟨by simp [putLd],by simp [putLd],by simp [putLd]⟩
 rw [HX3.out] at q1
 have HLD:Hid (LD W3 lb b cap s d an zs P0):=by
  have:=(q1.nds s HS.out).lds d hd (an,P0) (by simp [setNd,setLd])
  rw [HKL.out.1,HKL.out.2.1,HKL.out.2.2] at this
  exact this
 have HC3:Hid (∀ x,x<w.heap.size→C3 x=C x):=fun x hx=>by
  have hb1:=HB1.out.size
  rw [q3 x (by omega) (by omega)]
  exact g4 x (by omega)
 have HK3:Hid (Kept (OwnX C) w W3):=by
  have hb1:=HB1.out.size
  have k2:Kept (OwnX C) w w2:=(Kept.of_below HB1.out).trans g3
  refine ⟨q2.os.trans k2.os,q2.tape.trans k2.tape,q2.output.trans k2.output,Nat.le_trans k2.size q2.size,fun x hx hn=>?_⟩
  exact (q2.block x (Nat.lt_of_lt_of_le hx k2.size) (fun e=>hn (by have h1:C2 x<2000:=e; rw [g4 x (by omega)] at h1; exact h1))).trans (k2.block x hx hn)
 have HQ:=hid q1
 clear g1 g2 g3 g4 g5 q1 q2 q3
 go_wp2_with fail
 refine (power_b _ _ _ _ true w2 HPl.out HDn2.out).mono ?_
 rintro e w4 ⟨rfl,hx⟩
 subst w4
 go_wp2_with fail
 refine (ldStart1_any (by rw [hn.out]; exact n7.2) HS.out (by omega) HLD.out).mono ?_
 rintro e w5 ⟨v5,rfl,hf5,hb5⟩
 have HSd:=hid (send_any v5 _ (HQ.out.later hb5) hf5.fr (electL_fi HS.out (by rw [hn.out]; exact n7.2) hd (by omega)).1 (electL_fi HS.out (by rw [hn.out]; exact n7.2) hd (by omega)).2 (by omega))
 rw [key_xb HKX.out] at HSd
 have HFr5:=hid (HFr3.out.kept (Kept.of_below hb5) (fun _ _=>rfl))
 have HB5:=hid hb5
 clear hf5 hb5
 go_wp2_with fail
 refine HSd.out.mono ?_
 rintro e w6 ⟨rfl,C6,v6,y1,y2,y3⟩
 have HFr6:=hid (HFr5.out.kept y2 y3)
 obtain ⟨V6,HV6⟩:∃ V6,Hid (sendX (setNd (hearX V s (electF s d an)) s (setLd ((hearX V s (electF s d an)).nd s) d (an,P0))) (electsL s d an zs.length)=V6):=⟨_,rfl⟩
 have HFin:Hid (sendX (leadX zs V6 s d f0) (leadO zs V6 s d f0)=tryX zs V s d an):=by rw [← HV6.out]; exact try_eq s d an f0 HAns.out (by omega) HDn.out
 have HLd6:Hid ((V6.nd s).ld d=some ((an:Int),P0)):=by rw [← HV6.out]; show _=_; simp [sendX,setNd,setLd]
 rw [HV6.out] at y1
 obtain ⟨X6,HX6⟩:∃ X6:XB,Hid (({ X3 with fv:=v6 }:XB)=X6):=⟨_,rfl⟩
 have HK6:Hid (key X6=key X3):=by rw [← HX6.out]; exact rfl
 have HKL6:Hid ((X6.K s).lb d=lb∧(X6.K s).b d=b∧(X6.K s).cap d=cap):=by rw [← HX6.out]; exact HKL.out
 obtain ⟨X6',HX6'⟩:∃ X6':XB,Hid (X6'={ X3 with xb:=X.xb,fv:=v6 }):=⟨_,rfl⟩
 have HE6:Hid (X6'=X6):=by rw [HX6'.out,← HX6.out,← key_xb HKX.out]; exact rfl
 have HY1:Hid (WD w0 w6 C6 X6 zs V6 (m+2+1)):=by rw [← HE6.out,HX6'.out]; exact y1
 have HY:=hid (And.intro y2 y3)
 have HLD6:Hid (LD w6 lb b cap s d an zs P0):=by
  have:=(HY1.out.nds s HS.out).lds d hd _ HLd6.out
  rw [HKL6.out.1,HKL6.out.2.1,HKL6.out.2.2] at this
  exact this
 obtain ⟨ad6,cp6,hv6,hfl6,-⟩:=HFr6.out
 obtain ⟨gg,oo,hgo,hcl⟩:=hfl6 0 (by simp)
 have hgo2:(some ⟨g,off,none⟩:Option Addr)=some ⟨gg,oo,none⟩:=by
  have h1:(Value.slice (some ⟨g,off,none⟩) 1 cp)=.slice ad6 1 cp6:=hv6
  have h2:(some ⟨g,off,none⟩:Option Addr)=ad6:=by injection h1
  rw [h2,hgo]
 have hgo3:(⟨g,off,none⟩:Addr)=⟨gg,oo,none⟩:=Option.some.inj hgo2
 have hg1:g=gg:=congrArg Addr.block hgo3
 have hg2:off=oo:=congrArg Addr.off hgo3
 rw [← hg1,← hg2] at hcl
 obtain ⟨ff,ft,fd,fk,fa,fy,fp1,fp2,fp3⟩:=f0
 obtain ⟨t0,t1,t2,t3,t4,t5,t6,t7,t8⟩:=nineO (o:=off) (fun j hj=>by have:=hcl j hj; rw [show off+0 * 9+j=off+j by omega] at this; exact this)
 simp only [List.getElem_cons_zero] at t0 t1 t2 t3 t4 t5 t6 t7 t8
 obtain ⟨W7,HW7⟩:∃ W7,Hid (w6.alloc (.cells #[.int .i64 ff,.int .i64 ft,.int .i64 fd,.int .i64 fk,.int .i64 fa,.bool fy,.int .i64 fp1,.int .i64 fp2,.int .i64 fp3] 104)=W7):=⟨_,rfl⟩
 have hW7:=HW7.out
 have HB7:Hid (Below w6.heap.size w6 W7):=by rw [← HW7.out]; exact (Below.refl _ _).alloc (Nat.le_refl _) _
 have HR7:Hid (W7.heap[w6.heap.size]? = some (.cells #[.int .i64 ff,.int .i64 ft,.int .i64 fd,.int .i64 fk,.int .i64 fa,.bool fy,.int .i64 fp1,.int .i64 fp2,.int .i64 fp3] 104 (0,0))):=by rw [← HW7.out]; exact heap_alloc_new w6 _
 obtain ⟨b0,b1,b2,b3,b4,b5,b6,b7,b8⟩:=nine HR7.out
 have HHr:=hid (ldhear_any A ff ft fd fk fa fy fp1 fp2 fp3 H.out.inv.he (by decide) ((HY1.out.later HB7.out).held HE.out).to3 (HLD6.out.later HB7.out))
 clear y1 y2 y3 hv6 hfl6 hgo hcl hgo2 hgo3 hg1 hg2
 go_wp2_with fail
 refine wp_loop_rounds 2 ?_
 rw [rounds_succ]
 go_wp2_with fail
 refine HHr.out.mono ?_
 rintro e w8 ⟨v8,rfl,hf8,hl8,hk8⟩
 have HLO:=hid (lead_out (i:=s) (d:=d) (x:=((an:Int),P0)) (F:=⟨ff,ft,fd,fk,fa,fy,fp1,fp2,fp3⟩) (v:=v8) HY1.out HB7.out HS.out hd HLd6.out hf8 (by rw [HKL6.out.1,HKL6.out.2.1,HKL6.out.2.2]; exact hl8) (by rw [HKL6.out.1]; exact hk8) HF0.out)
 obtain ⟨C9,X9,r1,r2,r3,r4,r5⟩:=HLO.out
 have HO9:Hid ((∀ f,f∈leadO zs V6 s d ⟨ff,ft,fd,fk,fa,fy,fp1,fp2,fp3⟩→FI zs.length f)∧(leadO zs V6 s d ⟨ff,ft,fd,fk,fa,fy,fp1,fp2,fp3⟩).length≤1000):=by
  unfold leadO
  rw [HLd6.out]
  exact ⟨outL_fi HS.out (by rw [hn.out]; exact n7.2) hd (by show (0:Int)≤an∧(an:Int)≤1048576; omega),Nat.le_trans (outL_le _ _ _ _ _) (by rw [hn.out]; omega)⟩
 have HS9:=hid (send_any v8 _ r1 r5.fr HO9.out.1 HO9.out.2 (by omega))
 rw [key_xb r2,key_xb HK6.out,key_xb HKX.out] at HS9
 have HR9:=hid (And.intro r2 (And.intro r3 r4))
 clear hf8 hl8 hk8 r1 r2 r3 r4 r5
 go_wp2_with fail
 refine HS9.out.mono ?_
 rintro e w10 ⟨rfl,C10,v10,y1,y2,y3⟩
 have HY10:=hid (And.intro y1 (And.intro y2 y3))
 clear y1 y2 y3
 go_wp2_with fail
 rw [rounds_succ]
 go_wp2_with fail
 go_end0
 refine ⟨rfl,?_⟩
 rw [← HFin.out]
 refine WOut.step (C1:=C3) (X1:=X3) HKX.out HK3.out HC3.out ?_
 refine WOut.step (C1:=C3) (X1:=X3) rfl (Kept.of_below HB5.out) (fun _ _=>rfl) ?_
 refine WOut.step (C1:=C6) (X1:=X6) HK6.out HY.out.1 HY.out.2 ?_
 refine WOut.step (C1:=C9) (X1:=X9) HR9.out.1 HR9.out.2.1 HR9.out.2.2 ?_
 exact ⟨C10,_,HY10.out.1,(by unfold key; exact Prod.ext (key_xb (HR9.out.1.trans (HK6.out.trans HKX.out))).symm rfl),HY10.out.2.1,HY10.out.2.2⟩
end
end Go.Proofs.YtadhpkopkkjmfaaGreatDoor
