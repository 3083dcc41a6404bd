/-
  On the way to SPlaysProof: O30 O32.
-/
import Derived.Test.YtaehdgemkafinaaGreatDoorBw42
set_option maxHeartbeats 8000000
set_option maxRecDepth 100000
namespace Go.Proofs.YtaehdgemkafinaaGreatDoor
open Go.RowKit
theorem u8_dig {k:Nat} (h:k<10):(UInt8.ofNat (48+k)).toNat=48+k:=by
 rw [UInt8.toNat_ofNat',Nat.mod_eq_of_lt (by omega)]
theorem digs_dec (n:Nat):digsO (Lib.decDigits n) 0=some n:=by
 induction n using Nat.strongRecOn with
 | _ n ih =>
  by_cases h:n<10
  ·rw [Lib.decDigits_one h]
   unfold digsO
   rw [u8_dig h,if_neg (by omega)]
   unfold digsO
   congr 1
   omega
  ·rw [Lib.decDigits,dif_neg h,digsO_snoc _ _ _ _ (ih (n / 10) (by omega)),u8_dig (by omega),if_neg (by omega)]
   congr 1
   omega
theorem dec_head (n:Nat) (h:0<n):(Lib.decDigits n).getD 0 0≠48:=by
 induction n using Nat.strongRecOn with
 | _ n ih =>
  by_cases h1:n<10
  ·rw [Lib.decDigits_one h1]
   intro e
   have e2:UInt8.ofNat (48+n)=48:=e
   have:=u8_dig h1
   rw [e2] at this
   have h3:(48:UInt8).toNat=48:=rfl
   omega
  ·rw [Lib.decDigits,dif_neg h1]
   have h2:=ih (n / 10) (by omega) (by omega)
   have h3:=Lib.decDigits_length (n / 10)
   have h4:=Lib.nDigits_pos (n / 10)
   rw [List.getD,List.getElem?_append_left (by omega)]
   exact h2
theorem decK_len {n k:Nat} (h:n<10 ^ k) (hk:0<k):(Lib.decDigits n).length≤k:=by
 rw [Lib.decDigits_length]
 induction k generalizing n with
 | zero=>omega
 | succ k ih =>
  by_cases h1:n<10
  ·rw [Lib.nDigits_small h1]; omega
  ·rw [Lib.nDigits_big h1]
   have hk1:0<k:=by
    rcases Nat.eq_zero_or_pos k with e|e
    ·subst e; simp at h; omega
    ·exact e
   have:=ih (n:=n / 10) (by rw [Nat.pow_succ] at h; omega) hk1
   omega
theorem num_dec {n k:Nat} (h:n<10 ^ k) (hk:0<k):numO k (Lib.decDigits n)=some n:=by
 have h1:=decK_len h hk
 have h2:=Lib.decDigits_length n
 have h3:=Lib.nDigits_pos n
 unfold numO
 rw [if_neg,digs_dec]
 rintro (e|e|⟨e1,e2⟩)
 ·rw [e] at h2; simp at h2; omega
 ·omega
 ·rcases Nat.eq_zero_or_pos n with e|e
  ·subst e; rw [Lib.decDigits_one (by omega)] at e1; simp at e1
  ·exact dec_head n e e2
theorem dec_no_blank (n:Nat):∀ c,c∈Lib.decDigits n→c≠32:=by
 induction n using Nat.strongRecOn with
 | _ n ih =>
  have hd:∀ k,k<10→UInt8.ofNat (48+k)≠32:=fun k hk e=>by
   have:=u8_dig hk
   rw [e] at this
   have h3:(32:UInt8).toNat=32:=rfl
   omega
  by_cases h1:n<10
  ·rw [Lib.decDigits_one h1]
   intro c hc
   rw [List.mem_singleton.1 hc]
   exact hd n h1
  ·rw [Lib.decDigits,dif_neg h1]
   intro c hc
   rcases List.mem_append.1 hc with h|h
   ·exact ih (n / 10) (by omega) c h
   ·rw [List.mem_singleton.1 h]
    exact hd _ (by omega)
def numsO:List Int→Bs
 | []=>[]
 | n :: r=>32 :: (Lib.decDigits n.toNat ++ numsO r)
def wdsO (ns:List Int):List Bs:=ns.map fun n=>Lib.decDigits n.toNat
theorem spl_word:∀ (wd r:Bs),(∀ c,c∈wd→c≠32)→splO (wd ++ 32 :: r)=wd :: splO r
 | [],r,_=>by simp [splO]
 | c :: wd,r,h=>by
  rw [List.cons_append,splO,if_neg (h c List.mem_cons_self),spl_word wd r (fun d hd=>h d (List.mem_cons_of_mem _ hd))]
theorem spl_one:∀ (wd:Bs),(∀ c,c∈wd→c≠32)→splO wd=[wd]
 | [],_=>rfl
 | c :: wd,h=>by
  rw [splO,if_neg (h c List.mem_cons_self),spl_one wd (fun d hd=>h d (List.mem_cons_of_mem _ hd))]
theorem spl_nums:∀ (ns:List Int) (wd:Bs),(∀ c,c∈wd→c≠32)→splO (wd ++ numsO ns)=wd :: wdsO ns
 | [],wd,h=>by rw [numsO,List.append_nil]; exact spl_one wd h
 | n :: r,wd,h=>by
  rw [numsO,spl_word wd _ h,spl_nums r _ (dec_no_blank _)]
  rfl
theorem numsO_snoc:∀ (ns:List Int) (n:Int),numsO (ns ++ [n])=numsO ns ++ 32 :: Lib.decDigits n.toNat
 | [],n=>by simp [numsO]
 | m :: r,n=>by
  rw [List.cons_append,numsO,numsO_snoc r n,numsO]
  simp
def capO (f:Bs) (i:Nat):Int:=if f≠[43]∧f.getD i 0=100 then 9 else 99999
def fitB (f:Bs):Nat→List Int→Bool
 | _,[]=>true
 | i,n :: r=>(decide (0≤n) && decide (n≤capO f i)) && fitB f (i+1) r
abbrev fitO (f:Bs) (i:Nat) (ns:List Int):Prop:=fitB f i ns=true
theorem fit_cons {f:Bs} {i:Nat} {n:Int} {r:List Int}:fitO f i (n :: r) ↔ (0≤n∧n≤capO f i)∧fitO f (i+1) r:=by
 simp [fitO,fitB]
abbrev manyO (i:Nat) (ns:List Int):Prop:=if i=0 then ns≠[] else ns.length=(lformO.getD i []).length
def lineO (wd:Bs) (ns:List Int):Option Bs:=match cmdO wd with
 | none=>none
 | some i=>if manyO i ns∧fitO (lformO.getD i []) 0 ns then some (wd ++ numsO ns) else none
theorem most_cap {i j:Nat} (hi:i<19) (hj:i≠0→j<(lformO.getD i []).length) {n:Int} (h0:0≤n) (h:n≤capO (lformO.getD i []) j):n.toNat<10 ^ mostO ((formO.getD i []).getD (min j ((formO.getD i []).length - 1)) 0)∧0<mostO ((formO.getD i []).getD (min j ((formO.getD i []).length - 1)) 0):=by
 rcases Nat.eq_zero_or_pos i with e|e
 ·subst e
  have e1:capO (lformO.getD 0 []) j=99999:=by unfold capO; rw [if_neg]; rintro ⟨q,-⟩; exact q rfl
  have e2:min j ((formO.getD 0 []).length - 1)=0:=Nat.min_eq_right (Nat.zero_le j)
  rw [e2]
  rw [e1] at h
  have e3:mostO ((formO.getD 0 []).getD 0 0)=5:=by decide
  rw [e3]
  exact ⟨by omega,by omega⟩
 ·have hj2:=hj (by omega)
  have key:∀ i,i<19→0<i→∀ j,j<(lformO.getD i []).length→min j ((formO.getD i []).length - 1)=j∧((capO (lformO.getD i []) j=9∧mostO ((formO.getD i []).getD j 0)=1) ∨ (capO (lformO.getD i []) j=99999∧mostO ((formO.getD i []).getD j 0)=5)):=by decide
  obtain ⟨k1,k2⟩:=key i hi e j hj2
  rw [k1]
  rcases k2 with ⟨a,b⟩|⟨a,b⟩
  ·rw [a] at h; rw [b]; exact ⟨by omega,by omega⟩
  ·rw [a] at h; rw [b]; exact ⟨by omega,by omega⟩
theorem read_nums {i:Nat} (hi:i<19):∀ (ns:List Int) (j:Nat),(i≠0→j+ns.length≤(lformO.getD i []).length)→fitO (lformO.getD i []) j ns→readWO (formO.getD i []) j (wdsO ns)=some ns
 | [],j,_,_=>rfl
 | n :: r,j,hl,hf=>by
  obtain ⟨⟨h0,h1⟩,h2⟩:=fit_cons.1 hf
  have hm:=most_cap hi (j:=j) (fun e=>by have:=hl e; rw [List.length_cons] at this; omega) h0 h1
  show (match numO (mostO ((formO.getD i []).getD (min j ((formO.getD i []).length - 1)) 0)) (Lib.decDigits n.toNat) with|none=>none|some n=>(readWO (formO.getD i []) (j+1) (wdsO r)).map (fun l=>(n:Int) :: l))=_
  rw [num_dec hm.1 hm.2,read_nums hi r (j+1) (fun e=>by have:=hl e; rw [List.length_cons] at this; omega) h2]
  simp only [Option.map_some]
  rw [Int.toNat_of_nonneg h0]
theorem read_back {i:Nat} (hi:i<19) {ns:List Int} (hm:manyO i ns) (hf:fitO (lformO.getD i []) 0 ns):readO (formO.getD i []) (i == 0) (wdsO ns)=some ns:=by
 have key:∀ i,i<19→0<i→(formO.getD i []).length=(lformO.getD i []).length:=by decide
 unfold readO
 unfold manyO at hm
 have hw:(wdsO ns).length=ns.length:=by unfold wdsO; rw [List.length_map]
 rcases Nat.eq_zero_or_pos i with e|e
 ·subst e
  rw [if_pos rfl] at hm
  rw [if_neg,read_nums hi ns 0 (fun q=>absurd rfl q) hf]
  rintro (q|⟨-,q⟩)
  ·rw [hw] at q
   have h1:(formO.getD 0 []).length=1:=rfl
   rw [h1] at q
   exact hm (List.length_eq_zero_iff.1 (by omega))
  ·cases q
 ·rw [if_neg (by omega)] at hm
  rw [if_neg,read_nums hi ns 0 (fun _=>by omega) hf]
  rw [hw,key i hi e]
  omega
theorem name_no_blank {wd:Bs} {i:Nat} (h:cmdO wd=some i):∀ c,c∈wd→c≠32:=by
 obtain ⟨hi,hn⟩:=cmdO_lt h
 have key:∀ x,x∈nameO→∀ c,c∈x→c≠32:=by decide
 exact key wd (List.mem_of_getElem? hn)
theorem name_len {wd:Bs} {i:Nat} (h:cmdO wd=some i):wd.length≤6:=by
 obtain ⟨hi,hn⟩:=cmdO_lt h
 have key:∀ x,x∈nameO→x.length≤6:=by decide
 exact key wd (List.mem_of_getElem? hn)
theorem line_back {wd l:Bs} {ns:List Int} (h:lineO wd ns=some l):∃ i,i<19∧cmdO wd=some i∧manyO i ns∧fitO (lformO.getD i []) 0 ns∧l=wd ++ numsO ns∧∀ st,lineP st (splO l)=resP st i ns:=by
 unfold lineO at h
 cases hc:cmdO wd with
 | none=>rw [hc] at h; cases h
 | some i =>
  rw [hc] at h
  simp only at h
  obtain ⟨hi,hn⟩:=cmdO_lt hc
  by_cases hq:manyO i ns∧fitO (lformO.getD i []) 0 ns
  ·rw [if_pos hq] at h
   obtain rfl:=Option.some.inj h
   refine ⟨i,hi,rfl,hq.1,hq.2,rfl,fun st=>?_⟩
   rw [spl_nums _ _ (name_no_blank hc)]
   unfold lineP
   rw [show (wd :: wdsO ns).headD []=wd from rfl,hc]
   simp only [List.tail_cons]
   rw [read_back hi hq.1 hq.2]
  ·rw [if_neg hq] at h; cases h
theorem fit_len (f:Bs):∀ (ns:List Int) (j:Nat),fitO f j ns→(numsO ns).length≤6 * ns.length
 | [],_,_=>Nat.le_refl _
 | n :: r,j,h0=>by
  have h:=fit_cons.1 h0
  have h1:=fit_len f r (j+1) h.2
  have h2:n≤99999:=by
   have:=h.1.2
   unfold capO at this
   split at this <;> omega
  have h3:=decK_len (n:=n.toNat) (k:=5) (by omega) (by decide)
  unfold numsO
  simp
  omega
theorem line_len {wd l:Bs} {ns:List Int} (h:lineO wd ns=some l):l.length≤6+6 * ns.length:=by
 obtain ⟨i,hi,hc,hm,hf,rfl,-⟩:=line_back h
 have h1:=name_len hc
 have h2:=fit_len _ ns 0 hf
 rw [List.length_append]
 omega
theorem bB_snocD (a:Bs) (c:UInt8):bB a ++ bA [c]=bB (a ++ [c]):=bA_append a [c]
theorem dec_size (n:Nat) (h:n<9223372036854775808):(bB (Lib.decDigits n)).size≤19:=by
 show (Lib.decDigits n).length≤19
 exact decK_len (by omega) (by decide)
theorem below_any (n:Nat):∀ (w:World),n<9223372036854775808→Calls Tryz.prog 79 #[.int .i64 (-(n:Int))] w fun e w'=>e=.returned (.string (bB (Lib.decDigits n)))∧Below w.heap.size w w':=by
 induction n using Nat.strongRecOn with
 | _ n ih =>
  intro w hn
  by_cases h:n<10
  ·have h1:(-(10:Int)) < -(n:Int):=by omega
   have H2:Hid ((48:Int)+(n:Int)=((48+n:Nat):Int)):=by change _=_; omega
   have HB:=hid (byte_any (48+n) w (by omega))
   rw [Lib.decDigits_one h]
   generalize UInt8.ofNat (48+n)=c at HB ⊢
   clear ih
   go_enter Tryz.func79,Tryz.ntmps79
   go_wp2_with fail
   rw [H2.out]
   refine HB.out.mono ?_
   rintro e w1 ⟨rfl,hb⟩
   go_wp2_with fail
   go_ret
   exact ⟨rfl,hb⟩
  ·have h1:¬ (-(10:Int)) < -(n:Int):=by omega
   have H2:Hid ((n:Int) / 10=((n / 10:Nat):Int)):=by change _=_; omega
   have H3:Hid ((48:Int)+(n:Int) % 10=((48+n % 10:Nat):Int)):=by change _=_; omega
   have HR:=hid (ih (n / 10) (by omega) w (by omega))
   have HB:Hid (∀ w,Calls Tryz.prog 143 #[.int .i64 ((48+n % 10:Nat):Int)] w fun e w'=>e=.returned (.string (bA [UInt8.ofNat (48+n % 10)]))∧Below w.heap.size w w'):=fun w=>byte_any (48+n % 10) w (by omega)
   have hd:Lib.decDigits n=Lib.decDigits (n / 10) ++ [UInt8.ofNat (48+n % 10)]:=by rw [Lib.decDigits,dif_neg h]
   rw [hd,← bB_snocD]
   have z2:=dec_size (n / 10) (by omega)
   generalize UInt8.ofNat (48+n % 10)=c at HB ⊢
   generalize bB (Lib.decDigits (n / 10))=d at HR z2 ⊢
   have z1:(bA [c]).size=1:=bA_size _
   clear ih hd
   go_enter Tryz.func79,Tryz.ntmps79
   go_wp2_with fail
   rw [H2.out]
   refine HR.out.mono ?_
   rintro e w1 ⟨rfl,hb⟩
   have HB1:=hid hb
   clear hb
   go_wp2_with fail
   rw [H3.out]
   refine (HB.out w1).mono ?_
   rintro e w2 ⟨rfl,hb2⟩
   have HB2:=hid (below_trans HB1.out hb2)
   clear hb2
   go_wp2_with fail
   go_ret
   exact ⟨rfl,HB2.out⟩
theorem dec_any (n:Nat) (w:World) (hn:n<9223372036854775808):Calls Tryz.prog 20 #[.int .i64 (n:Int)] w fun e w'=>e=.returned (.string (bB (Lib.decDigits n)))∧Below w.heap.size w w':=by
 have h1:¬ (n:Int)<0:=by omega
 have HR:=hid (below_any n w hn)
 go_enter Tryz.func20,Tryz.ntmps20
 go_wp2_with fail
 refine HR.out.mono ?_
 rintro e w1 ⟨rfl,hb⟩
 go_wp2_with fail
 go_ret
 exact ⟨rfl,hb⟩
def wordE:List Bs:=[[116,101,120,116],[98,111,117,110,100],[115,104,97,112,101],[110,111,110,101],[102,117,108,108],[111,102,102],[115,117,109],[104,101,108,100],[115,112,108,105,116]]
theorem eText_any (c:Nat) (hc:c<9) (w:World):Calls Tryz.prog 10 #[.int .i64 ((c+1:Nat):Int)] w fun e w'=>e=.returned (.string (bB (errO (c+1))))∧Below w.heap.size w w':=by
 obtain ⟨W1,HW1⟩:∃ W1,Hid (w.alloc (.cells (wordE.map fun x=>Value.string (bB x)).toArray 9)=W1):=⟨_,rfl⟩
 have HB:Hid (Below w.heap.size w W1):=by rw [← HW1.out]; exact (Below.refl _ _).alloc (Nat.le_refl _) _
 have hcl:c<wordE.length:=hc
 have c0:W1.cell? ⟨w.heap.size,c,none⟩=some (.string (bB (wordE[c]'hcl))):=by
  rw [← HW1.out,cell_of_row _ _ _ _ _ _ (heap_alloc_new w _),List.getElem?_toArray,List.getElem?_map,List.getElem?_eq_getElem hcl]
  rfl
 have e1:(⟨#[116,104,114,101,101,102,111,108,100,58,32]⟩:ByteArray) ++ bB (wordE[c]'hcl)=bB (errO (c+1)):=by
  have key:∀ j (hj:j<9),([116,104,114,101,101,102,111,108,100,58,32]:Bs) ++ wordE[j]'hj=errO (j+1):=by decide
  rw [← key c hc]
  exact bA_append [116,104,114,101,101,102,111,108,100,58,32] _
 have h2:((c+1:Nat):Int) - 1=(c:Int):=by omega
 have hW:w.alloc (.cells #[.string ⟨#[116,101,120,116]⟩,.string ⟨#[98,111,117,110,100]⟩,.string ⟨#[115,104,97,112,101]⟩,.string ⟨#[110,111,110,101]⟩,.string ⟨#[102,117,108,108]⟩,.string ⟨#[111,102,102]⟩,.string ⟨#[115,117,109]⟩,.string ⟨#[104,101,108,100]⟩,.string ⟨#[115,112,108,105,116]⟩] 9)=W1:=HW1.out
 have hlt:(c:Int)<9:=by omega
 rw [← e1]
 have z1:(bB (wordE[c]'hcl)).size≤5:=by
  have key:∀ j (hj:j<9),(wordE[j]'hj).length≤5:=by decide
  exact key c hc
 have z2:(⟨#[116,104,114,101,101,102,111,108,100,58,32]⟩:ByteArray).size=11:=rfl
 clear e1
 generalize bB (wordE[c]'hcl)=x at c0 z1 ⊢
 go_enter Tryz.func10,Tryz.ntmps10
 go_wp2_with fail
 go_ret
 exact ⟨rfl,HB.out⟩
theorem orOk_any (c:Nat) (hc:c≤9) (w:World):Calls Tryz.prog 15 #[.int .i64 (c:Int)] w fun e w'=>e=.returned (.string (bB (sayO (c,[111,107]))))∧Below w.heap.size w w':=by
 cases c with
 | zero =>
  go_enter Tryz.func15,Tryz.ntmps15
  go_wp2_with fail
  go_ret
  exact ⟨rfl,Below.refl _ _⟩
 | succ c =>
  have h1:(0:Int)<((c+1:Nat):Int):=by omega
  have HR:=hid (eText_any c (by omega) w)
  have e1:sayO (c+1,[111,107])=errO (c+1):=rfl
  rw [e1]
  go_enter Tryz.func15,Tryz.ntmps15
  go_wp2_with fail
  refine HR.out.mono ?_
  rintro e w1 ⟨rfl,hb⟩
  go_wp2_with fail
  go_ret
  exact ⟨rfl,hb⟩
def wordP:List Bs:=[[110,111,116,104,105,110,103],[118,111,116,101,100],[99,111,109,109,105,116,116,101,100],[97,98,111,114,116,101,100],[112,114,101,99,111,109,109,105,116],[112,114,101,97,98,111,114,116]]
theorem wordP_is:∀ (p:Nat) (hp:p<6),wordP[p]'hp=phaseO (p:Int):=by decide
theorem named_any (p:Nat) (hp:p<6) (w:World):Calls Tryz.prog 33 #[.int .i64 (p:Int)] w fun e w'=>e=.returned (.string (bB (phaseO (p:Int))))∧Below w.heap.size w w':=by
 obtain ⟨W1,HW1⟩:∃ W1,Hid (w.alloc (.cells (wordP.map fun x=>Value.string (bB x)).toArray 9)=W1):=⟨_,rfl⟩
 have HB:Hid (Below w.heap.size w W1):=by rw [← HW1.out]; exact (Below.refl _ _).alloc (Nat.le_refl _) _
 have c0:W1.cell? ⟨w.heap.size,p,none⟩=some (.string (bB (phaseO (p:Int)))):=by
  have hpl:p<wordP.length:=hp
  rw [← HW1.out,cell_of_row _ _ _ _ _ _ (heap_alloc_new w _),List.getElem?_toArray,List.getElem?_map,List.getElem?_eq_getElem hpl]
  exact congrArg (fun x=>some (Value.string (bB x))) (wordP_is p hp)
 have hW:w.alloc (.cells #[.string ⟨#[110,111,116,104,105,110,103]⟩,.string ⟨#[118,111,116,101,100]⟩,.string ⟨#[99,111,109,109,105,116,116,101,100]⟩,.string ⟨#[97,98,111,114,116,101,100]⟩,.string ⟨#[112,114,101,99,111,109,109,105,116]⟩,.string ⟨#[112,114,101,97,98,111,114,116]⟩] 9)=W1:=HW1.out
 have hlt:(p:Int)<6:=by omega
 generalize phaseO (p:Int)=x at c0 ⊢
 go_enter Tryz.func33,Tryz.ntmps33
 go_wp2_with fail
 go_ret
 exact ⟨rfl,HB.out⟩
end Go.Proofs.YtaehdgemkafinaaGreatDoor
