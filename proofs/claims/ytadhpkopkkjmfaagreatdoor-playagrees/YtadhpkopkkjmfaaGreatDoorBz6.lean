/-
  On the way to WStepsProof, WCommitsProof, WAgreesProof, WEndsProof, WWaitsProof, JTampersProof, PAgreesProof, PAgainProof: W1 W2 W3 W4 W5 W6 HI.
-/
import Derived.Test.YtadhpkopkkjmfaaGreatDoorBz3
import Derived.Test.YtadhpkopkkjmfaaGreatDoorBz2
import Derived.Laws.AppendOwnNone
import Derived.ProofKit
import Derived.LaidLaws
import Derived.LaidMore
import Derived.LaidSub
import Derived.LaidHandle
import Derived.MakeChecks
set_option maxHeartbeats 8000000
set_option maxRecDepth 100000
namespace Go.Proofs.YtadhpkopkkjmfaaGreatDoor
open Go.RowKit
theorem two_any (n:Nat) (w:World) (h:n≤30) :
  Calls Tryz.prog 13 #[.int .i64 n] w fun e w'=>e=.returned (.int .i64 (2 ^ n))∧w'=w:=by
 go_enter Tryz.func13,Tryz.ntmps13
 go_wp2
 go_loop [3,4] (fun x i=>∃ k:Nat,k≤n∧i=.int .i64 k∧x=.int .i64 (2 ^ k)) (fun _ i=>n - (intOf i).toNat)
 case atStart=>exact ⟨0,Nat.zero_le _,rfl,rfl⟩
 case round =>
  obtain ⟨k,hk,rfl,rfl⟩:=hrel
  have hp:=pow_le30 (n:=k) (by omega)
  have hs:Hid ((2:Int) ^ (k+1)=2 * 2 ^ k):=by unfold Hid; rw [Int.pow_succ]; omega
  by_cases hlt:k<n
  ·go_wp2
   go_round
   case rel=>exact ⟨k+1,by omega,by go_num,val_int hs.out.symm⟩
   case measure=>simp [intOf]; omega
  ·go_wp2
   go_ret
   exact ⟨ret_int (by rw [show k=n by omega]),rfl⟩
theorem everyone_any (a:Option Addr) (len cap:Nat) (w:World) (h:len≤30) :
  Calls Tryz.prog 211 #[.slice a len cap] w fun e w'=>e=.returned (.int .i64 (2 ^ len - 1))∧w'=w:=by
 have hp:=pow_le30 h
 go_enter Tryz.func211,Tryz.ntmps211
 go_wp2
 go_ret
 exact ⟨ret_int (by omega),rfl⟩
theorem scale1_any (p:Addr) (b off cap:Nat) (zs:List Int) (set:Int) (w:World) (hl:zs.length≤7) (hok:okTo zs zs.length) (h0:0≤set) (h1:set<128)
  (hp:w.cell? p=some (.slice (some ⟨b,off,none⟩) zs.length cap)) (hc:∀ i,i<zs.length→w.cell? ⟨b,off+i,none⟩=some (.int .i64 (zs.getD i 0))) :
  Calls Tryz.prog 215 #[.int .i64 set,.pointer (some p)] w fun e w'=>e=.returned (.int .i64 (sumTo zs set zs.length))∧w'=w:=by
 go_enter Tryz.func215,Tryz.ntmps215
 go_wp2
 go_loop [4,9] (fun x i=>∃ k:Nat,k≤zs.length∧i=.int .i64 k∧x=.int .i64 (sumTo zs set k)) (fun _ i=>zs.length - (intOf i).toNat)
 case atStart=>exact ⟨0,Nat.zero_le _,rfl,rfl⟩
 case round =>
  obtain ⟨k,hk,rfl,rfl⟩:=hrel
  by_cases hlt:k<zs.length
  ·have hck:=hc k hlt
   have hbd:=sumTo_bd set (k:=k) (zs:=zs) (fun i hi=>hok i (by omega))
   have hpb:=psum_bd (k:=k) (zs:=zs) (fun i hi=>hok i (by omega))
   have hz:=hok k hlt
   have hbit:Hid ((bits BinOp.and IntKind.i64 (set / 2 ^ k) 1 == 1)=bit set k):=bit_and k h0 (by omega)
   have hS:Hid (sumTo zs set (k+1)=sumTo zs set k+if bit set k then zs.getD k 0 else 0):=rfl
   rw [getD_lt zs k hlt] at hz
   go_wp2
   all_goals
    go_round
    case rel=>exact ⟨k+1,by omega,by go_num,val_int (by rw [hS.out,← hbit.out]; simp [*])⟩
    case measure=>simp [intOf]; omega
  ·go_wp2
   go_ret
   exact ⟨ret_int (by rw [show k=zs.length by omega]),rfl⟩
theorem scale_any (a:Option Addr) (len cap:Nat) (w:World) :
  Calls Tryz.prog 212 #[.slice a len cap] w fun e w'=>e=.returned (.func (.func 215) #[] #[.pointer (some ⟨w.heap.size,0,none⟩)])∧w'=w.alloc (.cells #[.slice a len cap] 22):=by
 have hmf:∀ (fn:Fn) (first cap:Array Value) (w:World),(Instr.makeFunc fn first cap).run Tryz.prog w=.ok (.func fn first cap) w:=fun _ _ _ _=>rfl
 go_enter Tryz.func212,Tryz.ntmps212
 go_wp2
 go_ret
 exact ⟨rfl,rfl⟩
theorem quorum_any (b off cap:Nat) (zs:List Int) (w:World) (hl:zs.length≤7) (hok:okTo zs zs.length)
  (hc:∀ i,i<zs.length→w.cell? ⟨b,off+i,none⟩=some (.int .i64 (zs.getD i 0))) :
  Calls Tryz.prog 207 #[.slice (some ⟨b,off,none⟩) zs.length cap] w fun e w'=>e=.returned (.func (.func 213) #[] #[.pointer (some ⟨w.heap.size+1,0,none⟩),.pointer (some ⟨w.heap.size+2,0,none⟩)]) ∧
   w'=(((w.alloc (.cells #[.slice (some ⟨b,off,none⟩) zs.length cap] 22)).alloc (.cells #[.func (.func 215) #[] #[.pointer (some ⟨w.heap.size,0,none⟩)]] 25)).alloc (.cells #[.int .i64 (tot zs)] 3)).drew:=by
 have hmf:∀ (fn:Fn) (first cap:Array Value) (w:World),(Instr.makeFunc fn first cap).run Tryz.prog w=.ok (.func fn first cap) w:=fun _ _ _ _=>rfl
 have hp:=pow_le7 hl
 have hall:Hid (sumTo zs (2 ^ zs.length - 1) zs.length=tot zs):=sumTo_all zs (Nat.le_refl _)
 have hcw:∀ (wx:World),Below w.heap.size w wx→∀ i,i<zs.length→wx.cell? ⟨b,off+i,none⟩=some (.int .i64 (zs.getD i 0)):=fun wx hb i hi=>cell_later hb (hc i hi)
 clear hc
 go_enter Tryz.func207,Tryz.ntmps207
 go_wp2_with (go_at_call 212; refine (scale_any _ _ _ _).mono ?_; rintro e w' ⟨rfl,rfl⟩)
 go_region_held3 (fun w'=>w'.cell? ⟨w.heap.size+1,0,none⟩=some (.func (.func 215) #[] #[.pointer (some ⟨w.heap.size,0,none⟩)])) (go_keep)
  (first|(go_at_call 211; refine (everyone_any _ _ _ _ (by omega)).mono ?_; rintro e w' ⟨rfl,rfl⟩)|(go_at_call 215; refine (scale1_any ⟨w.heap.size,0,none⟩ b off cap zs _ _ hl hok (by omega) (by omega) (by first|(simp; done)|exact cell_alloc _ (by simp)) (fun i hi=>hcw _ (by repeat (first|exact Below.refl _ _|refine Below.drew ?_|refine Below.alloc ?_ (by simp; try omega) _)) i hi)).mono ?_; rw [hall.out]; rintro e w' ⟨rfl,rfl⟩))
 all_goals go_wp2
 all_goals go_ret
 all_goals exact ⟨rfl,rfl⟩
theorem quorum1_any (p q r:Addr) (b off cap:Nat) (zs:List Int) (set:Int) (w:World) (hl:zs.length≤7) (hok:okTo zs zs.length) (h0:0≤set) (h1:set<128)
  (hp:w.cell? p=some (.func (.func 215) #[] #[.pointer (some r)])) (hq:w.cell? q=some (.int .i64 (tot zs)))
  (hr:w.cell? r=some (.slice (some ⟨b,off,none⟩) zs.length cap)) (hc:∀ i,i<zs.length→w.cell? ⟨b,off+i,none⟩=some (.int .i64 (zs.getD i 0))) :
  Calls Tryz.prog 213 #[.int .i64 set,.pointer (some p),.pointer (some q)] w fun e w'=>e=.returned (.bool (enoughB zs set))∧∃ n,w'=w.drewN n:=by
 have hbd:=sumTo_bd set (k:=zs.length) (zs:=zs) hok
 have hpb:=psum_bd (k:=zs.length) (zs:=zs) hok
 go_enter Tryz.func213,Tryz.ntmps213
 go_wp2_with fail
 go_quiet ((go_at_call 215; exact Calls.quiet_of_same (scale1_any r b off cap zs set _ hl hok h0 h1 (by first|exact hr|simpa using hr) (fun i hi=>by first|exact hc i hi|simpa using hc i hi))))
 go_wp2
 go_ret
 exact ⟨rfl,_,rfl⟩
def gW:Nat→Nat
 | 1=>3
 | 2=>4
 | _=>1
def Held3 (w:World) (A:Nat→Addr):Prop:=∀ i,1≤i→i≤3→w.cell? ⟨gW i,0,none⟩=some (.iface 276 (.pointer (some (A i))))
theorem check_shape (A:Nat→Addr) (a:Option Addr) (len cap:Nat) (w:World) (hm:len≤maxLen) (h:len<1 ∨ 7<len) (hE:Held3 w A) :
  Calls Tryz.prog 48 #[.slice a len cap] w fun e w'=>e=.returned (ev A 3)∧w'=w:=by
 have h2:w.cell? ⟨4,0,none⟩=some (.iface 276 (.pointer (some (A 2)))):=hE 2 (by omega) (by omega)
 unfold maxLen at hm
 rcases h with h|h
 ·have:len=0:=by omega
  subst this
  go_enter Tryz.func48,Tryz.ntmps48
  go_wp2
  go_ret
  exact ⟨rfl,rfl⟩
 ·go_enter Tryz.func48,Tryz.ntmps48
  go_wp2
  go_ret
  exact ⟨rfl,rfl⟩
theorem check_in (A:Nat→Addr) (b off cap:Nat) (zs:List Int) (w:World) (h:¬ (zs.length<1 ∨ 7<zs.length)) (hE:Held3 w A)
  (hc:∀ i,i<zs.length→w.cell? ⟨b,off+i,none⟩=some (.int .i64 (zs.getD i 0))) :
  Calls Tryz.prog 48 #[.slice (some ⟨b,off,none⟩) zs.length cap] w fun e w'=>e=.returned (ev A (errW zs))∧w'=w:=by
 have h1:w.cell? ⟨3,0,none⟩=some (.iface 276 (.pointer (some (A 1)))):=hE 1 (by omega) (by omega)
 have h3:w.cell? ⟨1,0,none⟩=some (.iface 276 (.pointer (some (A 3)))):=hE 3 (by omega) (by omega)
 have hB:∀ k,k<zs.length→(zs.getD k 0<0 ∨ 1000<zs.getD k 0)→Hid (ev A (errW zs)=.iface 276 (.pointer (some (A 1)))):=fun k hk hb=>by unfold Hid; rw [errW_bound h hk hb]; rfl
 have hN:okTo zs zs.length→tot zs=0→Hid (ev A (errW zs)=.iface 276 (.pointer (some (A 3)))):=fun g e=>by unfold Hid; rw [errW_ok h g,if_pos e]; rfl
 have hZ:okTo zs zs.length→¬ tot zs=0→Hid (ev A (errW zs)=.nilIface):=fun g e=>by unfold Hid; rw [errW_ok h g,if_neg e]; rfl
 have hlo:¬ zs.length<1:=fun g=>h (.inl g)
 have hhi:¬ 7<zs.length:=fun g=>h (.inr g)
 clear h
 go_enter Tryz.func48,Tryz.ntmps48
 go_wp2
 go_loop [3,17] (fun x i=>∃ k:Nat,k≤zs.length∧okTo zs k∧i=.int .i64 k∧x=.int .i64 (psum zs k)) (fun _ i=>zs.length - (intOf i).toNat)
 case atStart=>exact ⟨0,Nat.zero_le _,fun i hi=>absurd hi (by omega),rfl,rfl⟩
 case round =>
  obtain ⟨k,hk,hok,rfl,rfl⟩:=hrel
  have hpb:=psum_bd hok
  by_cases hlt:k<zs.length
  ·have hck:=hc k hlt
   have hB':=hB k hlt
   have hS:Hid (psum zs (k+1)=psum zs k+zs.getD k 0):=rfl
   have hO:0≤zs.getD k 0→zs.getD k 0≤1000→okTo zs (k+1):=okTo_succ hok
   clear hB hN hZ hc
   rw [getD_lt zs k hlt] at hB' hO hck
   go_wp2
   ·go_ret
    exact ⟨congrArg Ending.returned (hB' (by omega)).out.symm,rfl⟩
   ·go_round
    case rel=>exact ⟨k+1,by omega,hO (by omega) (by omega),by go_num,val_int (by rw [hS.out,getD_lt zs k hlt])⟩
    case measure=>simp [intOf]; omega
   ·go_ret
    exact ⟨congrArg Ending.returned (hB' (by omega)).out.symm,rfl⟩
  ·have hke:k=zs.length:=by omega
   subst hke
   have hN':=hN hok
   have hZ':=hZ hok
   clear hB hN hZ hc
   go_wp2
   ·have hz:(psum zs zs.length == 0)=true:=by assumption
    go_ret
    exact ⟨congrArg Ending.returned (hN' (show psum zs zs.length=0 by simpa using hz)).out.symm,rfl⟩
   ·have hz:(psum zs zs.length == 0)=false:=by assumption
    go_ret
    exact ⟨congrArg Ending.returned (hZ' (show ¬ psum zs zs.length=0 by simpa using hz)).out.symm,rfl⟩
theorem checkSet_w (A:Nat→Addr) (a:Option Addr) (len cap c:Nat) (set:Int) (w:World)
  (hck:Calls Tryz.prog 48 #[.slice a len cap] w fun e w'=>e=.returned (ev A (c+1))∧w'=w) :
  Calls Tryz.prog 206 #[.slice a len cap,.int .i64 set] w fun e w'=>e=.returned (ev A (c+1))∧w'=w:=by
 have H:Hid (Calls Tryz.prog 48 #[.slice a len cap] w fun e w'=>e=.returned (ev A (c+1))∧w'=w):=hck
 clear hck
 have he:ev A (c+1)=.iface 276 (.pointer (some (A c))):=rfl
 rw [he] at H ⊢
 clear he
 go_enter Tryz.func206,Tryz.ntmps206
 go_wp2_with (go_at_call 48; refine H.out.mono ?_; rintro e w' ⟨rfl,rfl⟩)
 go_ret
 exact ⟨rfl,rfl⟩
theorem checkSet_s (A:Nat→Addr) (a:Option Addr) (len cap:Nat) (set:Int) (w:World) (hl:len≤7) (hE:Held3 w A)
  (hck:Calls Tryz.prog 48 #[.slice a len cap] w fun e w'=>e=.returned .nilIface∧w'=w) :
  Calls Tryz.prog 206 #[.slice a len cap,.int .i64 set] w fun e w'=>e=.returned (ev A (if set<0 ∨ 2 ^ len≤set then 2 else 0))∧w'=w:=by
 have H:Hid (Calls Tryz.prog 48 #[.slice a len cap] w fun e w'=>e=.returned .nilIface∧w'=w):=hck
 have h1:w.cell? ⟨3,0,none⟩=some (.iface 276 (.pointer (some (A 1)))):=hE 1 (by omega) (by omega)
 have hp:=pow_le7 hl
 clear hck
 by_cases c1:set<0
 ·rw [if_pos (Or.inl c1)]
  go_enter Tryz.func206,Tryz.ntmps206
  go_wp2_with (first|(go_at_call 48; refine H.out.mono ?_; rintro e w' ⟨rfl,rfl⟩)|(go_at_call 211; refine (everyone_any _ _ _ _ (by omega)).mono ?_; rintro e w' ⟨rfl,rfl⟩))
  go_ret
  exact ⟨rfl,rfl⟩
 ·by_cases c2:2 ^ len≤set
  ·rw [if_pos (Or.inr c2)]
   go_enter Tryz.func206,Tryz.ntmps206
   go_wp2_with (first|(go_at_call 48; refine H.out.mono ?_; rintro e w' ⟨rfl,rfl⟩)|(go_at_call 211; refine (everyone_any _ _ _ _ (by omega)).mono ?_; rintro e w' ⟨rfl,rfl⟩))
   go_ret
   exact ⟨rfl,rfl⟩
  ·rw [if_neg (by omega)]
   go_enter Tryz.func206,Tryz.ntmps206
   go_wp2_with (first|(go_at_call 48; refine H.out.mono ?_; rintro e w' ⟨rfl,rfl⟩)|(go_at_call 211; refine (everyone_any _ _ _ _ (by omega)).mono ?_; rintro e w' ⟨rfl,rfl⟩))
   go_ret
   exact ⟨rfl,rfl⟩
def IsSl (w:World) (v:Value) (zs:List Int):Prop :=
 ∃ a cap,v=.slice a zs.length cap∧zs.length≤maxLen∧(a=none→cap=0)∧(0<zs.length→∃ b off,a=some ⟨b,off,none⟩∧∀ i,i<zs.length→w.cell? ⟨b,off+i,none⟩=some (.int .i64 (zs.getD i 0)))
theorem IsSl.later {w w':World} {v:Value} {zs:List Int} (h:IsSl w v zs) (hb:Below w.heap.size w w'):IsSl w' v zs:=by
 obtain ⟨a,cap,hv,hm,hn,hc⟩:=h
 refine ⟨a,cap,hv,hm,hn,fun hl=>?_⟩
 obtain ⟨b,off,ha,hcc⟩:=hc hl
 exact ⟨b,off,ha,fun i hi=>cell_later hb (hcc i hi)⟩
theorem Held3.later {w w':World} {A:Nat→Addr} (h:Held3 w A) (hb:Below w.heap.size w w'):Held3 w' A:=fun i h1 h3=>cell_later hb (h i h1 h3)
theorem check_any (A:Nat→Addr) (v:Value) (zs:List Int) (w:World) (hv:IsSl w v zs) (hE:Held3 w A) :
  Calls Tryz.prog 48 #[v] w fun e w'=>e=.returned (ev A (errW zs))∧w'=w:=by
 obtain ⟨a,cap,rfl,hm,-,hc⟩:=hv
 by_cases h:zs.length<1 ∨ 7<zs.length
 ·rw [errW_shape h]; exact check_shape A a zs.length cap w hm h hE
 ·obtain ⟨b,off,rfl,hcc⟩:=hc (by omega)
  exact check_in A b off cap zs w h hE hcc
theorem checkSet_any (A:Nat→Addr) (v:Value) (zs:List Int) (set:Int) (w:World) (hv:IsSl w v zs) (hE:Held3 w A) :
  Calls Tryz.prog 206 #[v,.int .i64 set] w fun e w'=>e=.returned (ev A (errS zs set))∧w'=w:=by
 have hck:=check_any A v zs w hv hE
 obtain ⟨a,cap,rfl,hm,-,hc⟩:=hv
 by_cases h:errW zs=0
 ·rw [h] at hck
  have:=checkSet_s A a zs.length cap set w (errW_zero h).2.1 hE hck
  unfold errS; rw [if_pos h]; exact this
 ·obtain ⟨c,hcc⟩:∃ c,errW zs=c+1:=⟨errW zs - 1,by omega⟩
  unfold errS; rw [if_neg h,hcc]; rw [hcc] at hck
  exact checkSet_w A a zs.length cap c set w hck
def QF (w:World) (p q:Addr) (zs:List Int):Prop :=
 ∃ (r:Addr) (b off cap:Nat),w.cell? p=some (.func (.func 215) #[] #[.pointer (some r)])∧w.cell? q=some (.int .i64 (tot zs))∧w.cell? r=some (.slice (some ⟨b,off,none⟩) zs.length cap) ∧
  ∀ i,i<zs.length→w.cell? ⟨b,off+i,none⟩=some (.int .i64 (zs.getD i 0))
theorem QF.later {w w':World} {p q:Addr} {zs:List Int} (h:QF w p q zs) (hb:Below w.heap.size w w'):QF w' p q zs:=by
 obtain ⟨r,b,off,cap,h1,h2,h3,h4⟩:=h
 exact ⟨r,b,off,cap,cell_later hb h1,cell_later hb h2,cell_later hb h3,fun i hi=>cell_later hb (h4 i hi)⟩
theorem quorum_q (b off cap:Nat) (zs:List Int) (w:World) (hl:zs.length≤7) (hok:okTo zs zs.length)
  (hc:∀ i,i<zs.length→w.cell? ⟨b,off+i,none⟩=some (.int .i64 (zs.getD i 0))) :
  Calls Tryz.prog 207 #[.slice (some ⟨b,off,none⟩) zs.length cap] w fun e w'=>∃ p q:Addr,e=.returned (.func (.func 213) #[] #[.pointer (some p),.pointer (some q)])∧QF w' p q zs∧Below w.heap.size w w':=by
 refine (quorum_any b off cap zs w hl hok hc).mono ?_
 rintro e w' ⟨rfl,rfl⟩
 have hb:Below w.heap.size w (((w.alloc (.cells #[.slice (some ⟨b,off,none⟩) zs.length cap] 22)).alloc (.cells #[.func (.func 215) #[] #[.pointer (some ⟨w.heap.size,0,none⟩)]] 25)).alloc (.cells #[.int .i64 (tot zs)] 3)).drew :=
  ((((Below.refl _ _).alloc (Nat.le_refl _) _).alloc (by simp) _).alloc (by simp; omega) _).drew
 refine ⟨_,_,rfl,⟨⟨w.heap.size,0,none⟩,b,off,cap,?_,?_,?_,fun i hi=>cell_later hb (hc i hi)⟩,hb⟩
 ·simp only [World.cell?_drew]; exact cell_alloc _ (by simp)
 ·simp only [World.cell?_drew]; rw [World.cell?_alloc_at _ _ _ _ (by simp)]; rfl
 ·simp only [World.cell?_drew]; exact cell_alloc _ (cell_alloc _ (by simp))
theorem quorum1_q (p q:Addr) (zs:List Int) (set:Int) (w:World) (hl:zs.length≤7) (hok:okTo zs zs.length) (h0:0≤set) (h1:set<128) (hq:QF w p q zs) :
  Calls Tryz.prog 213 #[.int .i64 set,.pointer (some p),.pointer (some q)] w fun e w'=>e=.returned (.bool (enoughB zs set))∧Below w.heap.size w w':=by
 obtain ⟨r,b,off,cap,g1,g2,g3,g4⟩:=hq
 refine (quorum1_any p q r b off cap zs set w hl hok h0 h1 g1 g2 g3 g4).mono ?_
 rintro e w' ⟨rfl,n,rfl⟩
 exact ⟨rfl,below_drewN (Below.refl _ _) n⟩
theorem enough_ok (A:Nat→Addr) (v:Value) (zs:List Int) (set:Int) (w:World) (hv:IsSl w v zs) (hE:Held3 w A) (hc:errS zs set=0) :
  Calls Tryz.prog 189 #[v,.int .i64 set] w fun e w'=>e=.returned (.tuple #[.bool (enoughB zs set),.nilIface])∧Below w.heap.size w w':=by
 have hck:=checkSet_any A v zs set w hv hE
 rw [hc] at hck
 have H:Hid (Calls Tryz.prog 206 #[v,.int .i64 set] w fun e w'=>e=.returned .nilIface∧w'=w):=hck
 obtain ⟨h1,h2,h3⟩:=errS_zero hc
 obtain ⟨h4,h5,h6,-⟩:=errW_zero h1
 have hp:=pow_le7 h5
 clear hck hE hc
 obtain ⟨a,cap,rfl,-,-,hcc⟩:=hv
 obtain ⟨b,off,rfl,hcell⟩:=hcc (by omega)
 clear hcc
 have HC:=hid hcell
 clear hcell h1
 go_enter Tryz.func189,Tryz.ntmps189
 go_wp2_with (first|(go_at_call 206; refine H.out.mono ?_; rintro e w' ⟨rfl,rfl⟩)|(go_at_call 207; refine (quorum_q b off cap zs _ h5 h6 HC.out).mono ?_; rintro e w1 ⟨p,q,rfl,hQ,hb⟩)|(go_at_call 213; refine (quorum1_q p q zs set _ h5 h6 h2 (by omega) hQ).mono ?_; rintro e w2 ⟨rfl,hb2⟩))
 go_ret2
 exact ⟨rfl,hb.trans (hb2.mono hb.size)⟩
theorem Tryz.infoInt:(Tryz.prog.info? 3).map (fun i=>(i.zero,i.size,i.bytes))=some (some (.int .i64 0),1,8):=by kernel_rfl
theorem IsSl.owned {w:World} {base:Nat} {v:Value} {zs:List Int} (h:w.ownsRow base 3 1 v zs.length (zs.map (Value.int .i64))) (hm:zs.length≤maxLen):IsSl w v zs:=by
 have hc:=h
 rcases h.2 with ⟨rfl,h0⟩|⟨g,cap,cur,rfl,hb,hg,hle,hcap,hsz,htk⟩
 ·exact ⟨none,0,by rw [h0],hm,fun _=>rfl,fun hl=>by omega⟩
 ·refine ⟨_,cap,rfl,hm,(fun h=>by cases h),fun _=>⟨g,0,rfl,fun i hi=>?_⟩⟩
  have:=hc.cellAt i (by omega)
  rw [Nat.zero_add,this]
  simp [hi]
theorem ownInts_own (v:Value) (zs:List Int) (w:World) (hv:IsSl w v zs) (hl:zs.length≤30) :
  Calls Tryz.prog 15 #[v] w fun e w'=>∃ v',e=.returned v'∧w'.ownsRow w.heap.size 3 1 v' zs.length (zs.map (Value.int .i64))∧Below w.heap.size w w':=by
 obtain ⟨i0,hi,hz0,hz1,hz2⟩:=info_parts Tryz.infoInt
 obtain ⟨a,cap,rfl,hm,hn,hc⟩:=hv
 have HM:=hid hm
 cases a with
 | none =>
  have hcap:=hn rfl
  subst hcap
  have hz:zs=[]:=by
   cases zs with
   | nil=>rfl
   | cons x r=>obtain ⟨b,off,h,_⟩:=hc (by simp); cases h
  subst hz
  clear hn hc
  go_enter Tryz.func15,Tryz.ntmps15
  go_wp2_with (at_builtin; refine wpList_append_own_none rfl _ _ 22 rfl w.heap.size 3 i0 1 Tryz.underlying22 hi _ 0 [] rfl (World.ownsRow_nil _ _ _ _) rfl ?_)
  go_ret
  exact ⟨_,rfl,World.ownsRow_nil _ _ _ _,Below.refl _ _⟩
 | some ad =>
  have HC:Hid (∀ j u,(zs.map (Value.int .i64))[j]? = some u→w.cell? (ad.add j)=some u):=by
   intro j u hj
   rw [List.getElem?_map] at hj
   rcases Nat.lt_or_ge j zs.length with h|h
   ·obtain ⟨b,off,e,hcc⟩:=hc (by omega)
    have e':=Option.some.inj e
    subst e'
    rw [List.getElem?_eq_getElem h] at hj
    simp at hj
    subst hj
    have:=hcc j h
    rw [getD_lt zs j h] at this
    rw [addr_add]; exact this
   ·rw [List.getElem?_eq_none h] at hj; cases hj
  clear hc hn
  have HO:Hid (∀ u∈zs.map (Value.int .i64),u.oneCell'=true):=by
   intro u hu
   obtain ⟨n,-,rfl⟩:=List.mem_map.1 hu
   rfl
  go_enter Tryz.func15,Tryz.ntmps15
  go_wp2_with (at_builtin; refine wpList_append_own _ rfl _ _ 22 rfl w.heap.size 3 i0 (.int .i64 0) 1 8 Tryz.underlying22 hi hz0 hz1 hz2 rfl (by decide) _ 0 [] rfl (World.ownsRow_nil _ _ _ _) ad zs.length cap (zs.map (Value.int .i64)) rfl (by simp) HC.out HO.out (by have:=HM.out; omega) (by omega) (Nat.le_refl _) ?_)
  intro v' w1 hown hgrow _
  have ho2:w1.ownsRow w.heap.size 3 1 v' zs.length (zs.map (Value.int .i64)):=by simpa using hown
  clear hown
  go_wp2
  go_ret
  exact ⟨_,rfl,ho2,(Below.refl _ _).grown hgrow (Nat.le_refl _) (fun k h=>by cases h)⟩
theorem ownInts_any (v:Value) (zs:List Int) (w:World) (hv:IsSl w v zs) (hl:zs.length≤30) :
  Calls Tryz.prog 15 #[v] w fun e w'=>∃ v',e=.returned v'∧IsSl w' v' zs∧Below w.heap.size w w':=by
 refine (ownInts_own v zs w hv hl).mono ?_
 rintro e w' ⟨v',rfl,ho,hb⟩
 exact ⟨v',rfl,IsSl.owned ho (by unfold maxLen; omega),hb⟩
theorem IsSl.lit (w:World) (zs:List Int) (hm:zs.length≤maxLen):IsSl (w.alloc (.cells (zs.map (Value.int .i64)).toArray 3)) (.slice (some ⟨w.heap.size,0,none⟩) zs.length zs.length) zs:=by
 refine ⟨_,_,rfl,hm,(fun h=>by cases h),fun _=>⟨_,_,rfl,fun i hi=>?_⟩⟩
 rw [World.cell?_alloc_at _ _ _ _ rfl]
 simp [hi]
theorem rErr_shape (a:Option Addr) (len cap:Nat) (w:World) (hm:len≤maxLen) (h:len<1 ∨ 7<len) :
  Calls Tryz.prog 12 #[.slice a len cap] w fun e w'=>e=.returned (.int .i64 3)∧w'=w:=by
 unfold maxLen at hm
 rcases h with h|h
 ·have:len=0:=by omega
  subst this
  go_enter Tryz.func12,Tryz.ntmps12
  go_wp2
  go_ret
  exact ⟨rfl,rfl⟩
 ·go_enter Tryz.func12,Tryz.ntmps12
  go_wp2
  go_ret
  exact ⟨rfl,rfl⟩
theorem rErr_in (b off cap:Nat) (zs:List Int) (w:World) (h:¬ (zs.length<1 ∨ 7<zs.length))
  (hc:∀ i,i<zs.length→w.cell? ⟨b,off+i,none⟩=some (.int .i64 (zs.getD i 0))) :
  Calls Tryz.prog 12 #[.slice (some ⟨b,off,none⟩) zs.length cap] w fun e w'=>e=.returned (.int .i64 (errW zs))∧w'=w:=by
 have hB:∀ k,k<zs.length→(zs.getD k 0<0 ∨ 1000<zs.getD k 0)→Hid ((errW zs:Int)=2):=fun k hk hb=>by unfold Hid; rw [errW_bound h hk hb]; rfl
 have hN:okTo zs zs.length→tot zs=0→Hid ((errW zs:Int)=4):=fun g e=>by unfold Hid; rw [errW_ok h g,if_pos e]; rfl
 have hZ:okTo zs zs.length→¬ tot zs=0→Hid ((errW zs:Int)=0):=fun g e=>by unfold Hid; rw [errW_ok h g,if_neg e]; rfl
 have hlo:¬ zs.length<1:=fun g=>h (.inl g)
 have hhi:¬ 7<zs.length:=fun g=>h (.inr g)
 clear h
 go_enter Tryz.func12,Tryz.ntmps12
 go_wp2
 go_loop [3,4] (fun x i=>∃ k:Nat,k≤zs.length∧okTo zs k∧i=.int .i64 k∧x=.int .i64 (psum zs k)) (fun _ i=>zs.length - (intOf i).toNat)
 case atStart=>exact ⟨0,Nat.zero_le _,fun i hi=>absurd hi (by omega),rfl,rfl⟩
 case round =>
  obtain ⟨k,hk,hok,rfl,rfl⟩:=hrel
  have hpb:=psum_bd hok
  by_cases hlt:k<zs.length
  ·have hck:=hc k hlt
   have hB':=hB k hlt
   have hS:Hid (psum zs (k+1)=psum zs k+zs.getD k 0):=rfl
   have hO:0≤zs.getD k 0→zs.getD k 0≤1000→okTo zs (k+1):=okTo_succ hok
   clear hB hN hZ hc
   rw [getD_lt zs k hlt] at hB' hO hck
   go_wp2
   ·go_ret
    exact ⟨ret_int (hB' (by omega)).out.symm,rfl⟩
   ·go_round
    case rel=>exact ⟨k+1,by omega,hO (by omega) (by omega),by go_num,val_int (by rw [hS.out,getD_lt zs k hlt])⟩
    case measure=>simp [intOf]; omega
   ·go_ret
    exact ⟨ret_int (hB' (by omega)).out.symm,rfl⟩
  ·have hke:k=zs.length:=by omega
   subst hke
   have hN':=hN hok
   have hZ':=hZ hok
   clear hB hN hZ hc
   go_wp2
   ·have hz:(psum zs zs.length == 0)=true:=by assumption
    go_ret
    exact ⟨ret_int (hN' (show psum zs zs.length=0 by simpa using hz)).out.symm,rfl⟩
   ·have hz:(psum zs zs.length == 0)=false:=by assumption
    go_ret
    exact ⟨ret_int (hZ' (show ¬ psum zs zs.length=0 by simpa using hz)).out.symm,rfl⟩
theorem rErr_any (v:Value) (zs:List Int) (w:World) (hv:IsSl w v zs) :
  Calls Tryz.prog 12 #[v] w fun e w'=>e=.returned (.int .i64 (errW zs))∧w'=w:=by
 obtain ⟨a,cap,rfl,hm,-,hc⟩:=hv
 by_cases h:zs.length<1 ∨ 7<zs.length
 ·rw [errW_shape h]; exact rErr_shape a zs.length cap w hm h
 ·obtain ⟨b,off,rfl,hcc⟩:=hc (by omega)
  exact rErr_in b off cap zs w h hcc
theorem rHas_any (s:Int) (i:Nat) (w:World) (hi:i≤30) (h0:0≤s) (h1:s≤1073741824) :
  Calls Tryz.prog 16 #[.int .i64 s,.int .i64 i] w fun e w'=>e=.returned (.bool (bit s i))∧w'=w:=by
 have hp:=pow_le30 hi
 have hb:=hid (bit_has i h0)
 go_enter Tryz.func16,Tryz.ntmps16
 go_wp2_with (go_at_call 13; refine (two_any i _ hi).mono ?_; rintro e w' ⟨rfl,rfl⟩)
 go_ret
 exact ⟨congrArg (fun x=>Ending.returned (.bool x)) (by rw [Int.tmod_eq_emod_of_nonneg (Int.ediv_nonneg h0 (by omega))]; exact hb.out),rfl⟩
theorem rHas_is (s:Int) (i:Nat) (x:Bool) (w:World) (hi:i≤30) (h0:0≤s) (h1:s≤1073741824) (hx:bit s i=x) :
  Calls Tryz.prog 16 #[.int .i64 s,.int .i64 i] w fun e w'=>e=.returned (.bool x)∧w'=w:=by
 subst hx; exact rHas_any s i w hi h0 h1
theorem rSum_any (b off cap:Nat) (zs:List Int) (s:Int) (w:World) (hl:zs.length≤7) (hok:okTo zs zs.length) (h0:0≤s) (h1:s≤1073741824)
  (hc:∀ i,i<zs.length→w.cell? ⟨b,off+i,none⟩=some (.int .i64 (zs.getD i 0))) :
  Calls Tryz.prog 74 #[.slice (some ⟨b,off,none⟩) zs.length cap,.int .i64 s] w fun e w'=>e=.returned (.int .i64 (sumTo zs s zs.length))∧w'=w:=by
 have HC:=hid hc
 clear hc
 go_enter Tryz.func74,Tryz.ntmps74
 go_wp2
 go_loop [5,6] (fun x i=>∃ k:Nat,k≤zs.length∧i=.int .i64 k∧x=.int .i64 (sumTo zs s k)) (fun _ i=>zs.length - (intOf i).toNat)
 case atStart=>exact ⟨0,Nat.zero_le _,rfl,rfl⟩
 case round =>
  obtain ⟨k,hk,rfl,rfl⟩:=hrel
  by_cases hlt:k<zs.length
  ·have hck:=HC.out k hlt
   have hbd:=sumTo_bd s (k:=k) (zs:=zs) (fun i hi=>hok i (by omega))
   have hpb:=psum_bd (k:=k) (zs:=zs) (fun i hi=>hok i (by omega))
   have hz:=hok k hlt
   have hS:Hid (sumTo zs s (k+1)=sumTo zs s k+if bit s k then zs.getD k 0 else 0):=rfl
   rw [getD_lt zs k hlt] at hz
   cases hx:bit s k with
   | false =>
    rw [hx] at hS
    have HX:=hid hx
    clear hx
    go_wp2_with (go_at_call 16; refine (rHas_is s k false _ (by omega) h0 h1 HX.out).mono ?_; rintro e w' ⟨rfl,rfl⟩)
    go_round
    case rel=>exact ⟨k+1,by omega,by go_num,val_int (by rw [hS.out]; simp)⟩
    case measure=>simp [intOf]; omega
   | true =>
    rw [hx] at hS
    have HX:=hid hx
    clear hx
    go_wp2_with (go_at_call 16; refine (rHas_is s k true _ (by omega) h0 h1 HX.out).mono ?_; rintro e w' ⟨rfl,rfl⟩)
    go_round
    case rel=>exact ⟨k+1,by omega,by go_num,val_int (by rw [hS.out,getD_lt zs k hlt]; simp)⟩
    case measure=>simp [intOf]; omega
  ·go_wp2
   go_ret
   exact ⟨ret_int (by rw [show k=zs.length by omega]),rfl⟩
theorem rEnough_any (b off cap:Nat) (zs:List Int) (s:Int) (w:World) (hl:zs.length≤7) (hok:okTo zs zs.length) (h0:0≤s) (h1:s≤1073741824)
  (hc:∀ i,i<zs.length→w.cell? ⟨b,off+i,none⟩=some (.int .i64 (zs.getD i 0))) :
  Calls Tryz.prog 32 #[.slice (some ⟨b,off,none⟩) zs.length cap,.int .i64 s] w fun e w'=>e=.returned (.bool (enoughB zs s))∧w'=w:=by
 have HC:=hid hc
 clear hc
 have hp:=pow_le7 hl
 have hbd:=sumTo_bd s (k:=zs.length) (zs:=zs) hok
 have hpb:=psum_bd (k:=zs.length) (zs:=zs) hok
 have hall:Hid (sumTo zs (2 ^ zs.length - 1) zs.length=tot zs):=sumTo_all zs (Nat.le_refl _)
 have ht:0≤tot zs∧tot zs≤1000 * zs.length:=hpb
 have hfin:=hid (enoughB_alt zs s)
 go_enter Tryz.func32,Tryz.ntmps32
 go_wp2_with fail
 refine (rSum_any b off cap zs s _ hl hok h0 h1 HC.out).mono ?_
 rintro e w1 ⟨rfl,h1'⟩
 subst h1'
 go_wp2_with fail
 refine (two_any zs.length _ (by omega)).mono ?_
 rintro e w1 ⟨rfl,h1'⟩
 subst h1'
 go_wp2_with fail
 refine (rSum_any b off cap zs (2 ^ zs.length - 1) _ hl hok (by omega) (by omega) HC.out).mono ?_
 rintro e w1 ⟨rfl,h1'⟩
 subst h1'
 rw [hall.out]
 go_wp2_with fail
 refine (rSum_any b off cap zs s _ hl hok h0 h1 HC.out).mono ?_
 rintro e w1 ⟨rfl,h1'⟩
 subst h1'
 go_wp2_with fail
 go_ret
 exact ⟨congrArg (fun x=>Ending.returned (.bool x)) hfin.out,rfl⟩
theorem rEnough_is (b off cap:Nat) (zs:List Int) (s:Int) (x:Bool) (w:World) (hl:zs.length≤7) (hok:okTo zs zs.length) (h0:0≤s) (h1:s≤1073741824)
  (hc:∀ i,i<zs.length→w.cell? ⟨b,off+i,none⟩=some (.int .i64 (zs.getD i 0))) (hx:enoughB zs s=x) :
  Calls Tryz.prog 32 #[.slice (some ⟨b,off,none⟩) zs.length cap,.int .i64 s] w fun e w'=>e=.returned (.bool x)∧w'=w:=by
 subst hx; exact rEnough_any b off cap zs s w hl hok h0 h1 hc
end Go.Proofs.YtadhpkopkkjmfaaGreatDoor
namespace Go.Proofs.YtadhpkopkkjmfaaGreatDoor
open Go.ChangeShapes Go.WideShapes Go.RowKit
theorem isSl_of_trod {H:Type} {enc:TypeId×Value→H} {W:World} {a:Option Addr} {len cap fuel:Nat} {d:DataW H} {p:List MemPlace} {sp:Nat→Bool} {held:Bool}
  (hf:DataW.trod enc Tryz.prog W 0 sp held fuel 22 (Value.slice a len cap).cells.toList=some (d,p)):∃ zs,IsSl W (.slice a len cap) zs:=by
 rcases open_ints Tryz.underlying22 Tryz.underlying3 (by kernel_rfl) hf with ⟨hcs,_⟩|⟨x,l,c,zs,hcs,_,hl,hm,hz,_,hcell,hwz⟩
 ·simp [Value.cells] at hcs
  obtain ⟨rfl,rfl,rfl⟩:=hcs
  exact ⟨[],none,0,rfl,by simp,fun _=>rfl,fun h=>by cases h⟩
 ·simp [Value.cells] at hcs
  obtain ⟨rfl,rfl,rfl⟩:=hcs
  have hzl:len≤zs.length:=by rw [hz]; split <;> omega
  have hlen:(zs.take len).length=len:=by rw [List.length_take]; omega
  refine ⟨zs.take len,some x,cap,by rw [hlen],by omega,(fun h=>by cases h),fun h0=>?_⟩
  rw [hlen] at h0
  have hx:=hcell 0 (by omega)
  have hsp:x.spot=none:=by
   cases hq:x.spot with
   | none=>rfl
   | some k=>unfold World.cell? Addr.add at hx; simp [hq] at hx; revert hx; split <;> simp
  obtain ⟨b,off,sp⟩:=x
  simp at hsp
  subst hsp
  refine ⟨b,off,rfl,fun i hi=>?_⟩
  rw [hlen] at hi
  have:=hcell i (by omega)
  have e:(⟨b,off,none⟩:Addr).add i=⟨b,off+i,none⟩:=by unfold Addr.add; split <;> simp_all
  rw [e] at this
  rw [this]
  simp [List.getD,hi]
end Go.Proofs.YtadhpkopkkjmfaaGreatDoor
