/-
  On the way to SPlaysProof: O26 O27.
-/
import Derived.Test.YtaehdgemkafinaaGreatDoorBw40
set_option maxHeartbeats 8000000
set_option maxRecDepth 100000
namespace Go.Proofs.YtaehdgemkafinaaGreatDoor
open Go.RowKit
def lformO:List Bs:=[[43],[100,100],[100,100],[100],[110],[110],[110],[100,100],[100,100],[100,110],[100],[100],[],[],[],[100,100],[100,100],[100],[]]
def fofO (s:Bs):Value:=match cmdO s with
 | none=>.tuple #[.string ⟨#[]⟩,.bool false]
 | some i=>.tuple #[.string (bB (lformO.getD i [])),.bool true]
def IsNm (s:ByteArray) (i:Nat):Prop:=∀ j,j<19→(s.toList == nameO.getD j [])=(j == i)
theorem isNm_of {s:ByteArray} {i:Nat} (h:cmdO s.data.toList=some i):IsNm s i:=fun j hj=>by
 obtain ⟨hi,hn⟩:=cmdO_lt h
 rw [Lib.toList_data]
 have hg:nameO[j]? = some (nameO.getD j []):=by
  rw [List.getD,List.getElem?_eq_getElem (show j<nameO.length from hj)]; rfl
 by_cases e:j=i
 ·subst e
  rw [hn] at hg
  rw [← Option.some.inj hg]
  simp
 ·rw [show (j == i)=false by simpa using e]
  cases hq:(s.data.toList == nameO.getD j []) with
  | false=>rfl
  | true =>
   have e2:=eq_of_beq hq
   rw [← e2] at hg
   have:=(cmdO_name hg).symm.trans h
   exact absurd (Option.some.inj this) e
theorem isNm_none {s:ByteArray} (h:cmdO s.data.toList=none):IsNm s 19:=fun j hj=>by
 rw [Lib.toList_data,show (j == 19)=false by simp; omega]
 have hg:nameO[j]? = some (nameO.getD j []):=by
  rw [List.getD,List.getElem?_eq_getElem (show j<nameO.length from hj)]; rfl
 cases hq:(s.data.toList == nameO.getD j []) with
 | false=>rfl
 | true =>
  have e2:=eq_of_beq hq
  rw [← e2] at hg
  rw [cmdO_name hg] at h; cases h
section
variable {s:ByteArray} {w:World}
theorem fof_0 (h:IsNm s 0):Calls Tryz.prog 9 #[.string s] w fun e w'=>e=.returned (.tuple #[.string ⟨#[43]⟩,.bool true])∧w'=w:=by
 have k0:(s.toList == [115,105,116,101,115])=true:=h 0 (by decide)
 have k1:(s.toList == [98,101,103,105,110])=false:=h 1 (by decide)
 have k2:(s.toList == [114,101,102,117,115,101])=false:=h 2 (by decide)
 have k3:(s.toList == [116,105,99,107])=false:=h 3 (by decide)
 have k4:(s.toList == [103,111])=false:=h 4 (by decide)
 have k5:(s.toList == [108,111,115,101])=false:=h 5 (by decide)
 have k6:(s.toList == [116,119,105,99,101])=false:=h 6 (by decide)
 have k7:(s.toList == [108,105,110,107])=false:=h 7 (by decide)
 have k8:(s.toList == [98,114,101,97,107])=false:=h 8 (by decide)
 have k9:(s.toList == [99,117,116])=false:=h 9 (by decide)
 have k10:(s.toList == [100,111,119,110])=false:=h 10 (by decide)
 have k11:(s.toList == [117,112])=false:=h 11 (by decide)
 have k12:(s.toList == [99,104,101,99,107])=false:=h 12 (by decide)
 have k13:(s.toList == [97,108,108])=false:=h 13 (by decide)
 have k14:(s.toList == [102,108,121])=false:=h 14 (by decide)
 have k15:(s.toList == [115,116,97,116,101])=false:=h 15 (by decide)
 have k16:(s.toList == [108,101,97,100])=false:=h 16 (by decide)
 have k17:(s.toList == [105,115])=false:=h 17 (by decide)
 have k18:(s.toList == [101,118,101,110,116,115])=false:=h 18 (by decide)
 clear h
 go_enter Tryz.func9,Tryz.ntmps9
 go_wp2_with fail
 go_ret2
 exact ⟨rfl,rfl⟩
theorem fof_1 (h:IsNm s 1):Calls Tryz.prog 9 #[.string s] w fun e w'=>e=.returned (.tuple #[.string ⟨#[100,100]⟩,.bool true])∧w'=w:=by
 have k0:(s.toList == [115,105,116,101,115])=false:=h 0 (by decide)
 have k1:(s.toList == [98,101,103,105,110])=true:=h 1 (by decide)
 have k2:(s.toList == [114,101,102,117,115,101])=false:=h 2 (by decide)
 have k3:(s.toList == [116,105,99,107])=false:=h 3 (by decide)
 have k4:(s.toList == [103,111])=false:=h 4 (by decide)
 have k5:(s.toList == [108,111,115,101])=false:=h 5 (by decide)
 have k6:(s.toList == [116,119,105,99,101])=false:=h 6 (by decide)
 have k7:(s.toList == [108,105,110,107])=false:=h 7 (by decide)
 have k8:(s.toList == [98,114,101,97,107])=false:=h 8 (by decide)
 have k9:(s.toList == [99,117,116])=false:=h 9 (by decide)
 have k10:(s.toList == [100,111,119,110])=false:=h 10 (by decide)
 have k11:(s.toList == [117,112])=false:=h 11 (by decide)
 have k12:(s.toList == [99,104,101,99,107])=false:=h 12 (by decide)
 have k13:(s.toList == [97,108,108])=false:=h 13 (by decide)
 have k14:(s.toList == [102,108,121])=false:=h 14 (by decide)
 have k15:(s.toList == [115,116,97,116,101])=false:=h 15 (by decide)
 have k16:(s.toList == [108,101,97,100])=false:=h 16 (by decide)
 have k17:(s.toList == [105,115])=false:=h 17 (by decide)
 have k18:(s.toList == [101,118,101,110,116,115])=false:=h 18 (by decide)
 clear h
 go_enter Tryz.func9,Tryz.ntmps9
 go_wp2_with fail
 go_ret2
 exact ⟨rfl,rfl⟩
theorem fof_2 (h:IsNm s 2):Calls Tryz.prog 9 #[.string s] w fun e w'=>e=.returned (.tuple #[.string ⟨#[100,100]⟩,.bool true])∧w'=w:=by
 have k0:(s.toList == [115,105,116,101,115])=false:=h 0 (by decide)
 have k1:(s.toList == [98,101,103,105,110])=false:=h 1 (by decide)
 have k2:(s.toList == [114,101,102,117,115,101])=true:=h 2 (by decide)
 have k3:(s.toList == [116,105,99,107])=false:=h 3 (by decide)
 have k4:(s.toList == [103,111])=false:=h 4 (by decide)
 have k5:(s.toList == [108,111,115,101])=false:=h 5 (by decide)
 have k6:(s.toList == [116,119,105,99,101])=false:=h 6 (by decide)
 have k7:(s.toList == [108,105,110,107])=false:=h 7 (by decide)
 have k8:(s.toList == [98,114,101,97,107])=false:=h 8 (by decide)
 have k9:(s.toList == [99,117,116])=false:=h 9 (by decide)
 have k10:(s.toList == [100,111,119,110])=false:=h 10 (by decide)
 have k11:(s.toList == [117,112])=false:=h 11 (by decide)
 have k12:(s.toList == [99,104,101,99,107])=false:=h 12 (by decide)
 have k13:(s.toList == [97,108,108])=false:=h 13 (by decide)
 have k14:(s.toList == [102,108,121])=false:=h 14 (by decide)
 have k15:(s.toList == [115,116,97,116,101])=false:=h 15 (by decide)
 have k16:(s.toList == [108,101,97,100])=false:=h 16 (by decide)
 have k17:(s.toList == [105,115])=false:=h 17 (by decide)
 have k18:(s.toList == [101,118,101,110,116,115])=false:=h 18 (by decide)
 clear h
 go_enter Tryz.func9,Tryz.ntmps9
 go_wp2_with fail
 go_ret2
 exact ⟨rfl,rfl⟩
theorem fof_3 (h:IsNm s 3):Calls Tryz.prog 9 #[.string s] w fun e w'=>e=.returned (.tuple #[.string ⟨#[100]⟩,.bool true])∧w'=w:=by
 have k0:(s.toList == [115,105,116,101,115])=false:=h 0 (by decide)
 have k1:(s.toList == [98,101,103,105,110])=false:=h 1 (by decide)
 have k2:(s.toList == [114,101,102,117,115,101])=false:=h 2 (by decide)
 have k3:(s.toList == [116,105,99,107])=true:=h 3 (by decide)
 have k4:(s.toList == [103,111])=false:=h 4 (by decide)
 have k5:(s.toList == [108,111,115,101])=false:=h 5 (by decide)
 have k6:(s.toList == [116,119,105,99,101])=false:=h 6 (by decide)
 have k7:(s.toList == [108,105,110,107])=false:=h 7 (by decide)
 have k8:(s.toList == [98,114,101,97,107])=false:=h 8 (by decide)
 have k9:(s.toList == [99,117,116])=false:=h 9 (by decide)
 have k10:(s.toList == [100,111,119,110])=false:=h 10 (by decide)
 have k11:(s.toList == [117,112])=false:=h 11 (by decide)
 have k12:(s.toList == [99,104,101,99,107])=false:=h 12 (by decide)
 have k13:(s.toList == [97,108,108])=false:=h 13 (by decide)
 have k14:(s.toList == [102,108,121])=false:=h 14 (by decide)
 have k15:(s.toList == [115,116,97,116,101])=false:=h 15 (by decide)
 have k16:(s.toList == [108,101,97,100])=false:=h 16 (by decide)
 have k17:(s.toList == [105,115])=false:=h 17 (by decide)
 have k18:(s.toList == [101,118,101,110,116,115])=false:=h 18 (by decide)
 clear h
 go_enter Tryz.func9,Tryz.ntmps9
 go_wp2_with fail
 go_ret2
 exact ⟨rfl,rfl⟩
theorem fof_4 (h:IsNm s 4):Calls Tryz.prog 9 #[.string s] w fun e w'=>e=.returned (.tuple #[.string ⟨#[110]⟩,.bool true])∧w'=w:=by
 have k0:(s.toList == [115,105,116,101,115])=false:=h 0 (by decide)
 have k1:(s.toList == [98,101,103,105,110])=false:=h 1 (by decide)
 have k2:(s.toList == [114,101,102,117,115,101])=false:=h 2 (by decide)
 have k3:(s.toList == [116,105,99,107])=false:=h 3 (by decide)
 have k4:(s.toList == [103,111])=true:=h 4 (by decide)
 have k5:(s.toList == [108,111,115,101])=false:=h 5 (by decide)
 have k6:(s.toList == [116,119,105,99,101])=false:=h 6 (by decide)
 have k7:(s.toList == [108,105,110,107])=false:=h 7 (by decide)
 have k8:(s.toList == [98,114,101,97,107])=false:=h 8 (by decide)
 have k9:(s.toList == [99,117,116])=false:=h 9 (by decide)
 have k10:(s.toList == [100,111,119,110])=false:=h 10 (by decide)
 have k11:(s.toList == [117,112])=false:=h 11 (by decide)
 have k12:(s.toList == [99,104,101,99,107])=false:=h 12 (by decide)
 have k13:(s.toList == [97,108,108])=false:=h 13 (by decide)
 have k14:(s.toList == [102,108,121])=false:=h 14 (by decide)
 have k15:(s.toList == [115,116,97,116,101])=false:=h 15 (by decide)
 have k16:(s.toList == [108,101,97,100])=false:=h 16 (by decide)
 have k17:(s.toList == [105,115])=false:=h 17 (by decide)
 have k18:(s.toList == [101,118,101,110,116,115])=false:=h 18 (by decide)
 clear h
 go_enter Tryz.func9,Tryz.ntmps9
 go_wp2_with fail
 go_ret2
 exact ⟨rfl,rfl⟩
theorem fof_5 (h:IsNm s 5):Calls Tryz.prog 9 #[.string s] w fun e w'=>e=.returned (.tuple #[.string ⟨#[110]⟩,.bool true])∧w'=w:=by
 have k0:(s.toList == [115,105,116,101,115])=false:=h 0 (by decide)
 have k1:(s.toList == [98,101,103,105,110])=false:=h 1 (by decide)
 have k2:(s.toList == [114,101,102,117,115,101])=false:=h 2 (by decide)
 have k3:(s.toList == [116,105,99,107])=false:=h 3 (by decide)
 have k4:(s.toList == [103,111])=false:=h 4 (by decide)
 have k5:(s.toList == [108,111,115,101])=true:=h 5 (by decide)
 have k6:(s.toList == [116,119,105,99,101])=false:=h 6 (by decide)
 have k7:(s.toList == [108,105,110,107])=false:=h 7 (by decide)
 have k8:(s.toList == [98,114,101,97,107])=false:=h 8 (by decide)
 have k9:(s.toList == [99,117,116])=false:=h 9 (by decide)
 have k10:(s.toList == [100,111,119,110])=false:=h 10 (by decide)
 have k11:(s.toList == [117,112])=false:=h 11 (by decide)
 have k12:(s.toList == [99,104,101,99,107])=false:=h 12 (by decide)
 have k13:(s.toList == [97,108,108])=false:=h 13 (by decide)
 have k14:(s.toList == [102,108,121])=false:=h 14 (by decide)
 have k15:(s.toList == [115,116,97,116,101])=false:=h 15 (by decide)
 have k16:(s.toList == [108,101,97,100])=false:=h 16 (by decide)
 have k17:(s.toList == [105,115])=false:=h 17 (by decide)
 have k18:(s.toList == [101,118,101,110,116,115])=false:=h 18 (by decide)
 clear h
 go_enter Tryz.func9,Tryz.ntmps9
 go_wp2_with fail
 go_ret2
 exact ⟨rfl,rfl⟩
theorem fof_6 (h:IsNm s 6):Calls Tryz.prog 9 #[.string s] w fun e w'=>e=.returned (.tuple #[.string ⟨#[110]⟩,.bool true])∧w'=w:=by
 have k0:(s.toList == [115,105,116,101,115])=false:=h 0 (by decide)
 have k1:(s.toList == [98,101,103,105,110])=false:=h 1 (by decide)
 have k2:(s.toList == [114,101,102,117,115,101])=false:=h 2 (by decide)
 have k3:(s.toList == [116,105,99,107])=false:=h 3 (by decide)
 have k4:(s.toList == [103,111])=false:=h 4 (by decide)
 have k5:(s.toList == [108,111,115,101])=false:=h 5 (by decide)
 have k6:(s.toList == [116,119,105,99,101])=true:=h 6 (by decide)
 have k7:(s.toList == [108,105,110,107])=false:=h 7 (by decide)
 have k8:(s.toList == [98,114,101,97,107])=false:=h 8 (by decide)
 have k9:(s.toList == [99,117,116])=false:=h 9 (by decide)
 have k10:(s.toList == [100,111,119,110])=false:=h 10 (by decide)
 have k11:(s.toList == [117,112])=false:=h 11 (by decide)
 have k12:(s.toList == [99,104,101,99,107])=false:=h 12 (by decide)
 have k13:(s.toList == [97,108,108])=false:=h 13 (by decide)
 have k14:(s.toList == [102,108,121])=false:=h 14 (by decide)
 have k15:(s.toList == [115,116,97,116,101])=false:=h 15 (by decide)
 have k16:(s.toList == [108,101,97,100])=false:=h 16 (by decide)
 have k17:(s.toList == [105,115])=false:=h 17 (by decide)
 have k18:(s.toList == [101,118,101,110,116,115])=false:=h 18 (by decide)
 clear h
 go_enter Tryz.func9,Tryz.ntmps9
 go_wp2_with fail
 go_ret2
 exact ⟨rfl,rfl⟩
theorem fof_7 (h:IsNm s 7):Calls Tryz.prog 9 #[.string s] w fun e w'=>e=.returned (.tuple #[.string ⟨#[100,100]⟩,.bool true])∧w'=w:=by
 have k0:(s.toList == [115,105,116,101,115])=false:=h 0 (by decide)
 have k1:(s.toList == [98,101,103,105,110])=false:=h 1 (by decide)
 have k2:(s.toList == [114,101,102,117,115,101])=false:=h 2 (by decide)
 have k3:(s.toList == [116,105,99,107])=false:=h 3 (by decide)
 have k4:(s.toList == [103,111])=false:=h 4 (by decide)
 have k5:(s.toList == [108,111,115,101])=false:=h 5 (by decide)
 have k6:(s.toList == [116,119,105,99,101])=false:=h 6 (by decide)
 have k7:(s.toList == [108,105,110,107])=true:=h 7 (by decide)
 have k8:(s.toList == [98,114,101,97,107])=false:=h 8 (by decide)
 have k9:(s.toList == [99,117,116])=false:=h 9 (by decide)
 have k10:(s.toList == [100,111,119,110])=false:=h 10 (by decide)
 have k11:(s.toList == [117,112])=false:=h 11 (by decide)
 have k12:(s.toList == [99,104,101,99,107])=false:=h 12 (by decide)
 have k13:(s.toList == [97,108,108])=false:=h 13 (by decide)
 have k14:(s.toList == [102,108,121])=false:=h 14 (by decide)
 have k15:(s.toList == [115,116,97,116,101])=false:=h 15 (by decide)
 have k16:(s.toList == [108,101,97,100])=false:=h 16 (by decide)
 have k17:(s.toList == [105,115])=false:=h 17 (by decide)
 have k18:(s.toList == [101,118,101,110,116,115])=false:=h 18 (by decide)
 clear h
 go_enter Tryz.func9,Tryz.ntmps9
 go_wp2_with fail
 go_ret2
 exact ⟨rfl,rfl⟩
theorem fof_8 (h:IsNm s 8):Calls Tryz.prog 9 #[.string s] w fun e w'=>e=.returned (.tuple #[.string ⟨#[100,100]⟩,.bool true])∧w'=w:=by
 have k0:(s.toList == [115,105,116,101,115])=false:=h 0 (by decide)
 have k1:(s.toList == [98,101,103,105,110])=false:=h 1 (by decide)
 have k2:(s.toList == [114,101,102,117,115,101])=false:=h 2 (by decide)
 have k3:(s.toList == [116,105,99,107])=false:=h 3 (by decide)
 have k4:(s.toList == [103,111])=false:=h 4 (by decide)
 have k5:(s.toList == [108,111,115,101])=false:=h 5 (by decide)
 have k6:(s.toList == [116,119,105,99,101])=false:=h 6 (by decide)
 have k7:(s.toList == [108,105,110,107])=false:=h 7 (by decide)
 have k8:(s.toList == [98,114,101,97,107])=true:=h 8 (by decide)
 have k9:(s.toList == [99,117,116])=false:=h 9 (by decide)
 have k10:(s.toList == [100,111,119,110])=false:=h 10 (by decide)
 have k11:(s.toList == [117,112])=false:=h 11 (by decide)
 have k12:(s.toList == [99,104,101,99,107])=false:=h 12 (by decide)
 have k13:(s.toList == [97,108,108])=false:=h 13 (by decide)
 have k14:(s.toList == [102,108,121])=false:=h 14 (by decide)
 have k15:(s.toList == [115,116,97,116,101])=false:=h 15 (by decide)
 have k16:(s.toList == [108,101,97,100])=false:=h 16 (by decide)
 have k17:(s.toList == [105,115])=false:=h 17 (by decide)
 have k18:(s.toList == [101,118,101,110,116,115])=false:=h 18 (by decide)
 clear h
 go_enter Tryz.func9,Tryz.ntmps9
 go_wp2_with fail
 go_ret2
 exact ⟨rfl,rfl⟩
theorem fof_9 (h:IsNm s 9):Calls Tryz.prog 9 #[.string s] w fun e w'=>e=.returned (.tuple #[.string ⟨#[100,110]⟩,.bool true])∧w'=w:=by
 have k0:(s.toList == [115,105,116,101,115])=false:=h 0 (by decide)
 have k1:(s.toList == [98,101,103,105,110])=false:=h 1 (by decide)
 have k2:(s.toList == [114,101,102,117,115,101])=false:=h 2 (by decide)
 have k3:(s.toList == [116,105,99,107])=false:=h 3 (by decide)
 have k4:(s.toList == [103,111])=false:=h 4 (by decide)
 have k5:(s.toList == [108,111,115,101])=false:=h 5 (by decide)
 have k6:(s.toList == [116,119,105,99,101])=false:=h 6 (by decide)
 have k7:(s.toList == [108,105,110,107])=false:=h 7 (by decide)
 have k8:(s.toList == [98,114,101,97,107])=false:=h 8 (by decide)
 have k9:(s.toList == [99,117,116])=true:=h 9 (by decide)
 have k10:(s.toList == [100,111,119,110])=false:=h 10 (by decide)
 have k11:(s.toList == [117,112])=false:=h 11 (by decide)
 have k12:(s.toList == [99,104,101,99,107])=false:=h 12 (by decide)
 have k13:(s.toList == [97,108,108])=false:=h 13 (by decide)
 have k14:(s.toList == [102,108,121])=false:=h 14 (by decide)
 have k15:(s.toList == [115,116,97,116,101])=false:=h 15 (by decide)
 have k16:(s.toList == [108,101,97,100])=false:=h 16 (by decide)
 have k17:(s.toList == [105,115])=false:=h 17 (by decide)
 have k18:(s.toList == [101,118,101,110,116,115])=false:=h 18 (by decide)
 clear h
 go_enter Tryz.func9,Tryz.ntmps9
 go_wp2_with fail
 go_ret2
 exact ⟨rfl,rfl⟩
theorem fof_10 (h:IsNm s 10):Calls Tryz.prog 9 #[.string s] w fun e w'=>e=.returned (.tuple #[.string ⟨#[100]⟩,.bool true])∧w'=w:=by
 have k0:(s.toList == [115,105,116,101,115])=false:=h 0 (by decide)
 have k1:(s.toList == [98,101,103,105,110])=false:=h 1 (by decide)
 have k2:(s.toList == [114,101,102,117,115,101])=false:=h 2 (by decide)
 have k3:(s.toList == [116,105,99,107])=false:=h 3 (by decide)
 have k4:(s.toList == [103,111])=false:=h 4 (by decide)
 have k5:(s.toList == [108,111,115,101])=false:=h 5 (by decide)
 have k6:(s.toList == [116,119,105,99,101])=false:=h 6 (by decide)
 have k7:(s.toList == [108,105,110,107])=false:=h 7 (by decide)
 have k8:(s.toList == [98,114,101,97,107])=false:=h 8 (by decide)
 have k9:(s.toList == [99,117,116])=false:=h 9 (by decide)
 have k10:(s.toList == [100,111,119,110])=true:=h 10 (by decide)
 have k11:(s.toList == [117,112])=false:=h 11 (by decide)
 have k12:(s.toList == [99,104,101,99,107])=false:=h 12 (by decide)
 have k13:(s.toList == [97,108,108])=false:=h 13 (by decide)
 have k14:(s.toList == [102,108,121])=false:=h 14 (by decide)
 have k15:(s.toList == [115,116,97,116,101])=false:=h 15 (by decide)
 have k16:(s.toList == [108,101,97,100])=false:=h 16 (by decide)
 have k17:(s.toList == [105,115])=false:=h 17 (by decide)
 have k18:(s.toList == [101,118,101,110,116,115])=false:=h 18 (by decide)
 clear h
 go_enter Tryz.func9,Tryz.ntmps9
 go_wp2_with fail
 go_ret2
 exact ⟨rfl,rfl⟩
theorem fof_11 (h:IsNm s 11):Calls Tryz.prog 9 #[.string s] w fun e w'=>e=.returned (.tuple #[.string ⟨#[100]⟩,.bool true])∧w'=w:=by
 have k0:(s.toList == [115,105,116,101,115])=false:=h 0 (by decide)
 have k1:(s.toList == [98,101,103,105,110])=false:=h 1 (by decide)
 have k2:(s.toList == [114,101,102,117,115,101])=false:=h 2 (by decide)
 have k3:(s.toList == [116,105,99,107])=false:=h 3 (by decide)
 have k4:(s.toList == [103,111])=false:=h 4 (by decide)
 have k5:(s.toList == [108,111,115,101])=false:=h 5 (by decide)
 have k6:(s.toList == [116,119,105,99,101])=false:=h 6 (by decide)
 have k7:(s.toList == [108,105,110,107])=false:=h 7 (by decide)
 have k8:(s.toList == [98,114,101,97,107])=false:=h 8 (by decide)
 have k9:(s.toList == [99,117,116])=false:=h 9 (by decide)
 have k10:(s.toList == [100,111,119,110])=false:=h 10 (by decide)
 have k11:(s.toList == [117,112])=true:=h 11 (by decide)
 have k12:(s.toList == [99,104,101,99,107])=false:=h 12 (by decide)
 have k13:(s.toList == [97,108,108])=false:=h 13 (by decide)
 have k14:(s.toList == [102,108,121])=false:=h 14 (by decide)
 have k15:(s.toList == [115,116,97,116,101])=false:=h 15 (by decide)
 have k16:(s.toList == [108,101,97,100])=false:=h 16 (by decide)
 have k17:(s.toList == [105,115])=false:=h 17 (by decide)
 have k18:(s.toList == [101,118,101,110,116,115])=false:=h 18 (by decide)
 clear h
 go_enter Tryz.func9,Tryz.ntmps9
 go_wp2_with fail
 go_ret2
 exact ⟨rfl,rfl⟩
theorem fof_12 (h:IsNm s 12):Calls Tryz.prog 9 #[.string s] w fun e w'=>e=.returned (.tuple #[.string ⟨#[]⟩,.bool true])∧w'=w:=by
 have k0:(s.toList == [115,105,116,101,115])=false:=h 0 (by decide)
 have k1:(s.toList == [98,101,103,105,110])=false:=h 1 (by decide)
 have k2:(s.toList == [114,101,102,117,115,101])=false:=h 2 (by decide)
 have k3:(s.toList == [116,105,99,107])=false:=h 3 (by decide)
 have k4:(s.toList == [103,111])=false:=h 4 (by decide)
 have k5:(s.toList == [108,111,115,101])=false:=h 5 (by decide)
 have k6:(s.toList == [116,119,105,99,101])=false:=h 6 (by decide)
 have k7:(s.toList == [108,105,110,107])=false:=h 7 (by decide)
 have k8:(s.toList == [98,114,101,97,107])=false:=h 8 (by decide)
 have k9:(s.toList == [99,117,116])=false:=h 9 (by decide)
 have k10:(s.toList == [100,111,119,110])=false:=h 10 (by decide)
 have k11:(s.toList == [117,112])=false:=h 11 (by decide)
 have k12:(s.toList == [99,104,101,99,107])=true:=h 12 (by decide)
 have k13:(s.toList == [97,108,108])=false:=h 13 (by decide)
 have k14:(s.toList == [102,108,121])=false:=h 14 (by decide)
 have k15:(s.toList == [115,116,97,116,101])=false:=h 15 (by decide)
 have k16:(s.toList == [108,101,97,100])=false:=h 16 (by decide)
 have k17:(s.toList == [105,115])=false:=h 17 (by decide)
 have k18:(s.toList == [101,118,101,110,116,115])=false:=h 18 (by decide)
 clear h
 go_enter Tryz.func9,Tryz.ntmps9
 go_wp2_with fail
 go_ret2
 exact ⟨rfl,rfl⟩
theorem fof_13 (h:IsNm s 13):Calls Tryz.prog 9 #[.string s] w fun e w'=>e=.returned (.tuple #[.string ⟨#[]⟩,.bool true])∧w'=w:=by
 have k0:(s.toList == [115,105,116,101,115])=false:=h 0 (by decide)
 have k1:(s.toList == [98,101,103,105,110])=false:=h 1 (by decide)
 have k2:(s.toList == [114,101,102,117,115,101])=false:=h 2 (by decide)
 have k3:(s.toList == [116,105,99,107])=false:=h 3 (by decide)
 have k4:(s.toList == [103,111])=false:=h 4 (by decide)
 have k5:(s.toList == [108,111,115,101])=false:=h 5 (by decide)
 have k6:(s.toList == [116,119,105,99,101])=false:=h 6 (by decide)
 have k7:(s.toList == [108,105,110,107])=false:=h 7 (by decide)
 have k8:(s.toList == [98,114,101,97,107])=false:=h 8 (by decide)
 have k9:(s.toList == [99,117,116])=false:=h 9 (by decide)
 have k10:(s.toList == [100,111,119,110])=false:=h 10 (by decide)
 have k11:(s.toList == [117,112])=false:=h 11 (by decide)
 have k12:(s.toList == [99,104,101,99,107])=false:=h 12 (by decide)
 have k13:(s.toList == [97,108,108])=true:=h 13 (by decide)
 have k14:(s.toList == [102,108,121])=false:=h 14 (by decide)
 have k15:(s.toList == [115,116,97,116,101])=false:=h 15 (by decide)
 have k16:(s.toList == [108,101,97,100])=false:=h 16 (by decide)
 have k17:(s.toList == [105,115])=false:=h 17 (by decide)
 have k18:(s.toList == [101,118,101,110,116,115])=false:=h 18 (by decide)
 clear h
 go_enter Tryz.func9,Tryz.ntmps9
 go_wp2_with fail
 go_ret2
 exact ⟨rfl,rfl⟩
theorem fof_14 (h:IsNm s 14):Calls Tryz.prog 9 #[.string s] w fun e w'=>e=.returned (.tuple #[.string ⟨#[]⟩,.bool true])∧w'=w:=by
 have k0:(s.toList == [115,105,116,101,115])=false:=h 0 (by decide)
 have k1:(s.toList == [98,101,103,105,110])=false:=h 1 (by decide)
 have k2:(s.toList == [114,101,102,117,115,101])=false:=h 2 (by decide)
 have k3:(s.toList == [116,105,99,107])=false:=h 3 (by decide)
 have k4:(s.toList == [103,111])=false:=h 4 (by decide)
 have k5:(s.toList == [108,111,115,101])=false:=h 5 (by decide)
 have k6:(s.toList == [116,119,105,99,101])=false:=h 6 (by decide)
 have k7:(s.toList == [108,105,110,107])=false:=h 7 (by decide)
 have k8:(s.toList == [98,114,101,97,107])=false:=h 8 (by decide)
 have k9:(s.toList == [99,117,116])=false:=h 9 (by decide)
 have k10:(s.toList == [100,111,119,110])=false:=h 10 (by decide)
 have k11:(s.toList == [117,112])=false:=h 11 (by decide)
 have k12:(s.toList == [99,104,101,99,107])=false:=h 12 (by decide)
 have k13:(s.toList == [97,108,108])=false:=h 13 (by decide)
 have k14:(s.toList == [102,108,121])=true:=h 14 (by decide)
 have k15:(s.toList == [115,116,97,116,101])=false:=h 15 (by decide)
 have k16:(s.toList == [108,101,97,100])=false:=h 16 (by decide)
 have k17:(s.toList == [105,115])=false:=h 17 (by decide)
 have k18:(s.toList == [101,118,101,110,116,115])=false:=h 18 (by decide)
 clear h
 go_enter Tryz.func9,Tryz.ntmps9
 go_wp2_with fail
 go_ret2
 exact ⟨rfl,rfl⟩
theorem fof_15 (h:IsNm s 15):Calls Tryz.prog 9 #[.string s] w fun e w'=>e=.returned (.tuple #[.string ⟨#[100,100]⟩,.bool true])∧w'=w:=by
 have k0:(s.toList == [115,105,116,101,115])=false:=h 0 (by decide)
 have k1:(s.toList == [98,101,103,105,110])=false:=h 1 (by decide)
 have k2:(s.toList == [114,101,102,117,115,101])=false:=h 2 (by decide)
 have k3:(s.toList == [116,105,99,107])=false:=h 3 (by decide)
 have k4:(s.toList == [103,111])=false:=h 4 (by decide)
 have k5:(s.toList == [108,111,115,101])=false:=h 5 (by decide)
 have k6:(s.toList == [116,119,105,99,101])=false:=h 6 (by decide)
 have k7:(s.toList == [108,105,110,107])=false:=h 7 (by decide)
 have k8:(s.toList == [98,114,101,97,107])=false:=h 8 (by decide)
 have k9:(s.toList == [99,117,116])=false:=h 9 (by decide)
 have k10:(s.toList == [100,111,119,110])=false:=h 10 (by decide)
 have k11:(s.toList == [117,112])=false:=h 11 (by decide)
 have k12:(s.toList == [99,104,101,99,107])=false:=h 12 (by decide)
 have k13:(s.toList == [97,108,108])=false:=h 13 (by decide)
 have k14:(s.toList == [102,108,121])=false:=h 14 (by decide)
 have k15:(s.toList == [115,116,97,116,101])=true:=h 15 (by decide)
 have k16:(s.toList == [108,101,97,100])=false:=h 16 (by decide)
 have k17:(s.toList == [105,115])=false:=h 17 (by decide)
 have k18:(s.toList == [101,118,101,110,116,115])=false:=h 18 (by decide)
 clear h
 go_enter Tryz.func9,Tryz.ntmps9
 go_wp2_with fail
 go_ret2
 exact ⟨rfl,rfl⟩
theorem fof_16 (h:IsNm s 16):Calls Tryz.prog 9 #[.string s] w fun e w'=>e=.returned (.tuple #[.string ⟨#[100,100]⟩,.bool true])∧w'=w:=by
 have k0:(s.toList == [115,105,116,101,115])=false:=h 0 (by decide)
 have k1:(s.toList == [98,101,103,105,110])=false:=h 1 (by decide)
 have k2:(s.toList == [114,101,102,117,115,101])=false:=h 2 (by decide)
 have k3:(s.toList == [116,105,99,107])=false:=h 3 (by decide)
 have k4:(s.toList == [103,111])=false:=h 4 (by decide)
 have k5:(s.toList == [108,111,115,101])=false:=h 5 (by decide)
 have k6:(s.toList == [116,119,105,99,101])=false:=h 6 (by decide)
 have k7:(s.toList == [108,105,110,107])=false:=h 7 (by decide)
 have k8:(s.toList == [98,114,101,97,107])=false:=h 8 (by decide)
 have k9:(s.toList == [99,117,116])=false:=h 9 (by decide)
 have k10:(s.toList == [100,111,119,110])=false:=h 10 (by decide)
 have k11:(s.toList == [117,112])=false:=h 11 (by decide)
 have k12:(s.toList == [99,104,101,99,107])=false:=h 12 (by decide)
 have k13:(s.toList == [97,108,108])=false:=h 13 (by decide)
 have k14:(s.toList == [102,108,121])=false:=h 14 (by decide)
 have k15:(s.toList == [115,116,97,116,101])=false:=h 15 (by decide)
 have k16:(s.toList == [108,101,97,100])=true:=h 16 (by decide)
 have k17:(s.toList == [105,115])=false:=h 17 (by decide)
 have k18:(s.toList == [101,118,101,110,116,115])=false:=h 18 (by decide)
 clear h
 go_enter Tryz.func9,Tryz.ntmps9
 go_wp2_with fail
 go_ret2
 exact ⟨rfl,rfl⟩
theorem fof_17 (h:IsNm s 17):Calls Tryz.prog 9 #[.string s] w fun e w'=>e=.returned (.tuple #[.string ⟨#[100]⟩,.bool true])∧w'=w:=by
 have k0:(s.toList == [115,105,116,101,115])=false:=h 0 (by decide)
 have k1:(s.toList == [98,101,103,105,110])=false:=h 1 (by decide)
 have k2:(s.toList == [114,101,102,117,115,101])=false:=h 2 (by decide)
 have k3:(s.toList == [116,105,99,107])=false:=h 3 (by decide)
 have k4:(s.toList == [103,111])=false:=h 4 (by decide)
 have k5:(s.toList == [108,111,115,101])=false:=h 5 (by decide)
 have k6:(s.toList == [116,119,105,99,101])=false:=h 6 (by decide)
 have k7:(s.toList == [108,105,110,107])=false:=h 7 (by decide)
 have k8:(s.toList == [98,114,101,97,107])=false:=h 8 (by decide)
 have k9:(s.toList == [99,117,116])=false:=h 9 (by decide)
 have k10:(s.toList == [100,111,119,110])=false:=h 10 (by decide)
 have k11:(s.toList == [117,112])=false:=h 11 (by decide)
 have k12:(s.toList == [99,104,101,99,107])=false:=h 12 (by decide)
 have k13:(s.toList == [97,108,108])=false:=h 13 (by decide)
 have k14:(s.toList == [102,108,121])=false:=h 14 (by decide)
 have k15:(s.toList == [115,116,97,116,101])=false:=h 15 (by decide)
 have k16:(s.toList == [108,101,97,100])=false:=h 16 (by decide)
 have k17:(s.toList == [105,115])=true:=h 17 (by decide)
 have k18:(s.toList == [101,118,101,110,116,115])=false:=h 18 (by decide)
 clear h
 go_enter Tryz.func9,Tryz.ntmps9
 go_wp2_with fail
 go_ret2
 exact ⟨rfl,rfl⟩
theorem fof_18 (h:IsNm s 18):Calls Tryz.prog 9 #[.string s] w fun e w'=>e=.returned (.tuple #[.string ⟨#[]⟩,.bool true])∧w'=w:=by
 have k0:(s.toList == [115,105,116,101,115])=false:=h 0 (by decide)
 have k1:(s.toList == [98,101,103,105,110])=false:=h 1 (by decide)
 have k2:(s.toList == [114,101,102,117,115,101])=false:=h 2 (by decide)
 have k3:(s.toList == [116,105,99,107])=false:=h 3 (by decide)
 have k4:(s.toList == [103,111])=false:=h 4 (by decide)
 have k5:(s.toList == [108,111,115,101])=false:=h 5 (by decide)
 have k6:(s.toList == [116,119,105,99,101])=false:=h 6 (by decide)
 have k7:(s.toList == [108,105,110,107])=false:=h 7 (by decide)
 have k8:(s.toList == [98,114,101,97,107])=false:=h 8 (by decide)
 have k9:(s.toList == [99,117,116])=false:=h 9 (by decide)
 have k10:(s.toList == [100,111,119,110])=false:=h 10 (by decide)
 have k11:(s.toList == [117,112])=false:=h 11 (by decide)
 have k12:(s.toList == [99,104,101,99,107])=false:=h 12 (by decide)
 have k13:(s.toList == [97,108,108])=false:=h 13 (by decide)
 have k14:(s.toList == [102,108,121])=false:=h 14 (by decide)
 have k15:(s.toList == [115,116,97,116,101])=false:=h 15 (by decide)
 have k16:(s.toList == [108,101,97,100])=false:=h 16 (by decide)
 have k17:(s.toList == [105,115])=false:=h 17 (by decide)
 have k18:(s.toList == [101,118,101,110,116,115])=true:=h 18 (by decide)
 clear h
 go_enter Tryz.func9,Tryz.ntmps9
 go_wp2_with fail
 go_ret2
 exact ⟨rfl,rfl⟩
theorem fof_19 (h:IsNm s 19):Calls Tryz.prog 9 #[.string s] w fun e w'=>e=.returned (.tuple #[.string ⟨#[]⟩,.bool false])∧w'=w:=by
 have k0:(s.toList == [115,105,116,101,115])=false:=h 0 (by decide)
 have k1:(s.toList == [98,101,103,105,110])=false:=h 1 (by decide)
 have k2:(s.toList == [114,101,102,117,115,101])=false:=h 2 (by decide)
 have k3:(s.toList == [116,105,99,107])=false:=h 3 (by decide)
 have k4:(s.toList == [103,111])=false:=h 4 (by decide)
 have k5:(s.toList == [108,111,115,101])=false:=h 5 (by decide)
 have k6:(s.toList == [116,119,105,99,101])=false:=h 6 (by decide)
 have k7:(s.toList == [108,105,110,107])=false:=h 7 (by decide)
 have k8:(s.toList == [98,114,101,97,107])=false:=h 8 (by decide)
 have k9:(s.toList == [99,117,116])=false:=h 9 (by decide)
 have k10:(s.toList == [100,111,119,110])=false:=h 10 (by decide)
 have k11:(s.toList == [117,112])=false:=h 11 (by decide)
 have k12:(s.toList == [99,104,101,99,107])=false:=h 12 (by decide)
 have k13:(s.toList == [97,108,108])=false:=h 13 (by decide)
 have k14:(s.toList == [102,108,121])=false:=h 14 (by decide)
 have k15:(s.toList == [115,116,97,116,101])=false:=h 15 (by decide)
 have k16:(s.toList == [108,101,97,100])=false:=h 16 (by decide)
 have k17:(s.toList == [105,115])=false:=h 17 (by decide)
 have k18:(s.toList == [101,118,101,110,116,115])=false:=h 18 (by decide)
 clear h
 go_enter Tryz.func9,Tryz.ntmps9
 go_wp2_with fail
 go_ret2
 exact ⟨rfl,rfl⟩
theorem fof_any (s:ByteArray) (w:World):Calls Tryz.prog 9 #[.string s] w fun e w'=>e=.returned (fofO s.data.toList)∧w'=w:=by
 unfold fofO
 cases hc:cmdO s.data.toList with
 | none=>exact fof_19 (isNm_none hc)
 | some i =>
  have hi:=(cmdO_lt hc).1
  have hn:=isNm_of hc
  have hx:i=0 ∨ i=1 ∨ i=2 ∨ i=3 ∨ i=4 ∨ i=5 ∨ i=6 ∨ i=7 ∨ i=8 ∨ i=9 ∨ i=10 ∨ i=11 ∨ i=12 ∨ i=13 ∨ i=14 ∨ i=15 ∨ i=16 ∨ i=17 ∨ i=18:=by omega
  rcases hx with rfl|rfl|rfl|rfl|rfl|rfl|rfl|rfl|rfl|rfl|rfl|rfl|rfl|rfl|rfl|rfl|rfl|rfl|rfl
  ·exact fof_0 hn
  ·exact fof_1 hn
  ·exact fof_2 hn
  ·exact fof_3 hn
  ·exact fof_4 hn
  ·exact fof_5 hn
  ·exact fof_6 hn
  ·exact fof_7 hn
  ·exact fof_8 hn
  ·exact fof_9 hn
  ·exact fof_10 hn
  ·exact fof_11 hn
  ·exact fof_12 hn
  ·exact fof_13 hn
  ·exact fof_14 hn
  ·exact fof_15 hn
  ·exact fof_16 hn
  ·exact fof_17 hn
  ·exact fof_18 hn
end
theorem dec_ne (n:Nat):Lib.decDigits n≠[]:=fun h=>by
 have h1:=Lib.decDigits_length n
 have h2:=Lib.nDigits_pos n
 rw [h] at h1
 simp at h1
 omega
theorem join_ne {xs:List Bs} {sep:Bs} {x:Bs} (hx:x≠[]):Lib.join (x :: xs) sep≠[]:=fun h=>by
 rw [Lib.join_cons] at h
 exact hx (List.append_eq_nil_iff.1 h).1
theorem runP_length:∀ (st:PSt) (ls:List (List Bs)),(runP st ls).1.length=ls.length
 | _,[]=>rfl
 | st,l :: r=>by
  show (runP (lineP st l).2 r).1.length+1=r.length+1
  rw [runP_length _ r]
end Go.Proofs.YtaehdgemkafinaaGreatDoor
