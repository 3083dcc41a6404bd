/-
  On the way to SAnewProof: O6E.
-/
import Derived.Test.YtaehdgemkafinaaGreatDoorBv37
set_option maxHeartbeats 8000000
set_option maxRecDepth 100000
namespace Go.Proofs.YtaehdgemkafinaaGreatDoor
open Go.RowKit
theorem arr62 (ts:Array Value) (h:ts.size=62):∃ x0 x1 x2 x3 x4 x5 x6 x7 x8 x9 x10 x11 x12 x13 x14 x15 x16 x17 x18 x19 x20 x21 x22 x23 x24 x25 x26 x27 x28 x29 x30 x31 x32 x33 x34 x35 x36 x37 x38 x39 x40 x41 x42 x43 x44 x45 x46 x47 x48 x49 x50 x51 x52 x53 x54 x55 x56 x57 x58 x59 x60 x61:Value,ts=#[x0,x1,x2,x3,x4,x5,x6,x7,x8,x9,x10,x11,x12,x13,x14,x15,x16,x17,x18,x19,x20,x21,x22,x23,x24,x25,x26,x27,x28,x29,x30,x31,x32,x33,x34,x35,x36,x37,x38,x39,x40,x41,x42,x43,x44,x45,x46,x47,x48,x49,x50,x51,x52,x53,x54,x55,x56,x57,x58,x59,x60,x61]:=by
 obtain ⟨l⟩:=ts
 have h':l.length=62:=h
 refine ⟨l.getD 0 undef,l.getD 1 undef,l.getD 2 undef,l.getD 3 undef,l.getD 4 undef,l.getD 5 undef,l.getD 6 undef,l.getD 7 undef,l.getD 8 undef,l.getD 9 undef,l.getD 10 undef,l.getD 11 undef,l.getD 12 undef,l.getD 13 undef,l.getD 14 undef,l.getD 15 undef,l.getD 16 undef,l.getD 17 undef,l.getD 18 undef,l.getD 19 undef,l.getD 20 undef,l.getD 21 undef,l.getD 22 undef,l.getD 23 undef,l.getD 24 undef,l.getD 25 undef,l.getD 26 undef,l.getD 27 undef,l.getD 28 undef,l.getD 29 undef,l.getD 30 undef,l.getD 31 undef,l.getD 32 undef,l.getD 33 undef,l.getD 34 undef,l.getD 35 undef,l.getD 36 undef,l.getD 37 undef,l.getD 38 undef,l.getD 39 undef,l.getD 40 undef,l.getD 41 undef,l.getD 42 undef,l.getD 43 undef,l.getD 44 undef,l.getD 45 undef,l.getD 46 undef,l.getD 47 undef,l.getD 48 undef,l.getD 49 undef,l.getD 50 undef,l.getD 51 undef,l.getD 52 undef,l.getD 53 undef,l.getD 54 undef,l.getD 55 undef,l.getD 56 undef,l.getD 57 undef,l.getD 58 undef,l.getD 59 undef,l.getD 60 undef,l.getD 61 undef,?_⟩
 apply Array.ext
 ·exact h
 ·intro i h1 h2
  have h3:i<62:=h2
  simp only [List.getElem_toArray]
  rw [show l[i]=l.getD i undef by rw [List.getD,List.getElem?_eq_getElem,Option.getD_some]]
  have:∀ j,j<62→(([l.getD 0 undef,l.getD 1 undef,l.getD 2 undef,l.getD 3 undef,l.getD 4 undef,l.getD 5 undef,l.getD 6 undef,l.getD 7 undef,l.getD 8 undef,l.getD 9 undef,l.getD 10 undef,l.getD 11 undef,l.getD 12 undef,l.getD 13 undef,l.getD 14 undef,l.getD 15 undef,l.getD 16 undef,l.getD 17 undef,l.getD 18 undef,l.getD 19 undef,l.getD 20 undef,l.getD 21 undef,l.getD 22 undef,l.getD 23 undef,l.getD 24 undef,l.getD 25 undef,l.getD 26 undef,l.getD 27 undef,l.getD 28 undef,l.getD 29 undef,l.getD 30 undef,l.getD 31 undef,l.getD 32 undef,l.getD 33 undef,l.getD 34 undef,l.getD 35 undef,l.getD 36 undef,l.getD 37 undef,l.getD 38 undef,l.getD 39 undef,l.getD 40 undef,l.getD 41 undef,l.getD 42 undef,l.getD 43 undef,l.getD 44 undef,l.getD 45 undef,l.getD 46 undef,l.getD 47 undef,l.getD 48 undef,l.getD 49 undef,l.getD 50 undef,l.getD 51 undef,l.getD 52 undef,l.getD 53 undef,l.getD 54 undef,l.getD 55 undef,l.getD 56 undef,l.getD 57 undef,l.getD 58 undef,l.getD 59 undef,l.getD 60 undef,l.getD 61 undef]:List Value)[j]?)=some (l.getD j undef):=by
   intro j hj
   have hc:j=0 ∨ j=1 ∨ j=2 ∨ j=3 ∨ j=4 ∨ j=5 ∨ j=6 ∨ j=7 ∨ j=8 ∨ j=9 ∨ j=10 ∨ j=11 ∨ j=12 ∨ j=13 ∨ j=14 ∨ j=15 ∨ j=16 ∨ j=17 ∨ j=18 ∨ j=19 ∨ j=20 ∨ j=21 ∨ j=22 ∨ j=23 ∨ j=24 ∨ j=25 ∨ j=26 ∨ j=27 ∨ j=28 ∨ j=29 ∨ j=30 ∨ j=31 ∨ j=32 ∨ j=33 ∨ j=34 ∨ j=35 ∨ j=36 ∨ j=37 ∨ j=38 ∨ j=39 ∨ j=40 ∨ j=41 ∨ j=42 ∨ j=43 ∨ j=44 ∨ j=45 ∨ j=46 ∨ j=47 ∨ j=48 ∨ j=49 ∨ j=50 ∨ j=51 ∨ j=52 ∨ j=53 ∨ j=54 ∨ j=55 ∨ j=56 ∨ j=57 ∨ j=58 ∨ j=59 ∨ j=60 ∨ j=61:=by omega
   rcases hc with rfl|rfl|rfl|rfl|rfl|rfl|rfl|rfl|rfl|rfl|rfl|rfl|rfl|rfl|rfl|rfl|rfl|rfl|rfl|rfl|rfl|rfl|rfl|rfl|rfl|rfl|rfl|rfl|rfl|rfl|rfl|rfl|rfl|rfl|rfl|rfl|rfl|rfl|rfl|rfl|rfl|rfl|rfl|rfl|rfl|rfl|rfl|rfl|rfl|rfl|rfl|rfl|rfl|rfl|rfl|rfl|rfl|rfl|rfl|rfl|rfl|rfl <;> rfl
  have h4:=this i h3
  rw [List.getElem?_eq_getElem h3] at h4
  exact (Option.some.inj h4).symm
structure CmdO (w:World) (mb pb bb:Nat) (vs:Nat→Value):Prop where
 own:∃ n D,w.ownsMap Tryz.prog 9 elO mb n D∧∀ s z,D.atKey (.string s) z=match cmdO s with|none=>z|some i=>.held (vs i)
 box:BoxO w bb (ptrO pb)
 lb:pb<bb
 ent:∀ i,i<19→EntO w pb bb i (vs i)
theorem cm_region {Q:Exit→Act→World→Prop} {a:Act} {w:World} {pb bb:Nat} (hz:a.tmps.size=62) (h1:a.eval (.tmp 1)=ptrO bb) (hb:BoxO w bb (ptrO pb)) (hl:pb<bb) (hp:pb<w.heap.size)
  (hQ:∀ (a':Act) (w':World) mb vs,a'.tmps.size=62→a'.defers=a.defers→a'.eval (.tmp 2)=.map (some mb)→w.heap.size≤mb→Below w.heap.size w w'→CmdO w' mb pb bb vs→Q .normal a' w') :
  (Code.region 1 (drawnF Tryz.f17) true).wp Tryz.prog Q a w:=by
 refine wp_region_any (by kernel_rfl) ?_
 have key:=wpAny_inv (P:=Tryz.prog) (md:=.any) (ops:=drawnF Tryz.f17) (Q:=Q) (I:=fun f L a' w'=>f≤79∧CiO a.defers w pb bb f L a' w') cm_deps ?step ?fin (drawnF Tryz.f17).size (Array.replicate (drawnF Tryz.f17).size false) a w.drew (by simp) ?cnt ?start
 ·exact key
 case step =>
  intro f L a' w' hI i hi hL hd
  rw [cm_size] at hi
  exact wpOp_mono (fun a2 w2 h L' hL'=>⟨by have:=hI.1; omega,h L' hL'⟩) (cm_step hI.2 (by have:=hI.1; omega) hi hL hd)
 case fin =>
  intro f L a' w' hI hall
  rw [cm_size] at hall
  obtain ⟨mb,n,D,m1,m2,m3,-,m5⟩:=hI.2.mp (hall 0 (by omega))
  refine hQ a' w' mb (fun i=>a'.eval (.tmp (3 * i+6))) hI.2.sz hI.2.df ((hI.2.e2 (hall 78 (by omega))).trans m1) m2 hI.2.bel ⟨⟨n,D,m3,fun s z=>?_⟩,hI.2.box,hI.2.lb,fun i hi=>hI.2.cl i hi (hall _ (by omega))⟩
  rw [m5 s z]
  unfold atO
  cases hc:cmdO s with
  | none=>rfl
  | some i=>exact if_pos (hall _ (by have:=(cmdO_lt hc).1; omega))
 case cnt =>
  unfold leftO
  exact Nat.le_trans (List.length_filter_le _ _) (by simp)
 case start =>
  have hf:∀ i,(Array.replicate (drawnF Tryz.f17).size false).getD i false=false:=fun i=>by
   simp [Array.getElem?_replicate]
   split <;> rfl
  have no:∀ {p:Prop} {i:Nat},(Array.replicate (drawnF Tryz.f17).size false).getD i false=true→p:=fun h=>by rw [hf] at h; cases h
  exact ⟨by rw [cm_size]; exact Nat.le_refl _,hz,rfl,h1,hb,hl,hp,⟨rfl,rfl,rfl,Nat.le_refl _,fun _ _=>rfl⟩,fun _ _ h=>no h,fun _ _ h=>no h,fun _ _ h=>no h,fun h=>no h,fun h=>no h,fun h=>no h,fun _ _ h=>no h,fun h=>no h,fun h=>no h⟩
theorem commands_any (pb:Nat) (w:World) (hp:pb<w.heap.size) :
  Calls Tryz.prog 17 #[ptrO pb] w fun e w'=>∃ mb bb vs,e=.returned (.map (some mb))∧CmdO w' mb pb bb vs∧Below w.heap.size w w'∧w.heap.size≤mb:=by
 have HP:=hid hp
 have hb0:=box_new w 44 (ptrO pb)
 have hB:Below w.heap.size w (w.alloc (.cells #[ptrO pb] 44)):=(Below.refl _ _).alloc (Nat.le_refl _) _
 have HB0:=hid (And.intro hb0 hB)
 clear hp hb0 hB
 go_enter Tryz.func17,Tryz.ntmps17
 go_wp2_with fail
 refine cm_region (pb:=pb) (bb:=w.heap.size) rfl rfl HB0.out.1 HP.out (Nat.lt_of_lt_of_le HP.out HB0.out.2.size) ?_
 intro a' w' mb vs hz hdf h2 hm hb hc
 have HX:=hid (And.intro hc (And.intro (HB0.out.2.trans (hb.mono HB0.out.2.size)) (Nat.le_trans HB0.out.2.size hm)))
 clear hm hb hc
 obtain ⟨ts,dfs⟩:=a'
 obtain ⟨x0,x1,x2,x3,x4,x5,x6,x7,x8,x9,x10,x11,x12,x13,x14,x15,x16,x17,x18,x19,x20,x21,x22,x23,x24,x25,x26,x27,x28,x29,x30,x31,x32,x33,x34,x35,x36,x37,x38,x39,x40,x41,x42,x43,x44,x45,x46,x47,x48,x49,x50,x51,x52,x53,x54,x55,x56,x57,x58,x59,x60,x61,e⟩:=arr62 ts hz
 subst e
 obtain rfl:x2=.map (some mb):=h2
 obtain rfl:dfs=[]:=hdf
 clear hz
 go_wp2_with fail
 go_ret
 exact ⟨mb,w.heap.size,vs,rfl,HX.out⟩
end Go.Proofs.YtaehdgemkafinaaGreatDoor
