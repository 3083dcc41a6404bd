/-
  On the way to SPlaysProof: JB JC JE RA RB.
-/
import Derived.Test.YtaehdgemkafinaaGreatDoorBx1
import Derived.Laws.AppendOwn
import Derived.Deep.CutRange
set_option maxHeartbeats 8000000
set_option maxRecDepth 100000
namespace Go.Proofs.YtaehdgemkafinaaGreatDoor
open Go.RowKit
open Go.Proofs.Tryz
theorem Tryz.infoB1:(prog.info? 5).map (fun i=>(i.zero,i.size,i.bytes))=some (some (.int .u8 0),1,1):=by kernel_rfl
def fg(l:List UInt8):List Value:=l.map fun b=>.int .u8 (b.toNat:Int)
theorem yM(l:List UInt8):∀a∈fg l,a.oneCell'=true:=by
 intro a b;obtain⟨c,-,rfl⟩:=List.mem_map.1 b;rfl
theorem mW(a b:List UInt8):fg (a++b)=fg a++fg b:=by simp[fg]
theorem aiN(n:Nat):bt n 4=[UInt8.ofNat (n / 16777216%256),UInt8.ofNat (n / 65536%256),UInt8.ofNat (n / 256%256),UInt8.ofNat (n%256)]:=by
 simp[bt,Nat.div_div_eq_div_mul]
theorem ai1(n:Nat):bt n 1=[UInt8.ofNat (n%256)]:=by simp[bt]
theorem aaJ(n:Nat):Value.int .u8 ((UInt8.ofNat (n%256)).toNat:Int)=.int .u8 ((n:Int)%256):=by
 have:(UInt8.ofNat (n%256)).toNat=n%256:=by simp
 rw[this];congr 1
def OwnB(w:World)(base:Nat)(v:Value)(l:List UInt8):Prop:=w.ownsRow base 5 1 v l.length (fg l)
theorem oq{B:Nat}{w0 w W w':World}{e:TypeId}{size n:Nat}{v:Value}{xs:List Value}(d:Below B w0 w)(b:B<=w.heap.size)(c:Below w.heap.size w W)(f:w.ownsRow B e size v n xs)(a:W.grownBy w' v.ownBlock):Below B w0 w':=by
 refine Below.grown (d.trans (c.mono b)) a (bc b c.size) ?_;intro g a;rcases f.2 with⟨rfl,_⟩|⟨h,i,j,rfl,k,_⟩
 ·cases a
 ·have:h=g:=by simpa [Value.ownBlock]using a
  omega
theorem rI(b a j:Nat):(⟨b,a,none⟩:Addr).add j=⟨b,a+j,none⟩:=by unfold Addr.add;split<;>simp_all
theorem fM(w:World)(a:List Value)(t:TypeId):∀j b,a[j]?=some b->(w.alloc (.cells a.toArray t)).cell? ((⟨w.heap.size,0,none⟩:Addr).add j)=some b:=by
 intro j b c;rw[rI,aG _ w.heap.size (0+j) a.toArray t (0,0) (aB w _),Nat.zero_add,List.getElem?_toArray];exact c
theorem wV(n:Nat)(b:n<4294967296):fg (bt n 4)=[.int .u8 ((n:Int) / 16777216),.int .u8 ((n:Int) / 65536%256),.int .u8 ((n:Int) / 256%256),.int .u8 ((n:Int)%256)]:=by
 rw[aiN];simp only[fg,List.map_cons,List.map_nil,aaJ];have a:((n / 16777216:Nat):Int)%256=(n:Int) / 16777216:=by omega
 rw[a];rfl
theorem oO(base n:Nat)(v:Value)(l:List UInt8)(w:World)(h:OwnB w base v l)(g:base<=w.heap.size)(u:l.length<=1000)(i:n<4294967296):Calls prog 259 #[v,.int .u32 (n:Int)] w fun e w'=>∃v',e=.returned v'∧OwnB w' base v' (l++bt n 4)∧Below base w w':=by
 obtain⟨j,k,m,o,p⟩:=info_parts Tryz.infoB1;have a:=hid h;have b:=hid (wV n i);clear h
 go_enter func259,ntmps259
 go_wp2_with (at_builtin;refine wpList_append_own _ rfl (.tmp 5) (.tmp 17) 60 rfl base 5 j (.int .u8 0) 1 1 underlying60 k m o p rfl (by decide) _ l.length (fg l) rfl (by exact World.ownsRow.alloc a _) ⟨w.heap.size,0,none⟩ 4 4 [.int .u8 ((n:Int) / 16777216),.int .u8 ((n:Int) / 65536%256),.int .u8 ((n:Int) / 256%256),.int .u8 ((n:Int)%256)] rfl rfl (fM _ _ _) ?c2 ?c3 ?c4 ?c5 ?_)
 case c2=>intro q c;rw[<-b.out]at c;exact yM _ q c
 case c3=>unfold maxLen;omega
 case c4=>omega
 case c5=>simp;omega
 intro v' r d f _;have s:Hid (OwnB r base v' (l++bt n 4)):=by
  unfold Hid OwnB;rw[mW,b.out,aR,bC];exact d
 have t:=hid (oq (Below.refl base w) g (aD) a f);clear d f
 go_wp2
 go_ret
 exact⟨v',rfl,s,t⟩
theorem ae6(a b:Nat)(c:a<4294967296)(d:b<4294967296):bits .or .u32 (a:Int) (b:Int)=((a ||| b:Nat):Int):=by
 have e:a ||| b<2^32:=Nat.or_lt_two_pow (by omega) (by omega)
 show IntKind.u32.wrap ((BitVec.ofInt 32 (a:Int) ||| BitVec.ofInt 32 (b:Int)).toNat:Int)=_
 rw[BitVec.toNat_or,gL a c,gL b d,IntKind.wrap_u32];omega
theorem vM(a b i:Nat)(c:b<2^i):(a*2^i) ||| b=a*2^i+b:=by
 rw[Nat.mul_comm];exact(Nat.two_pow_add_eq_or_of_lt c a).symm
theorem eV(s:ByteArray)(i:Nat)(a:Int)(h:i<s.size)(b:a=i)(w:World):(Instr.index 9 (.string s) (.int .i64 a)).run prog w=.ok (.int .u8 ((s[i]'h).toNat:Int)) w:=by
 subst b;rw[run_index_string w 9 s .i64 i underlying9,dif_pos ⟨by omega,by omega⟩];rfl
theorem aiU:∀(l:List UInt8) (h:4<=l.length),l.take 4=[l[0]'(by omega),l[1]'(by omega),l[2]'(by omega),l[3]'(by omega)]
 | _::_::_::_::_,_=>rfl
theorem ah6(s:ByteArray)(h:4<=s.size):s.data.toList.take 4=[s[0]'(by omega),s[1]'(by omega),s[2]'(by omega),s[3]'(by omega)]:=by
 rw[jC,jC,jC,jC];exact aiU _ h
theorem aij(a b:Nat)(h:b<16777216):a*16777216 ||| b=a*16777216+b:=vM a b 24 h
theorem air(a b:Nat)(h:b<65536):a*65536 ||| b=a*65536+b:=vM a b 16 h
theorem or8(a b:Nat)(h:b<256):a*256 ||| b=a*256+b:=vM a b 8 h
theorem adI(a b c d:Nat)(f:b<256)(g:c<256)(e:d<256):((a*16777216 ||| b*65536) ||| c*256) ||| d=256*(256*(256*a+b)+c)+d:=by
 rw[aij _ _ (by omega),show a*16777216+b*65536=(a*256+b)*65536 by omega,air _ _ (by omega),show(a*256+b)*65536+c*256=((a*256+b)*256+c)*256 by omega,or8 _ _ e];omega
theorem agl(a b c d:Nat)(l:a<256)(g:b<256)(h:c<256)(i:d<256):bits BinOp.or IntKind.u32 (bits BinOp.or IntKind.u32 (bits BinOp.or IntKind.u32 ((a:Int)*16777216) ((b:Int)*65536)) ((c:Int)*256)) (d:Int)=((256*(256*(256*(256*0+a)+b)+c)+d:Nat):Int):=by
 have e:=ae6 (a*16777216) (b*65536) (by omega) (by omega);have j:=aij a (b*65536) (by omega);have f:=ae6 (a*16777216 ||| b*65536) (c*256) (by omega) (by omega);have m:a*16777216 ||| b*65536 ||| c*256=a*16777216+b*65536+c*256:=by
  rw[j,show a*16777216+b*65536=(a*256+b)*65536 by omega,air _ _ (by omega)]
 have k:=ae6 (a*16777216 ||| b*65536 ||| c*256) d (by omega) (by omega);simp only[Int.natCast_mul]at e f;rw[show((a:Int)*16777216)=(a:Int)*((16777216:Nat):Int)from rfl,show((b:Int)*65536)=(b:Int)*((65536:Nat):Int)from rfl,show((c:Int)*256)=(c:Int)*((256:Nat):Int)from rfl,e,f,k,adI a b c d g h i]
 congr 1
 omega
theorem afm(s:ByteArray)(w:World)(h:4<=s.size):Calls prog 248 #[.string s] w fun e w'=>e=.returned (.int .u32 (eg (s.data.toList.take 4):Nat))∧∃m,w'=w.drewN m:=by
 have a:=UInt8.toNat_lt (s[0]'(by omega));have b:=UInt8.toNat_lt (s[1]'(by omega));have c:=UInt8.toNat_lt (s[2]'(by omega));have d:=UInt8.toNat_lt (s[3]'(by omega));have f:=eV s 0 0 (by omega) rfl;have g:=eV s 1 1 (by omega) rfl;have i:=eV s 2 2 (by omega) rfl;have j:=eV s 3 3 (by omega) rfl;rw[ah6 s h];simp only[eg,List.foldl_cons,List.foldl_nil];generalize (s[0]'(by omega)).toNat=k at a f ⊢;generalize (s[1]'(by omega)).toNat=l at b g ⊢;generalize (s[2]'(by omega)).toNat=n at c i ⊢;generalize (s[3]'(by omega)).toNat=o at d j ⊢;have p:=hid (agl k l n o a b c d);clear h
 go_enter func248,ntmps248
 go_wp2
 go_quiet (fail)
 go_wp2
 go_ret
 exact⟨fJ p,_,rfl⟩
def bA(l:List UInt8):ByteArray:=⟨l.toArray⟩
theorem ep(l:List UInt8):(bA l).data.toList=l:=by simp[bA]
theorem bX(l:List UInt8):(bA l).size=l.length:=by rw[bj,ep]
def ve(n:Nat)(s:St):Value:=.agg #[.int .i64 s.ph,.int .i64 s.pr,.int .i64 s.at_,.int .u32 n]
theorem OwnB.nil(w:World)(base:Nat):OwnB w base (.slice none 0 0) []:=World.ownsRow_nil _ _ _ _
theorem OwnB.at_{w:World}{base:Nat}{v:Value}{l:List UInt8}(h:OwnB w base v l)(h0:0<l.length):∃g cap,v=.slice (some ⟨g,0,none⟩) l.length cap∧agN w g 0 l:=by
 rcases h.2 with⟨_,j⟩|⟨g,cap,b,d,k,e,m,n,o,f⟩
 ·omega
 ·refine⟨g,cap,d,fun a i=>?_⟩
  rw[Nat.zero_add,aG w g a b _ _ e];have c:(b.toList.take (l.length*1))[a]?=(fg l)[a]?:=by rw[f]
  rw[List.getElem?_take,af (by omega)]at c;rw[<-Array.getElem?_toList,c];simp[fg,i]
theorem OwnB.app{w W w':World}{base:Nat}{v v':Value}{l r:List UInt8}(a:base<=w.heap.size)(h:OwnB w base v l)(b:Below w.heap.size w W)(c:w'.ownsRow base 5 1 v' (l.length+r.length) (fg l++fg r))(d:W.grownBy w' v.ownBlock):OwnB w' base v' (l++r)∧Below base w w':=
 ⟨by unfold OwnB;rw[mW,aR];exact c,oq (Below.refl base w) a b h d⟩
theorem tM{w:World}{base:Nat}{v:Value}{l:List UInt8}(h:OwnB w base v l)(h0:0<l.length):(convert 60 9 v).run prog w=.ok (.string (bA l)) w:=by
 obtain⟨a,cap,rfl,b⟩:=h.at_ h0;have:=run_convert_bytes_back (P:=prog) w 60 9 5 ⟨a,0,none⟩ cap l underlying60 underlying5 underlying9 (fun c d=>by rw[rI];exact b c d);rw[this];rfl
theorem ait(s:ByteArray)(c:Nat)(w:World)(a:s.size<=1000)(b:io s.data.toList=c):Calls prog 260 #[.string s] w fun e w'=>e=.returned (.int .u32 (c:Int))∧w'=w:=by
 rw[<-b];exact agU s w a
theorem afi(n:Nat)(s:St)(w:World)(Z:n<4294967296)(hs:s.fits):Calls prog 245 #[ve n s] w fun e w'=>e=.returned (.string (bA (aY n s++[165])))∧Below w.heap.size w w':=by
 obtain⟨C,D,E,F,G⟩:=info_parts Tryz.infoB1;obtain⟨h1,h2,h3⟩:=hs;obtain⟨i,l⟩:=nmd (bt n 4);obtain⟨m,o⟩:=nmd (i++[UInt8.ofNat s.ph]);obtain⟨p,q⟩:=nmd (m++bt s.pr 4);obtain⟨c,r⟩:=nmd (p++bt s.at_ 4);obtain⟨j,t⟩:=nmd (c++bt (io c) 4);have HT:Hid (aY n s++[165]=j++[165]):=by
  unfold Hid aY fN;rw[ai1,Nat.mod_eq_of_lt h1,l.out,o.out,q.out,r.out,t.out]
 have H:i.length=4:=by rw[<-l.out];exact bC 4 n
 have l2:m.length=5:=by rw[<-o.out];simp[H]
 have l3:p.length=9:=by rw[<-q.out];simp[bC,l2]
 have l4:c.length=13:=by rw[<-r.out];simp[bC,l3]
 have l5:j.length=17:=by rw[<-t.out];simp[bC,l4]
 have HP:Hid (((UInt8.ofNat s.ph).toNat:Int)=(s.ph:Int)):=by
  unfold Hid;rw[UInt8.toNat_ofNat',Nat.mod_eq_of_lt (by omega)]
 unfold ve;obtain⟨g,k⟩:=nmb (w.alloc (.cells #[iV s.ph,iV s.pr,iV s.at_,.int .u32 n] 164));have a5:g.heap.size=w.heap.size+1:=by rw[k.out];simp
 have d:Hid (∀b,Below (w.heap.size+1) g b->w.heap.size+1<=b.heap.size∧b.cell? ⟨w.heap.size,0,none⟩=some (iV s.ph)∧b.cell? ⟨w.heap.size,1,none⟩=some (iV s.pr)∧b.cell? ⟨w.heap.size,2,none⟩=some (iV s.at_)∧bW w b):=by
  intro b f;have u:g.heap[w.heap.size]?=some (.cells #[iV s.ph,iV s.pr,iV s.at_,.int .u32 n] 164 (0,0)):=by rw[k.out];exact aB w _
  refine⟨by have:=f.size;omega,?_,?_,?_,?_⟩
  ·rw[f.cell (by simp),ai u];rfl
  ·rw[f.cell (by simp),ai u];rfl
  ·rw[f.cell (by simp),ai u];rfl
  ·rw[k.out]at f
   exact(aD).trans (f.mono (by omega))
 rw[HT.out]
 go_enter func245,ntmps245
 go_wp2_with fail
 rw[<-k.out];refine(oO (w.heap.size+1) n _ [] _ (OwnB.nil _ _) (by omega) (by simp) Z).mono ?_;rintro e w1 ⟨v1,rfl,v,x⟩;rw[List.nil_append,l.out]at v;obtain⟨z1,c0,-,-,-⟩:=d.out _ x;have I:=hid v
 go_wp2_with (at_builtin;refine wpList_append_own _ rfl (.tmp 7) (.tmp 12) 60 rfl (w.heap.size+1) 5 C (.int .u8 0) 1 1 underlying60 D E F G rfl (by decide) _ i.length (fg i) rfl (by exact World.ownsRow.alloc I _) ⟨w1.heap.size,0,none⟩ 1 1 [.int .u8 (s.ph:Int)] rfl rfl (fM _ _ _) ?c2 ?c3 ?c4 ?c5 ?_)
 case c2=>intro a0 h;simp at h;subst h;rfl
 case c3=>unfold maxLen;omega
 case c4=>omega
 case c5=>simp;omega
 intro v2 w2 J K _;obtain⟨y,L⟩:=OwnB.app (v':=v2) (r:=[UInt8.ofNat s.ph]) z1 I (aD) (by rw[H,show fg [UInt8.ofNat s.ph]=[.int .u8 (s.ph:Int)] by rw[<-HP.out];rfl];exact J) K;rw[o.out]at y;have M:=hid (x.trans L);have a1:=hid y;clear J K v x c0 y L;obtain⟨z2,-,c1,-,-⟩:=d.out _ M
 go_wp2_with fail
 refine(oO (w.heap.size+1) s.pr _ m _ a1 z2 (by omega) h2).mono ?_;rintro e w3 ⟨v3,rfl,z,N⟩;rw[q.out]at z;have a2:=hid z;have O:=hid (M.trans N);clear z N;obtain⟨z3,-,-,c2,-⟩:=d.out _ O
 go_wp2_with fail
 refine(oO (w.heap.size+1) s.at_ _ p _ a2 z3 (by omega) h3).mono ?_;rintro e w4 ⟨v4,rfl,A,P⟩;rw[r.out]at A;have Q:=hid A;have R:=hid (O.trans P);clear A P;obtain⟨z4,-,-,-,-⟩:=d.out _ R;have a3:=tM Q (by omega)
 go_wp2_with fail
 refine(ait (bA c) (io c) _ (by rw[bX];omega) (by rw[ep])).mono ?_;rintro e b ⟨rfl,hx⟩;subst b;clear a3
 go_wp2_with fail
 refine(oO (w.heap.size+1) (io c) _ c _ Q z4 (by omega) (yl c)).mono ?_;rintro e w5 ⟨v5,rfl,B,S⟩;rw[t.out]at B;have T:=hid B;have U:=hid (R.trans S);clear B S;obtain⟨z5,-,-,-,-⟩:=d.out _ U
 go_wp2_with (at_builtin;refine wpList_append_own _ rfl (.tmp 31) (.tmp 32) 60 rfl (w.heap.size+1) 5 C (.int .u8 0) 1 1 underlying60 D E F G rfl (by decide) _ j.length (fg j) rfl (by exact World.ownsRow.alloc T _) ⟨w5.heap.size,0,none⟩ 1 1 [.int .u8 165] rfl rfl (fM _ _ _) ?c2 ?c3 ?c4 ?c5 ?_)
 case c2=>intro a0 h;simp at h;subst h;rfl
 case c3=>unfold maxLen;omega
 case c4=>omega
 case c5=>simp;omega
 intro v6 w6 V W _;obtain⟨X,Y⟩:=OwnB.app (v':=v6) (r:=[165]) z5 T (aD) (by rw[l5];exact V) W;have a6:=tM X (by simp);have a4:=hid (d _ (U.trans Y)).2.2.2.2;clear V W X Y
 go_wp2
 go_ret
 exact⟨rfl,a4⟩
theorem sX(d n:Nat)(w:World)(a:d<=100)(b:n<4294967296):Calls prog 198 #[.int .i64 d,.int .u32 n] w fun e w'=>e=.returned (.int .i64 ((18*(2*d+n%2):Nat):Int))∧w'=w:=by
 go_enter func198,ntmps198
 go_wp2
 go_ret
 exact⟨fJ (by omega),rfl⟩
theorem ln(d:Int)(w:World):Calls prog 188 #[.int .i64 d] w fun e w'=>e=.returned (.bool (decide (0<=d∧d<6)))∧w'=w:=by
 by_cases a:0<=d
 ·go_enter func188,ntmps188
  go_wp2
  go_ret
  exact⟨by simp[a],rfl⟩
 ·go_enter func188,ntmps188
  go_wp2
  go_ret
  exact⟨by simp;omega,rfl⟩
theorem lA(d:Int)(w:World):Calls prog 257 #[.int .i64 d] w fun e w'=>e=.returned (.bool (decide (0<=d∧d<=1048576)))∧w'=w:=by
 by_cases a:0<=d
 ·go_enter func257,ntmps257
  go_wp2
  go_ret
  exact⟨by simp[a],rfl⟩
 ·go_enter func257,ntmps257
  go_wp2
  go_ret
  exact⟨by simp;omega,rfl⟩
def fQ(ph pr at_:Int):Bool:=decide (0<=ph∧ph<=255∧0<=pr∧pr<=1048576∧0<=at_∧at_<=1048576)
theorem aeH(ph pr at_:Int):(decide (0<=ph)&&decide (ph<=255)&&decide (0<=pr∧pr<=1048576)&&decide (0<=at_∧at_<=1048576))=fQ ph pr at_:=by
 unfold fQ;rw[<-Bool.decide_and,<-Bool.decide_and,<-Bool.decide_and];exact decide_eq_decide.2 ⟨fun⟨⟨⟨a,b⟩,c,d⟩,e,f⟩=>⟨a,b,c,d,e,f⟩,fun⟨a,b,c,d,e,f⟩=>⟨⟨⟨a,b⟩,c,d⟩,e,f⟩⟩
theorem vj(ph pr at_:Int)(w:World):Calls prog 243 #[.agg #[.int .i64 ph,.int .i64 pr,.int .i64 at_]] w fun e w'=>e=.returned (.bool (fQ ph pr at_))∧Below w.heap.size w w':=by
 have b:=hid ((Below.refl w.heap.size w).alloc aj (.cells #[iV ph,iV pr,iV at_] 80));obtain⟨i,d⟩:=nmd (fQ ph pr at_);rw[d.out];obtain⟨n,f⟩:=nmd (decide (0<=pr∧pr<=1048576));obtain⟨q,j⟩:=nmd (decide (0<=at_∧at_<=1048576));have h:=aeH ph pr at_;rw[f.out,j.out,d.out]at h;have c:=hid h;clear h;clear d
 by_cases k:0<=ph
 ·by_cases l:ph<=255
  ·cases n with
   | true =>
    go_enter func243,ntmps243
    go_wp2_with (first|(go_at_call 257;with_reducible refine(lA pr _).mono ?_;rw[f.out];rintro e a ⟨rfl,m⟩;subst a)|(go_at_call 257;with_reducible refine(lA at_ _).mono ?_;rw[j.out];rintro e a ⟨rfl,m⟩;subst a))
    go_ret
    exact⟨by rw[<-c.out];simp[k,l],b⟩
   | false =>
    go_enter func243,ntmps243
    go_wp2_with (first|(go_at_call 257;with_reducible refine(lA pr _).mono ?_;rw[f.out];rintro e a ⟨rfl,m⟩;subst a))
    go_ret
    exact⟨by rw[<-c.out];simp,b⟩
  ·have o:=hid (aS l)
   go_enter func243,ntmps243
   go_wp2_with fail
   go_ret
   exact⟨by rw[<-c.out,o.out,Bool.and_false];rfl,b⟩
 ·have p:=hid (aS k)
  go_enter func243,ntmps243
  go_wp2_with fail
  go_ret
  exact⟨by rw[<-c.out,p.out];rfl,b⟩
theorem og(s:ByteArray)(a:Nat)(b:Int)(c:b=a)(h:a<=s.size)(w:World):(Instr.slice 9 (.string s) (some (.int .i64 b)) none none).run prog w=.ok (.string (s.extract a s.size)) w:=by
 subst c;rw[run_slice_string_l w 9 s underlying9 .i64 a (by omega) (by omega)];rfl
theorem sj(s:ByteArray)(a b:Nat)(y c:Int)(d:y=a)(e:c=b)(h:a<=b)(f:b<=s.size)(w:World):(Instr.slice 9 (.string s) (some (.int .i64 y)) (some (.int .i64 c)) none).run prog w=.ok (.string (s.extract a b)) w:=by
 subst d e;rw[run_slice_string w 9 s .i64 .i64 a b underlying9 (by omega) (by omega) (by omega)];rfl
theorem aao(s:ByteArray)(b:Nat)(a:Int)(c:a=b)(d:b<=s.size)(w:World):(Instr.slice 9 (.string s) none (some (.int .i64 a)) none).run prog w=.ok (.string (s.extract 0 b)) w:=by
 subst c;rw[run_slice_string_h w 9 s underlying9 .i64 b (by omega) (by omega)];rfl
theorem rV(s:ByteArray)(n:Nat)(w:World)(h:4<=s.size)(a:eg (s.data.toList.take 4)=n):Calls prog 248 #[.string s] w fun e w'=>e=.returned (.int .u32 (n:Int))∧∃m,w'=w.drewN m:=by
 rw[<-a];exact afm s w h
theorem uH(s:ByteArray)(i:Nat)(a:Int)(h:i<s.size)(b:a=i)(w:World):(Instr.index 9 (.string s) (.int .i64 a)).run prog w=.ok (.int .u8 ((s[i]'h).toNat:Int)) w:=eV s i a h b w
theorem ae7(w:World)(x:Int)(b:UInt8)(a:(b.toNat:Int)=x):(convert 60 9 (.slice (some ⟨w.heap.size,0,none⟩) 1 1)).run prog (w.alloc (.cells #[.int .u8 x] 5))=.ok (.string (bA [b])) (w.alloc (.cells #[.int .u8 x] 5)):=by
 subst a;have:=run_convert_bytes_back (P:=prog) (w.alloc (.cells #[.int .u8 (b.toNat:Int)] 5)) 60 9 5 ⟨w.heap.size,0,none⟩ 1 [b] underlying60 underlying5 underlying9 (fun c d=>by
  obtain rfl:c=0:=by simpa using d
  rw[rI,aG _ w.heap.size 0 _ _ _ (aB w _)];rfl)
 rw[show([b]:List UInt8).length=1 from rfl]at this;rw[this];rfl
theorem kT(n:Nat)(w:World)(a:n<256):Calls prog 143 #[.int .i64 (n:Int)] w fun e w'=>e=.returned (.string (bA [UInt8.ofNat n]))∧Below w.heap.size w w':=by
 have b:=ae7 w (n:Int) (UInt8.ofNat n) (by rw[UInt8.toNat_ofNat',Nat.mod_eq_of_lt (by omega)])
 go_enter func143,ntmps143
 go_wp2
 go_ret
 exact⟨rfl,aD⟩
theorem zO(i:Nat):∀n,bt n (i+1)=UInt8.ofNat (n / 256^i%256)::bt n i:=by
 induction i with
 | zero=>intro n;simp[bt]
 | succ i a =>
  intro n;rw[bt,a (n / 256),Nat.div_div_eq_div_mul,<-Nat.pow_succ'];rfl
theorem fX(a b:List UInt8):bA a++bA b=bA (a++b):=by
 apply kG;rw[ByteArray.data_append,Array.toList_append,ep,ep,ep]
theorem vG(n k:Nat)(w:World)(j:n<9223372036854775808)(u:k<=4):Calls prog 212 #[.int .i64 (n:Int),.int .i64 (k:Int)] w fun e w'=>e=.returned (.string (bA (bt n k)))∧Below w.heap.size w w':=by
 have l:Hid (∀a,UInt8.ofNat (n / 256^a%256)::bt n a=bt n (a+1)):=fun a=>(zO a n).symm
 have m:Hid (∀a,n / 256^a / 256=n / 256^(a+1)):=fun a=>by rw[Nat.div_div_eq_div_mul,Nat.pow_succ]
 have o:Hid (∀a,n / 256^a<9223372036854775808):=fun a=>Nat.lt_of_le_of_lt (Nat.div_le_self _ _) j
 have p:Hid (n / 256^0=n):=by unfold Hid;simp
 have q:Hid (ByteArray.mk #[]=bA (bt n 0)):=rfl
 go_enter func212,ntmps212
 go_wp2
 go_loopw [0,5,6] (fun c r a wr=>∃b:Nat,b<=k∧a=iV (b:Int)∧c=iV ((n / 256^b:Nat):Int)∧r=.string (bA (bt n b))∧bW w wr) (fun _ _ a _=>k-(intOf a).toNat)
 case atStart=>exact⟨0,Nat.zero_le _,rfl,by rw[p.out],by rw[<-q.out],aF⟩
 case round =>
  obtain⟨b,v,rfl,rfl,rfl,f⟩:=hrel;have d:=hid f;have s:=o.out b;have g:=hid (m b);have h:=hid (l b);clear f
  by_cases x:b<k
  ·generalize n / 256^b=c at s g h ⊢
   have y:(bA [UInt8.ofNat (c%256)]).size=1:=bX _;have z:(bA (bt n b)).size=b:=by rw[bX,bC]
   go_wp2_with (go_at_call 143;refine(kT (c%256) _ (by omega)).mono ?_;rintro e A ⟨rfl,i⟩;have t:=hid (d.trans (i.mono d.size));clear i)
   go_roundw
   case rel=>exact⟨b+1,by omega,by go_num,eF (by rw[<-g.out];omega),by rw[fX,<-h.out];rfl,t⟩
   case measure=>simp[intOf];omega
  ·obtain rfl:b=k:=by omega
   go_wp2
   go_ret
   exact⟨rfl,d⟩
theorem aaX(a b:Nat)(c:a<9223372036854775808)(d:b<9223372036854775808):bits .xor .i64 (a:Int) (b:Int)=((a ^^^ b:Nat):Int):=by
 have e:a ^^^ b<2^63:=Nat.xor_lt_two_pow (by omega) (by omega);show IntKind.i64.wrap ((BitVec.ofInt 64 (a:Int) ^^^ BitVec.ofInt 64 (b:Int)).toNat:Int)=_;rw[BitVec.toNat_xor,iD a c,iD b d,IntKind.wrap_i64];omega
theorem ag8(s:ByteArray)(w:World)(A:s.size<=1000):Calls prog 213 #[.string s] w fun e w'=>e=.returned (.int .i64 (io s.data.toList:Nat))∧w'=w:=by
 go_enter func213,ntmps213
 go_wp2
 go_loop [3,4] (fun b f=>∃c:Nat,c<=s.size∧f=iV (c:Int)∧b=iV (ed 4294967295 (s.data.toList.take c):Nat)) (fun _ f=>s.size-(intOf f).toNat)
 case atStart=>exact⟨0,Nat.zero_le _,rfl,rfl⟩
 case round =>
  obtain⟨c,B,rfl,rfl⟩:=hrel;have j:ed 4294967295 (s.data.toList.take c)<4294967296:=kd _ (by decide)
  by_cases h:c<s.size
  ·have p:=uH s c (c:Int) h rfl
   have q:=UInt8.toNat_lt (s[c]'h);have k:Hid (ed 4294967295 (s.data.toList.take (c+1))=et (ed 4294967295 (s.data.toList.take c)) (s[c]'h).toNat 8):=by
    unfold Hid;rw[<-kU,List.take_add_one,cG (by rw[<-bj];exact h),jC h];rfl
   generalize (s[c]'h).toNat=b at p q k;generalize ed 4294967295 (s.data.toList.take c)=g at j k ⊢
   go_wp2
   go_loop [3,5] (fun d f=>∃a:Nat,a<=8∧f=iV (a:Int)∧d=iV (et g b a:Nat)) (fun _ f=>8-(intOf f).toNat)
   case atStart=>exact⟨0,Nat.zero_le _,rfl,rfl⟩
   case round =>
    obtain⟨a,C,rfl,rfl⟩:=hrel;have r:et g b a<4294967296:=mJ j b a;have l:Hid (et g b (a+1)=ks (et g b a) b a):=rfl
    by_cases D:a<8
    ·generalize et g b a=d at r l ⊢
     have E:b / 2^a<256:=Nat.lt_of_le_of_lt (Nat.div_le_self _ _) (by omega);have t:bits .xor .i64 (d:Int) ((b:Int) / 2^a)=((d ^^^ b / 2^a:Nat):Int):=by
      rw[show((b:Int) / 2^a)=((b / 2^a:Nat):Int) by simp];exact aaX d (b / 2^a) (by omega) (by omega)
     have u:=hid (aaX (d / 2) 3988292384 (by omega) (by decide));have m:Hid (ks d b a=if(d ^^^ b / 2^a)%2=1 then(d / 2) ^^^ 3988292384 else d / 2):=rfl;generalize d ^^^ b / 2^a=i at t m;have v:(i:Int)%2=0∨(i:Int)%2=1:=by omega
     rcases v with n|n
     ·have x:(i:Int).tmod 2=0:=by rw[Int.tmod_eq_emod_of_nonneg (by omega)];exact n
      have o:Hid (et g b (a+1)=d / 2):=by unfold Hid;rw[l.out,m.out,aa (by omega)]
      go_wp2
      all_goals go_round
      case rel=>exact⟨a+1,by omega,by go_num,eF (by rw[o.out];omega)⟩
      case measure=>simp[intOf];omega
     ·have x:(i:Int).tmod 2=1:=by rw[Int.tmod_eq_emod_of_nonneg (by omega)];exact n
      have o:Hid (et g b (a+1)=(d / 2) ^^^ 3988292384):=by unfold Hid;rw[l.out,m.out,af (by omega)]
      go_wp2
      all_goals go_round
      case rel=>exact⟨a+1,by omega,by go_num,eF (by rw[o.out];exact u)⟩
      case measure=>simp[intOf];omega
    ·obtain rfl:a=8:=by omega
     go_wp2
     go_round
     case rel=>exact⟨c+1,by omega,by go_num,eF (by rw[k.out])⟩
     case measure=>simp[intOf];omega
  ·obtain rfl:c=s.size:=by omega
   rw[bj,List.take_length]at j;have y:=hid (aaX (ed 4294967295 s.data.toList) 4294967295 (by omega) (by decide));have z:Hid (s.data.toList.take s.size=s.data.toList):=by unfold Hid;rw[bj,List.take_length]
   rw[z.out]
   go_wp2
   go_ret
   exact⟨fJ y,rfl⟩
theorem mj(n:Nat)(t:ByteArray)(w:World)(a:n<9223372036854775808)(ht:bA (bt n 4)=t):Calls prog 212 #[.int .i64 (n:Int),.int .i64 4] w fun e w'=>e=.returned (.string t)∧Below w.heap.size w w':=by
 rw[<-ht];exact vG n 4 w a (by omega)
theorem adu(n:Nat)(t:ByteArray)(w:World)(a:n<9223372036854775808)(ht:bA (bt n 1)=t):Calls prog 212 #[.int .i64 (n:Int),.int .i64 1] w fun e w'=>e=.returned (.string t)∧Below w.heap.size w w':=by
 rw[<-ht];exact vG n 1 w a (by omega)
theorem aig(s:ByteArray)(c:Nat)(w:World)(a:s.size<=1000)(b:io s.data.toList=c):Calls prog 213 #[.string s] w fun e w'=>e=.returned (.int .i64 (c:Int))∧w'=w:=by
 rw[<-b];exact ag8 s w a
theorem gC{a b c:World}(h:Hid (Below a.heap.size a b))(k:Below b.heap.size b c):Hid (Below a.heap.size a c):=h.out.trans (k.mono h.out.size)
theorem adL(n h1 a b:Nat)(w:World)(O:n<4294967296)(P:h1<256)(Q:a<4294967296)(R:b<4294967296):Calls prog 185 #[.int .i64 (n:Int),.agg #[.int .i64 (h1:Int),.int .i64 (a:Int),.int .i64 (b:Int)]] w fun e w'=>e=.returned (.string (bA (aY n ⟨h1,a,b⟩)))∧Below w.heap.size w w':=by
 obtain⟨c,r⟩:=nmd (w.alloc (.cells #[iV (h1:Int),iV (a:Int),iV (b:Int)] 80));have S:=r.out;have E:Hid (c.heap[w.heap.size]?=some (.cells #[iV (h1:Int),iV (a:Int),iV (b:Int)] 80 (0,0))):=by rw[<-r.out];exact aB w _
 have H:w.heap.size<c.heap.size:=(Array.getElem?_eq_some_iff.1 E.out).1;have F:Hid (bW w c):=by rw[<-r.out];exact aD
 obtain⟨l,s⟩:=nmd (bA (bt n 4));obtain⟨m,t⟩:=nmd (bA (bt h1 1));obtain⟨o,u⟩:=nmd (bA (bt a 4));obtain⟨p,v⟩:=nmd (bA (bt b 4));have T:l.size=4:=by rw[<-s.out,bX,bC]
 have U:m.size=1:=by rw[<-t.out,bX,bC]
 have V:o.size=4:=by rw[<-u.out,bX,bC]
 have W:p.size=4:=by rw[<-v.out,bX,bC]
 have I:Hid (l++m++o++p=bA (fN n ⟨h1,a,b⟩)):=by unfold Hid fN;rw[<-s.out,<-t.out,<-u.out,<-v.out,fX,fX,fX]
 have j:Hid (∀g,bW c g->g.cell? ⟨w.heap.size,0,none⟩=some (iV (h1:Int))∧g.cell? ⟨w.heap.size,1,none⟩=some (iV (a:Int))∧g.cell? ⟨w.heap.size,2,none⟩=some (iV (b:Int))):=by
  intro g q;have x:=(q.block _ H).trans E.out;exact⟨by rw[ai x];rfl,by rw[ai x];rfl,by rw[ai x];rfl⟩
 obtain⟨X,Y,Z⟩:=j.out _ aF
 go_enter func185,ntmps185
 go_wp2_with fail
 have a0:Hid (bW c c.drew):=aF.drew
 go_cut [5]from 6 (fun k g=>k=.string (l++m++o++p)∧Hid (bW c g))
 case first =>
  go_region_held3 (fun w'=>w'.cell? ⟨w.heap.size,0,none⟩=some (iV (h1:Int))∧w'.cell? ⟨w.heap.size,1,none⟩=some (iV (a:Int))∧w'.cell? ⟨w.heap.size,2,none⟩=some (iV (b:Int))) (go_keep) (first|(go_at_call 212;(with_reducible refine(mj n l _ (by omega) s.out).mono ?_);rintro e y ⟨rfl,d⟩;have h:=gC (by assumption) d;obtain⟨z,A,B⟩:=j.out _ h;clear d)|(go_at_call 212;(with_reducible refine(adu h1 m _ (by omega) t.out).mono ?_);rintro e y ⟨rfl,d⟩;have h:=gC (by assumption) d;obtain⟨z,A,B⟩:=j.out _ h;clear d)|(go_at_call 212;(with_reducible refine(mj a o _ (by omega) u.out).mono ?_);rintro e y ⟨rfl,d⟩;have h:=gC (by assumption) d;obtain⟨z,A,B⟩:=j.out _ h;clear d)|(go_at_call 212;(with_reducible refine(mj b p _ (by omega) v.out).mono ?_);rintro e y ⟨rfl,d⟩;have h:=gC (by assumption) d;obtain⟨z,A,B⟩:=j.out _ h;clear d))
  all_goals go_step
  all_goals go_step
  all_goals go_meet
  all_goals exact⟨rfl,by assumption⟩
 case rest =>
  obtain⟨rfl,q⟩:=hcut;rw[I.out];have J:(bA (fN n ⟨h1,a,b⟩)).size=13:=by rw[bX,oj]
  obtain⟨i,C⟩:=nmd (io (fN n ⟨h1,a,b⟩));have K:i<9223372036854775808:=by rw[<-C.out];have:=yl (fN n ⟨h1,a,b⟩);omega
  obtain⟨k,D⟩:=nmd (bA (bt i 4));have z5:k.size=4:=by rw[<-D.out,bX,bC]
  have L:Hid (bA (fN n ⟨h1,a,b⟩)++k=bA (aY n ⟨h1,a,b⟩)):=by unfold Hid aY;rw[<-D.out,fX,C.out]
  have M:=q;clear q
  go_wp2_with fail
  refine(aig _ i _ (by rw[J];decide) (by rw[ep];exact C)).mono ?_;rintro e g ⟨rfl,hx⟩;subst g
  go_wp2_with fail
  refine(mj i k _ K D.out).mono ?_;rintro e w9 ⟨rfl,G⟩;have N:=gC M G;clear G
  go_wp2_with fail
  go_ret
  exact⟨by rw[<-L.out];rfl,F.trans (N.mono F.size)⟩
end Go.Proofs.YtaehdgemkafinaaGreatDoor
