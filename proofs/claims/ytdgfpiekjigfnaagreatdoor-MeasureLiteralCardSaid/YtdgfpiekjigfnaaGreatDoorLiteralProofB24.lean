/-
  Parts of the proof.
-/
import Derived.Test.YtdgfpiekjigfnaaGreatDoorLiteralProofA0
import Derived.Lib.MapLaws
import Derived.Lib.RuneCountTail
import Derived.Lib.Strings
import Derived.Test.YtdgfpiekjigfnaaGreatDoorLiteralProofB16
import Derived.Test.YtdgfpiekjigfnaaGreatDoorLiteralProofB15
import Derived.Test.YtdgfpiekjigfnaaGreatDoorLiteralProofB17
import Derived.Test.YtdgfpiekjigfnaaGreatDoorLiteralProofB22
namespace Go.Proofs.YtdgfpiekjigfnaaGreatDoor
open Go Go.RowKit
section
open Go
def wd(s:ByteArray)(p:Nat):Nat:=(Utf8.decode s p).2
def bad(s:ByteArray)(p:Nat):Bool:=decide (Utf8.decode s p=(65533,1))
def ch(s:ByteArray)(p:Nat):Int:=if bad s p then -1 else (Utf8.decode s p).1
def bt(s:ByteArray)(i:Nat):Nat:=(s.data.toList.getD i 0).toNat
theorem mW(s:ByteArray)(i:Nat):bt s i<256:=UInt8.toNat_lt _
theorem cI(s:ByteArray):s.data.toList.length=s.size:=(Lib.size_eq s).symm
theorem lR(s:ByteArray)(p:Nat):Utf8.decode s p=Lib.decodeN (s.size-p) (bt s p) (bt s (p+1)) (bt s (p+2)) (bt s (p+3)):=by
 rw [Lib.decode_N,cI];rfl
theorem aT9(s:ByteArray)(p:Nat):1<=wd s p:=Lib.width_pos s p
theorem bU1(s:ByteArray)(p:Nat):(Utf8.decode s p).1<=1114111:=Lib.rune_le s p
theorem nM(n b0 b1 b2 b3:Nat):Lib.decodeN n b0 b1 b2 b3=(65533,1)\/(b0<128/\Lib.decodeN n b0 b1 b2 b3=(b0,1)) \/
  (1<n/\b0/32=6/\b1/64=2/\128<=b0%32*64+b1%64/\Lib.decodeN n b0 b1 b2 b3=(b0%32*64+b1%64,2)) \/
  (2<n/\b0/16=14/\b1/64=2/\b2/64=2/\2048<=b0%16*4096+b1%64*64+b2%64/\(b0%16*4096+b1%64*64+b2%64<55296\/57344<=b0%16*4096+b1%64*64+b2%64)/\Lib.decodeN n b0 b1 b2 b3=(b0%16*4096+b1%64*64+b2%64,3)) \/
  (3<n/\b0/8=30/\b1/64=2/\b2/64=2/\b3/64=2/\65536<=b0%8*262144+b1%64*4096+b2%64*64+b3%64/\b0%8*262144+b1%64*4096+b2%64*64+b3%64<=1114111/\Lib.decodeN n b0 b1 b2 b3=(b0%8*262144+b1%64*4096+b2%64*64+b3%64,4)):=by
 unfold Lib.decodeN;by_cases h0:b0<128
 ·rw [if_pos h0];exact .inr (.inl ⟨h0,rfl⟩)
 rw [if_neg h0]
 split
 ·rename_i h
  split
  ·rename_i g
   exact .inr (.inr (.inl ⟨h.2.1,h.1,h.2.2,g,rfl⟩))
  ·exact .inl rfl
 split
 ·rename_i h
  split
  ·rename_i g
   exact .inr (.inr (.inr (.inl ⟨h.2.2.1,h.1,h.2.1.2,h.2.2.2,g.1,by omega,rfl⟩)))
  ·exact .inl rfl
 split
 ·rename_i h
  split
  ·rename_i g
   exact .inr (.inr (.inr (.inr ⟨h.2.2.2.1,h.1,h.2.1.2,h.2.2.1.2,h.2.2.2.2,g.1,by omega,rfl⟩)))
  ·exact .inl rfl
 exact .inl rfl
theorem aU0(s:ByteArray)(p:Nat)(h:p<s.size):wd s p<=4/\p+wd s p<=s.size:=by
 unfold wd;rw [lR];rcases nM (s.size-p) (bt s p) (bt s (p+1)) (bt s (p+2)) (bt s (p+3)) with e | ⟨_,e⟩ | ⟨_,_,_,_,e⟩ | ⟨_,_,_,_,_,_,e⟩ | ⟨_,_,_,_,_,_,_,e⟩
 all_goals (rw [e];simp only;omega)
theorem bD3{s:ByteArray}{p:Nat}(h:bad s p=true):ch s p=-1/\wd s p=1/\(Utf8.decode s p).1=65533:=by
 have e:Utf8.decode s p=(65533,1):=by simpa [bad] using h
 simp [ch,h,wd,e]
theorem pC{s:ByteArray}{p:Nat}(h:bad s p=false):ch s p=(Utf8.decode s p).1:=by simp [ch,h]
theorem bU3{s:ByteArray}{p:Nat}:ch s p<0↔bad s p=true:=by
 unfold ch
 split
 ·rename_i h;simp [h]
 ·rename_i h
  have:=Int.natCast_nonneg (Utf8.decode s p).1;simp [h]
def bM9(s:ByteArray):Nat->Nat->List (Nat×Int)
 | 0,_=>[]
 | f+1,p=>if p<s.size then (p,ch s p) :: bM9 s f (p+wd s p) else []
def us(s:ByteArray):List (Nat×Int):=bM9 s s.size 0
end
section
open Go
def sl(s:ByteArray)(p n:Nat):List UInt8:=(s.data.toList.drop p).take n
theorem bW3(s:ByteArray)(p:Nat):Lib.decodeL (s.data.toList.drop p)=Utf8.decode s p:=by
 rw [Lib.decodeL_N,Lib.decode_N,aAS];simp only [aAH,aCB,aAR]
theorem wU(s:ByteArray)(p:Nat)(hp:p<s.size)(hb:bad s p=false):Lib.encodeRune ((Utf8.decode s p).1:Int)=sl s p (wd s p):=by
 have hne:s.data.toList.drop p≠[]:=by
  intro e;have:=congrArg List.length e;rw [aAS,cI] at this;simp at this;omega
 have:=Lib.encode_decode (s.data.toList.drop p) hne (by
  rw [bW3];rintro ⟨h1,h2⟩;have:bad s p=true:=by
   unfold bad;rw [aBI];exact Prod.ext h1 h2
  rw [hb] at this;cases this)
 rw [bW3] at this;exact this
theorem mN(s:ByteArray)(p:Nat):Lib.validRune ((Utf8.decode s p).1:Int)=true:=by
 have q0:=mW s p;rw [lR];unfold Lib.validRune;rw [aBI];rcases nM (s.size-p) (bt s p) (bt s (p+1)) (bt s (p+2)) (bt s (p+3)) with k | ⟨_,k⟩ | ⟨_,_,_,_,k⟩ | ⟨_,_,_,_,_,_,k⟩ | ⟨_,_,_,_,_,_,_,k⟩
 all_goals (rw [k];simp only;omega)
theorem lB{s:ByteArray}{p n i:Nat}{l:List UInt8}(h:sl s p n=l)(hi:i<l.length):bt s (p+i)=(l[i]).toNat/\i<s.size-p:=by
 have hl:i<((s.data.toList.drop p).take n).length:=by rw [show (s.data.toList.drop p).take n=l from h];exact hi
 have hl':=hl;rw [aAC,aAS,cI] at hl';have e:l[i]?=s.data.toList[p+i]?:=by
  rw [<- h,sl,List.getElem?_take_of_lt (by omega),aCB]
 rw [m7 hi] at e;refine⟨?_,by omega⟩;unfold bt;rw [aAH,<- e]
 rfl
theorem kM{s:ByteArray}{p:Nat}{c:Int}(hc:0<=c/\c<=1114111/\(c<55296\/57343<c))(h:sl s p (Lib.encodeRune c).length=Lib.encodeRune c):((Utf8.decode s p).1:Int)=c/\wd s p=(Lib.encodeRune c).length/\bad s p=false:=by
 obtain⟨r0,r1,r2⟩:=hc;have key:∀ (m:Nat),Utf8.decode s p=(c.toNat,m)->(c.toNat,m)≠((65533,1):Nat×Nat)->((Utf8.decode s p).1:Int)=c/\wd s p=m/\bad s p=false:=fun m e hne=>by
  refine⟨by rw [e];simp only;omega,by unfold wd;rw [e],?_⟩;unfold bad;rw [e];simpa using hne
 by_cases h1:c<=127
 ·have hE:Lib.encodeRune c=[c].map fun x=>x.toNat.toUInt8:=by rw [Lib.encodeRune,Lib.encodeRuneZ_one r0 h1]
  rw [hE] at h ⊢;obtain⟨b0,s0⟩:=lB h (i:=0) (by simp);simp at b0;refine key 1 ?_ (by simp;omega);rw [lR];have:bt s p=c.toNat:=by omega
  rw [this];unfold Lib.decodeN;rw [if_pos (by omega)]
 by_cases h2:c<=2047
 ·have hE:Lib.encodeRune c=[192+c/64,128+c%64].map fun x=>x.toNat.toUInt8:=by rw [Lib.encodeRune,Lib.encodeRuneZ_two (by omega) h2]
  rw [hE] at h ⊢;obtain⟨b0,s0⟩:=lB h (i:=0) (by simp);obtain⟨b1,s1⟩:=lB h (i:=1) (by simp);simp at b0 b1;refine key 2 ?_ (by simp);rw [lR];have e0:bt s p=192+c.toNat/64:=by omega
  have e1:bt s (p+1)=128+c.toNat%64:=by omega
  have hl:c.toNat<=2047:=by omega
  have hg:128<=c.toNat:=by omega
  rw [e0,e1];generalize c.toNat=m at *;unfold Lib.decodeN;rw [if_neg (by omega),if_pos (by omega),if_pos (by omega)];apply Prod.ext <;> simp only <;> omega
 by_cases h3:c<=65535
 ·have hE:Lib.encodeRune c=[224+c/4096,128+c/64%64,128+c%64].map fun x=>x.toNat.toUInt8:=by rw [Lib.encodeRune,Lib.encodeRuneZ_three (by omega)]
  rw [hE] at h ⊢;obtain⟨b0,s0⟩:=lB h (i:=0) (by simp);obtain⟨b1,s1⟩:=lB h (i:=1) (by simp);obtain⟨b2,s2⟩:=lB h (i:=2) (by simp);simp at b0 b1 b2;refine key 3 ?_ (by simp);rw [lR];have e0:bt s p=224+c.toNat/4096:=by omega
  have e1:bt s (p+1)=128+c.toNat/64%64:=by omega
  have e2:bt s (p+2)=128+c.toNat%64:=by omega
  have hl:c.toNat<=65535:=by omega
  have hg:2048<=c.toNat:=by omega
  have hv:c.toNat<55296\/57344<=c.toNat:=by omega
  rw [e0,e1,e2];generalize c.toNat=m at *;unfold Lib.decodeN;rw [if_neg (by omega),if_neg (by omega),if_pos (by omega),if_pos (by omega)];apply Prod.ext <;> simp only <;> omega
 ·have hE:Lib.encodeRune c=[240+c/262144,128+c/4096%64,128+c/64%64,128+c%64].map fun x=>x.toNat.toUInt8:=by rw [Lib.encodeRune,Lib.encodeRuneZ_four (by omega) (by omega)]
  rw [hE] at h ⊢;obtain⟨b0,s0⟩:=lB h (i:=0) (by simp);obtain⟨b1,s1⟩:=lB h (i:=1) (by simp);obtain⟨b2,s2⟩:=lB h (i:=2) (by simp);obtain⟨b3,s3⟩:=lB h (i:=3) (by simp);simp at b0 b1 b2 b3;refine key 4 ?_ (by simp);rw [lR];have e0:bt s p=240+c.toNat/262144:=by omega
  have e1:bt s (p+1)=128+c.toNat/4096%64:=by omega
  have e2:bt s (p+2)=128+c.toNat/64%64:=by omega
  have e3:bt s (p+3)=128+c.toNat%64:=by omega
  have hl:c.toNat<=1114111:=by omega
  have hg:65536<=c.toNat:=by omega
  rw [e0,e1,e2,e3];generalize c.toNat=m at *;unfold Lib.decodeN;rw [if_neg (by omega),if_neg (by omega),if_neg (by omega),if_pos (by omega),if_pos (by omega)];apply Prod.ext <;> simp only <;> omega
end
section
structure Ln where
 s:ByteArray
 c:Bool
 o:Bool
 u:Nat->Bool
structure Cf where
 p:Nat
 g:lIi
def uni(c:Bool)(s:ByteArray)(p:Nat):Int×Nat:=if c then (ch s p,wd s p) else ((bt s p:Int),1)
def bA1(l:lIi)(x:Int):Bool:=l.any fun r=>decide (r.1<=x)&&decide (x<=r.2)
theorem bF8(c:Bool)(s:ByteArray)(p:Nat):1<=(uni c s p).2:=by
 unfold uni
 split
 ·exact aT9 s p
 ·exact aAB 1
theorem aB6{c:Bool}{s:ByteArray}{p:Nat}(h:p<s.size):p+(uni c s p).2<=s.size/\(uni c s p).2<=4:=by
 unfold uni
 split
 ·exact⟨(aU0 s p h).2,(aU0 s p h).1⟩
 ·exact⟨h,by simp⟩
def dK(L:Ln)(f:Fl)(i:Nat):Option Nat:=
 if f.k=2 then (if i<L.s.size/\0<=(uni L.c L.s i).1/\bA1 f.rs (uni L.c L.s i).1=true then some (i+(uni L.c L.s i).2) else none)
 else if f.k=3 then (if i=0 then some i else none)
 else if f.k=4 then (if i=L.s.size then some i else none)
 else some i
def smB(b:Nat):Nat:=if 65<=b/\b<=90 then b+32 else b
def alk(o:Bool)(a b:Nat):Bool:=a==b ||(o&&smB a==smB b)
def gQ(L:Ln)(q:Int×Int)(i:Nat):Option Nat:=
 if q.1<0\/L.s.size<i+(q.2-q.1).toNat then none
 else if ∀ k,k<(q.2-q.1).toNat->alk L.o (bt L.s (q.1.toNat+k)) (bt L.s (i+k))=true then some (i+(q.2-q.1).toNat) else none
def aF1(g:lIi)(n:Int):Int×Int:=g.getD n.toNat (-1,-1)
def kep(L:Ln)(n:Int):Bool:=decide (n<10)&&L.u n.toNat
def iB(L:Ln)(n:Int)(x z:Cf):Cf:=⟨z.p,if kep L n then z.g.set n.toNat ((x.p:Int),(z.p:Int)) else z.g⟩
def Tn(R:Cf->Cf->Prop)(mn:Nat):Nat->Cf->Cf->Prop
 | 0,x,y=>y=x
 | k+1,x,y=>∃ z,Tn R mn k x z/\R z y/\(mn<=k->z.p<y.p)
def Rp(R:Cf->Cf->Prop)(mn mx:Int)(x y:Cf):Prop:=∃ k:Nat,mn.toNat<=k/\(mx=-1\/(k:Int)<=mx)/\Tn R mn.toNat k x y
mutual
def Mt(L:Ln):Tr->Cf->Cf->Prop
 | .mk f ks,x,y=>
  if f.k=5 then MtC L ks x y
  else if f.k=6 then MtA L ks x y
  else if f.k=7 then ∃ z,MtA L ks x z/\y=iB L f.n x z
  else if f.k=8 then gQ L (aF1 x.g f.n) x.p=some y.p/\y.g=x.g
  else if f.k=9 then Rp (fun x y=>MtA L ks x y) f.mn f.mx x y
  else dK L f x.p=some y.p/\y.g=x.g
def MtC(L:Ln):List Tr->Cf->Cf->Prop
 | [],x,y=>y=x
 | t :: ts,x,y=>∃ z,Mt L t x z/\MtC L ts z y
def MtA(L:Ln):List Tr->Cf->Cf->Prop
 | [],_,_=>False
 | t :: ts,x,y=>Mt L t x y\/MtA L ts x y
end
variable {L:Ln}
theorem eG(t:Tr)(x y:Cf):Mt L t x y ↔
  if t.f.k=5 then MtC L t.ks x y
  else if t.f.k=6 then MtA L t.ks x y
  else if t.f.k=7 then ∃ z,MtA L t.ks x z/\y=iB L t.f.n x z
  else if t.f.k=8 then gQ L (aF1 x.g t.f.n) x.p=some y.p/\y.g=x.g
  else if t.f.k=9 then Rp (fun x y=>MtA L t.ks x y) t.f.mn t.f.mx x y
  else dK L t.f x.p=some y.p/\y.g=x.g:=by
 cases t with
 | mk f ks=>rw [Mt];rfl
theorem dL(x y:Cf):MtC L [] x y↔y=x:=by rw [MtC]
theorem dP(t:Tr)(ts:List Tr)(x y:Cf):MtC L (t :: ts) x y ↔ ∃ z,Mt L t x z/\MtC L ts z y:=by rw [MtC]
theorem dB(ks:List Tr)(x y:Cf):MtA L ks x y ↔ ∃ t∈ks,Mt L t x y:=by
 induction ks with
 | nil=>rw [MtA];simp
 | cons t ts ih=>rw [MtA,ih];simp
theorem yU(a:List Tr)(t:Tr):∀ (x y:Cf),MtC L (a++[t]) x y ↔ ∃ z,MtC L a x z/\Mt L t z y:=by
 induction a with
 | nil=>
  intro x y;rw [aAP,dP];constructor
  ·rintro ⟨z,h1,h2⟩;rw [dL] at h2;subst h2;exact⟨x,(dL x x).2 rfl,h1⟩
  ·rintro ⟨z,h1,h2⟩;rw [dL] at h1;subst h1;exact⟨y,h2,(dL y y).2 rfl⟩
 | cons u a ih=>
  intro x y;rw [aAI,dP];constructor
  ·rintro ⟨z,h1,h2⟩;obtain⟨v,h3,h4⟩:=(ih z y).1 h2;exact⟨v,(dP u a x v).2 ⟨z,h1,h3⟩,h4⟩
  ·rintro ⟨v,h3,h4⟩;obtain⟨z,h1,h2⟩:=(dP u a x v).1 h3;exact⟨z,h1,(ih z y).2 ⟨v,h2,h4⟩⟩
theorem yV(a:List Tr)(t:Tr)(x y:Cf):MtA L (a++[t]) x y↔MtA L a x y\/Mt L t x y:=by
 rw [dB,dB];constructor
 ·rintro ⟨u,hu,h⟩;rcases o5.1 hu with e | e
  ·exact .inl ⟨u,e,h⟩
  ·rw [v9.1 e] at h;exact .inr h
 ·rintro (⟨u,hu,h⟩ | h)
  ·exact⟨u,o5.2 (.inl hu),h⟩
  ·exact⟨t,by simp,h⟩
structure Vf(L:Ln)(x:Cf):Prop where
 p:x.p<=L.s.size
 g:x.g.length=10
 q:∀ (i:Nat) (q:Int×Int),x.g[i]?=some q->q=(-1,-1)\/(0<=q.1/\q.1<=q.2/\q.2<=(L.s.size:Int))
theorem sN{f:Fl}{i j:Nat}(h:dK L f i=some j)(hi:i<=L.s.size):i<=j/\j<=L.s.size:=by
 unfold dK at h
 split at h
 ·split at h
  ·rename_i h1
   have:=t8 h;have:=(aB6 (c:=L.c) h1.1).1;omega
  ·cases h
 ·split at h
  ·split at h
   ·have:=t8 h;omega
   ·cases h
  ·split at h
   ·split at h
    ·have:=t8 h;omega
    ·cases h
   ·have:=t8 h;omega
theorem bE1{q:Int×Int}{i j:Nat}(h:gQ L q i=some j):i<=j/\j<=L.s.size:=by
 unfold gQ at h
 split at h
 ·cases h
 ·split at h
  ·have:=t8 h;omega
  ·cases h
theorem aF0{n:Int}{x z:Cf}(hz:Vf L z)(h:x.p<=z.p):Vf L (iB L n x z):=by
 refine⟨hz.p,?_,fun i q hq=>?_⟩
 ·unfold iB;simp only
  split
  ·rw [aAW];exact hz.g
  ·exact hz.g
 ·unfold iB at hq;simp only at hq
  split at hq
  ·rw [aBO] at hq
   split at hq
   ·split at hq
    ·have:=t8 hq;subst this;have:=hz.p;exact .inr ⟨by simp only;omega,by simp only;omega,by simp only;omega⟩
    ·cases hq
   ·exact hz.q i q hq
  ·exact hz.q i q hq
theorem xV{R:Cf->Cf->Prop}{mn:Nat}(hR:∀ x y,R x y->Vf L x->Vf L y/\x.p<=y.p):∀ (k:Nat) (x y:Cf),Tn R mn k x y->Vf L x->Vf L y/\x.p<=y.p
 | 0,x,y,h,hx=>by
  have:y=x:=h;subst this;exact⟨hx,aAB _⟩
 | k+1,x,y,h,hx=>by
  obtain⟨z,h1,h2,-⟩:=h;obtain⟨a,b⟩:=xV hR k x z h1 hx;obtain⟨c,d⟩:=hR z y h2 a;exact⟨c,m9 b d⟩
theorem dG(t:Tr):∀ x y,Mt L t x y->Vf L x->Vf L y/\x.p<=y.p:=by
 refine Tr.ind (P:=fun t=>∀ x y,Mt L t x y->Vf L x->Vf L y/\x.p<=y.p) (fun t ih x y h hx=>?_) t;have hA:∀ x y,MtA L t.ks x y->Vf L x->Vf L y/\x.p<=y.p:=fun x y h hx=>by
  obtain⟨u,hu,h⟩:=(dB _ _ _).1 h;exact ih u hu x y h hx
 have hC:∀ ks:List Tr,(∀ u∈ks,u∈t.ks)->∀ x y,MtC L ks x y->Vf L x->Vf L y/\x.p<=y.p:=by
  intro ks
  induction ks with
  | nil=>
   intro _ x y h hx;rw [dL] at h;subst h;exact⟨hx,aAB _⟩
  | cons u us ih2=>
   intro hs x y h hx;obtain⟨z,h1,h2⟩:=(dP _ _ _ _).1 h;obtain⟨a,b⟩:=ih u (hs u (t5 ..)) x z h1 hx;obtain⟨c,d⟩:=ih2 (fun v hv=>hs v (t7 _ hv)) z y h2 a;exact⟨c,m9 b d⟩
 have hl:∀ {j:Nat},x.p<=j/\j<=L.s.size->y.p=j->y.g=x.g->Vf L y/\x.p<=y.p:=fun {j} h1 h2 h3=>by
  refine⟨⟨by rw [h2];exact h1.2,by rw [h3];exact hx.g,by rw [h3];exact hx.q⟩,by rw [h2];exact h1.1⟩
 rw [eG] at h
 split at h
 ·exact hC t.ks (fun _ h=>h) x y h hx
 ·split at h
  ·exact hA x y h hx
  ·split at h
   ·obtain⟨z,h1,rfl⟩:=h;obtain⟨a,b⟩:=hA x z h1 hx;exact⟨aF0 a b,b⟩
   ·split at h
    ·exact hl (bE1 h.1) rfl h.2
    ·split at h
     ·obtain⟨k,-,-,h3⟩:=h;exact xV hA k x y h3 hx
     ·exact hl (sN h.1 hx.p) rfl h.2
def PlT(L:Ln)(t:Tr):Prop:=bL (fun u=>u.f.k≠8/\(u.f.k=7->kep L u.f.n=false)) t
def Ps(L:Ln)(t:Tr)(i j:Nat):Prop:=Mt L t ⟨i,[]⟩ ⟨j,[]⟩
def Pn(R:Cf->Cf->Prop):Prop:=∀ x y,R x y->y.g=x.g/\∀ g,R ⟨x.p,g⟩ ⟨y.p,g⟩
theorem bN1{R:Cf->Cf->Prop}{mn:Nat}(hR:Pn R):∀ k,Pn (Tn R mn k)
 | 0,x,y,h=>by
  have:y=x:=h;subst this;exact⟨rfl,fun g=>rfl⟩
 | k+1,x,y,h=>by
  obtain⟨z,h1,h2,h3⟩:=h;obtain⟨a,b⟩:=bN1 hR k x z h1;obtain⟨c,d⟩:=hR z y h2;exact⟨c.trans a,fun g=>⟨⟨z.p,g⟩,b g,d g,h3⟩⟩
theorem aJ6(t:Tr):PlT L t->Pn (Mt L t):=by
 refine Tr.ind (P:=fun t=>PlT L t->Pn (Mt L t)) (fun t ih hp x y h=>?_) t;have hk:=fun u hu=>ih u hu (bA hp hu);have h0:=((aQ t).1 hp).1;have hA:Pn (fun x y=>MtA L t.ks x y):=fun x y h=>by
  obtain⟨u,hu,h⟩:=(dB _ _ _).1 h;obtain⟨a,b⟩:=hk u hu x y h;exact⟨a,fun g=>(dB _ _ _).2 ⟨u,hu,b g⟩⟩
 have hC:∀ ks:List Tr,(∀ u∈ks,u∈t.ks)->Pn (fun x y=>MtC L ks x y):=by
  intro ks
  induction ks with
  | nil=>
   intro _ x y h;have h:y=x:=(dL x y).1 h;subst h;exact⟨rfl,fun g=>(dL _ _).2 rfl⟩
  | cons u us ih2=>
   intro hs x y h;obtain⟨z,h1,h2⟩:=(dP _ _ _ _).1 h;obtain⟨a,b⟩:=hk u (hs u (t5 ..)) x z h1;obtain⟨c,d⟩:=ih2 (fun v hv=>hs v (t7 _ hv)) z y h2;exact⟨c.trans a,fun g=>(dP _ _ _ _).2 ⟨⟨z.p,g⟩,b g,d g⟩⟩
 rw [eG] at h;by_cases k5:t.f.k=5
 ·rw [if_pos k5] at h;obtain⟨a,b⟩:=hC t.ks (fun _ h=>h) x y h;exact⟨a,fun g=>(eG t _ _).2 (by rw [if_pos k5];exact b g)⟩
 rw [if_neg k5] at h;by_cases k6:t.f.k=6
 ·rw [if_pos k6] at h;obtain⟨a,b⟩:=hA x y h;exact⟨a,fun g=>(eG t _ _).2 (by rw [if_neg k5,if_pos k6];exact b g)⟩
 rw [if_neg k6] at h;by_cases k7:t.f.k=7
 ·rw [if_pos k7] at h;obtain⟨z,h1,h2⟩:=h;obtain⟨a,b⟩:=hA x z h1;have hn:=h0.2 k7;have e:∀ x z,iB L t.f.n x z=z:=fun x z=>by unfold iB;rw [hn];rfl
  rw [e] at h2;subst h2;exact⟨a,fun g=>(eG t _ _).2 (by rw [if_neg k5,if_neg k6,if_pos k7];exact⟨⟨y.p,g⟩,b g,(e _ _).symm⟩)⟩
 rw [if_neg k7] at h;rw [if_neg h0.1] at h;by_cases k9:t.f.k=9
 ·rw [if_pos k9] at h;obtain⟨k,h1,h2,h3⟩:=h;obtain⟨a,b⟩:=bN1 hA k x y h3;exact⟨a,fun g=>(eG t _ _).2 (by rw [if_neg k5,if_neg k6,if_neg k7,if_neg h0.1,if_pos k9];exact⟨k,h1,h2,b g⟩)⟩
 rw [if_neg k9] at h;exact⟨h.2,fun g=>(eG t _ _).2 (by rw [if_neg k5,if_neg k6,if_neg k7,if_neg h0.1,if_neg k9];exact⟨h.1,rfl⟩)⟩
theorem yT{t:Tr}(hp:PlT L t)(x y:Cf):Mt L t x y↔y.g=x.g/\Ps L t x.p y.p:=by
 constructor
 ·intro h;obtain⟨a,b⟩:=aJ6 t hp x y h;exact⟨a,b []⟩
 ·rintro ⟨a,b⟩;have:=(aJ6 t hp _ _ b).2 x.g;obtain⟨yp,yg⟩:=y;simp only at a this ⊢;subst a;exact this
def cf0(i:Nat):Cf:=⟨i,List.replicate 10 (-1,-1)⟩
theorem mO{i:Nat}(h:i<=L.s.size):Vf L (cf0 i):=by
 refine⟨h,by simp [cf0],fun k q hq=>.inl ?_⟩;have:=n8 hq;exact(List.mem_replicate.1 this).2
theorem bN6{t:Tr}(hp:PlT L t){i j:Nat}(hi:i<=L.s.size)(h:Ps L t i j):i<=j/\j<=L.s.size:=by
 have:=(aJ6 t hp _ _ h).2 (cf0 i).g;obtain⟨a,b⟩:=dG t (cf0 i) ⟨j,(cf0 i).g⟩ this (mO hi);exact⟨b,a.p⟩
end
section
def Chn{T:Type}(V:Tr->T)(Q:T->Nat->Nat->Prop):List Tr->Nat->Nat->Prop
 | [],i,j=>j=i
 | u :: us,i,j=>∃ m,Q (V u) i m/\(u.f.k=3->m=i)/\i<=m/\m<=j/\Chn V Q us m j
def Tq(Q:Nat->Nat->Prop):Nat->Nat->Nat->Prop
 | 0,i,j=>j=i
 | k+1,i,j=>∃ m,Tq Q k i m/\Q m j/\i<=m/\m<=j
structure Kps{T:Type}(L:Ln)(ρ:dE T)(G:Int->T)(Gd:T->Prop)(Q:T->Nat->Nat->Prop):Prop where
 leaf:∀ u:Tr,NP L.c L.o u->(u.f.k=1\/u.f.k=2\/u.f.k=3\/u.f.k=4)->∀ i j,dK L u.f i=some j->i<=L.s.size->Q (ρ u.f u.ks [] G) i j
 cat:∀ u:Tr,NP L.c L.o u->u.f.k=5->(∀ v∈u.ks,Gd (evG ρ G v))->∀ i j,Chn (evG ρ G) Q u.ks i j->Q (ρ u.f u.ks (u.ks.map (evG ρ G)) G) i j
 alt:∀ u:Tr,u.f.k=6->(∀ v∈u.ks,Gd (evG ρ G v))->∀ v∈u.ks,∀ i j,Q (evG ρ G v) i j->Q (ρ u.f u.ks (u.ks.map (evG ρ G)) G) i j
 grp:∀ u v:Tr,u.f.k=7->u.ks=[v]->∀ i j,Q (evG ρ G v) i j->Q (ρ u.f u.ks [evG ρ G v] G) i j
 back:∀ u:Tr,NP L.c L.o u->u.f.k=8->∀ (q:Int×Int) i j,Q (G u.f.n) q.1.toNat q.2.toNat->0<=q.1->q.1<=q.2->q.2<=(L.s.size:Int)->gQ L q i=some j->Q (ρ u.f u.ks [] G) i j
 rep:∀ u v:Tr,NP L.c L.o u->u.f.k=9->u.ks=[v]->Gd (evG ρ G v)->∀ (k:Nat) i j,u.f.mn.toNat<=k->(u.f.mx=-1\/(k:Int)<=u.f.mx)->Tq (Q (evG ρ G v)) k i j->Q (ρ u.f u.ks [evG ρ G v] G) i j
variable {L:Ln} {T:Type} {ρ:dE T} {G:Int->T} {Gd:T->Prop} {Q:T->Nat->Nat->Prop}
def Ev0(G:Int->T)(Q:T->Nat->Nat->Prop)(x:Cf):Prop:=∀ (i:Nat) (q:Int×Int),x.g[i]?=some q->q=(-1,-1)\/Q (G (i:Int)) q.1.toNat q.2.toNat
theorem bB4(i:Nat):Ev0 G Q (cf0 i):=fun _ _ hq=>.inl (List.mem_replicate.1 (n8 hq)).2
theorem bS0{l:List Tr}(h:l.length=1):∃ v,l=[v]:=by
 match l,h with
 | [v],_=>exact⟨v,rfl⟩
theorem rB{c o:Bool}{t:Tr}(h:NP c o t):t.f.k=1\/t.f.k=2\/t.f.k=3\/t.f.k=4\/t.f.k=5\/t.f.k=6\/t.f.k=7\/t.f.k=8\/t.f.k=9:=by
 have h1:=h.1;unfold cY at h1;apply Classical.byContradiction;intro hn;simp only [not_or] at hn;obtain⟨a1,a2,a3,a4,a5,a6,a7,a8,a9⟩:=hn;simp [a1,a2,a3,a4,a5,a6,a7,a8,a9] at h1
theorem mH{c o:Bool}{t:Tr}(h:NP c o t)(hk:t.f.k=1\/t.f.k=2\/t.f.k=3\/t.f.k=4\/t.f.k=8):t.ks=[]:=by
 have h1:=h.1;unfold cY at h1;refine aAL ?_;rcases hk with e | e | e | e | e <;> simp [e] at h1 <;> simp [h1]
theorem nH{c o:Bool}{t:Tr}(h:NP c o t)(hk:t.f.k=7\/t.f.k=9):∃ v,t.ks=[v]:=by
 have h1:=h.1;unfold cY at h1;refine bS0 ?_;rcases hk with e | e <;> simp [e] at h1 <;> simp [h1]
theorem rC{c o:Bool}{t:Tr}(h:NP c o t)(hk:t.f.k=8):1<=t.f.n/\t.f.n<=9:=by
 have h1:=h.1;unfold cY at h1;simp [hk] at h1;exact h1.1
theorem wJ{c o:Bool}{t:Tr}(h:NP c o t)(hk:t.f.k=9):0<=t.f.mn/\t.f.mn<=255/\(t.f.mx=-1\/(t.f.mn<=t.f.mx/\t.f.mx<=255)):=by
 have h1:=h.1;unfold cY at h1;simp [hk] at h1;have h2:=h1.1;unfold fI at h2;simp at h2;omega
theorem aY0{c o:Bool}{t:Tr}(h:NP c o t)(hk:t.f.k=2):mR c o t.f.rs:=by
 have h1:=h.1;unfold cY at h1;simp [hk] at h1;exact h1.1
theorem vA{q:Int×Int}{i j:Nat}(h:gQ L q i=some j):0<=q.1/\j=i+(q.2-q.1).toNat/\∀ k,k<(q.2-q.1).toNat->alk L.o (bt L.s (q.1.toNat+k)) (bt L.s (i+k))=true:=by
 unfold gQ at h
 split at h
 ·cases h
 ·split at h
  ·rename_i h1 h2
   exact⟨by omega,(t8 h).symm,h2⟩
  ·cases h
theorem bK0(K:Kps L ρ G Gd Q)(t:Tr):bL (fun u=>NP L.c L.o u/\(u.f.k=7->G u.f.n=evG ρ G u)/\Gd (evG ρ G u)) t->∀ x y,Mt L t x y->Vf L x->Ev0 G Q x->Q (evG ρ G t) x.p y.p/\Ev0 G Q y:=by
 refine Tr.ind (P:=fun t=>bL (fun u=>NP L.c L.o u/\(u.f.k=7->G u.f.n=evG ρ G u)/\Gd (evG ρ G u)) t->∀ x y,Mt L t x y->Vf L x->Ev0 G Q x->Q (evG ρ G t) x.p y.p/\Ev0 G Q y) (fun t ih he x y h hx h0=>?_) t;obtain⟨hn,hg,-⟩:=((aQ t).1 he).1;have hd:∀ v∈t.ks,Gd (evG ρ G v):=fun v hv=>((aQ v).1 (bA he hv)).1.2.2;have hk:=fun u hu=>ih u hu (bA he hu);have hA:∀ v,t.ks=[v]->∀ x y,MtA L t.ks x y->Mt L v x y:=fun v hv x y h=>by
  rw [hv] at h;obtain⟨u,hu,h⟩:=(dB _ _ _).1 h;rw [v9.1 hu] at h;exact h
 rw [kL,lQ];rw [eG] at h;by_cases k5:t.f.k=5
 ·rw [if_pos k5] at h;have hC:∀ ks:List Tr,(∀ u∈ks,u∈t.ks)->∀ x y,MtC L ks x y->Vf L x->Ev0 G Q x->Chn (evG ρ G) Q ks x.p y.p/\Ev0 G Q y:=by
   intro ks
   induction ks with
   | nil=>
    intro _ x y h hx h0;rw [dL] at h;subst h;exact⟨rfl,h0⟩
   | cons u us ih2=>
    intro hs x y h hx h0;obtain⟨z,h1,h2⟩:=(dP _ _ _ _).1 h;have hu:=hs u (t5 ..);obtain⟨a,b⟩:=hk u hu x z h1 hx h0;obtain⟨c,d⟩:=dG u x z h1 hx;obtain⟨e,f⟩:=ih2 (fun v hv=>hs v (t7 _ hv)) z y h2 c b;have hle:∀ (ks:List Tr) (z y:Cf),MtC L ks z y->Vf L z->z.p<=y.p:=by
     intro ks
     induction ks with
     | nil=>intro z y h _;rw [dL] at h;rw [h];exact aAB _
     | cons v vs ih3=>
      intro z y h hz;obtain⟨w,h1,h2⟩:=(dP _ _ _ _).1 h;obtain⟨c,d⟩:=dG v z w h1 hz;exact m9 d (ih3 w y h2 c)
    refine⟨⟨z.p,a,fun k3=>?_,d,hle us z y h2 c,e⟩,f⟩;rw [eG] at h1;simp [k3] at h1;have h3:=h1.1;unfold dK at h3;simp [k3] at h3;omega
  obtain⟨a,b⟩:=hC t.ks (fun _ h=>h) x y h hx h0;exact⟨K.cat t hn k5 hd _ _ a,b⟩
 rw [if_neg k5] at h;by_cases k6:t.f.k=6
 ·rw [if_pos k6] at h;obtain⟨u,hu,h⟩:=(dB _ _ _).1 h;obtain⟨a,b⟩:=hk u hu x y h hx h0;exact⟨K.alt t k6 hd u hu _ _ a,b⟩
 rw [if_neg k6] at h;by_cases k7:t.f.k=7
 ·rw [if_pos k7] at h;obtain⟨z,h1,rfl⟩:=h;obtain⟨v,hv⟩:=nH hn (.inl k7);obtain⟨a,b⟩:=hk v (by rw [hv];simp) x z (hA v hv x z h1) hx h0;have c:=K.grp t v k7 hv x.p z.p a;have e:t.ks.map (evG ρ G)=[evG ρ G v]:=by rw [hv];rfl
  rw [e];refine⟨c,fun i q hq=>?_⟩;unfold iB at hq;simp only at hq
  split at hq
  ·rw [aBO] at hq
   split at hq
   ·rename_i hi
    split at hq
    ·have:=t8 hq;subst this;refine .inr ?_;have h7:=(hn.2 k7).1;have e2:((i:Nat):Int)=t.f.n:=(by omega);rw [e2,hg k7,kL,lQ,e];simpa using c
    ·cases hq
   ·exact b i q hq
  ·exact b i q hq
 rw [if_neg k7] at h;by_cases k8:t.f.k=8
 ·rw [if_pos k8] at h;obtain⟨h1,h2⟩:=h;have hb:=rC hn k8;have e:t.ks.map (evG ρ G)=[]:=by rw [mH hn (.inr (.inr (.inr (.inr k8))))];rfl
  rw [e];have hl:t.f.n.toNat<x.g.length:=by rw [hx.g];omega
  obtain⟨q,hq⟩:∃ q,x.g[t.f.n.toNat]?=some q:=⟨_,m7 hl⟩;have hgq:aF1 x.g t.f.n=q:=by unfold aF1;rw [aAH,hq];rfl
  rw [hgq] at h1;have hs:=(vA h1).1;have hq0:q≠(-1,-1):=fun e=>by rw [e] at hs;simp at hs
  have v1:=(hx.q _ _ hq).resolve_left hq0;have v2:=(h0 _ _ hq).resolve_left hq0;rw [show ((t.f.n.toNat:Nat):Int)=t.f.n by omega] at v2;exact⟨K.back t hn k8 q x.p y.p v2 v1.1 v1.2.1 v1.2.2 h1,fun i r hr=>h0 i r (by rw [<- h2];exact hr)⟩
 rw [if_neg k8] at h;by_cases k9:t.f.k=9
 ·rw [if_pos k9] at h;obtain⟨k,h1,h2,h3⟩:=h;obtain⟨v,hv⟩:=nH hn (.inr k9);have hT:∀ (k:Nat) (y:Cf),Tn (fun x y=>MtA L t.ks x y) t.f.mn.toNat k x y->Tq (Q (evG ρ G v)) k x.p y.p/\Ev0 G Q y/\Vf L y/\x.p<=y.p:=by
   intro k
   induction k with
   | zero=>
    intro y h;have:y=x:=h;subst this;exact⟨rfl,h0,hx,aAB _⟩
   | succ k ih2=>
    intro y h;obtain⟨z,h1,h2,-⟩:=h;obtain⟨a,b,c,d⟩:=ih2 z h1;obtain⟨e,f⟩:=hk v (by rw [hv];simp) z y (hA v hv z y h2) c b;obtain⟨g1,g2⟩:=dG v z y (hA v hv z y h2) c;exact⟨⟨z.p,a,e,d,g2⟩,f,g1,m9 d g2⟩
  obtain⟨a,b,-,-⟩:=hT k y h3;have e:t.ks.map (evG ρ G)=[evG ρ G v]:=by rw [hv];rfl
  rw [e];exact⟨K.rep t v hn k9 hv (hd v (by rw [hv];simp)) k _ _ h1 h2 a,b⟩
 rw [if_neg k9] at h;obtain⟨h1,h2⟩:=h;have kk:t.f.k=1\/t.f.k=2\/t.f.k=3\/t.f.k=4:=by
  have:=rB hn;omega
 have e:t.ks.map (evG ρ G)=[]:=by rw [mH hn (by omega)];rfl
 rw [e];exact⟨K.leaf t hn kk _ _ h1 hx.p,fun i r hr=>h0 i r (by rw [<- h2];exact hr)⟩
theorem aQ5{t:Tr}(hr:aU L.c L.o 0 0 (pp [] t)=0)(hρ:aM0 ρ)(g:Int->T)(hgd:∀ t xs g,NP L.c L.o t->xs.length=t.ks.length->(∀ x∈xs,Gd x)->(∀ i,Gd (g i))->Gd (ρ t.f t.ks xs g))(hg0:∀ i,Gd (g i))(K:(∀ i,Gd ((ev ρ g t).2 i))->Kps L ρ (ev ρ g t).2 Gd Q){i:Nat}(hi:i<=L.s.size){y:Cf}(h:Mt L t (cf0 i) y):Q (ev ρ g t).1 i y.p:=by
 obtain⟨e1,e2⟩:=bB3 hρ (aO1 hr) g;have hG:=(aK7 hgd t g (dX hr) hg0).2;have hev:∀ u:Tr,bL (NP L.c L.o) u->Gd (evG ρ (ev ρ g t).2 u):=fun u=>by
  refine Tr.ind (P:=fun u=>bL (NP L.c L.o) u->Gd (evG ρ (ev ρ g t).2 u)) (fun u ih he=>?_) u;rw [kL,lQ];refine hgd u _ _ ((aQ u).1 he).1 (by simp) (fun x hx=>?_) hG;obtain⟨v,hv,rfl⟩:=aAT.1 hx;exact ih v hv (bA he hv)
 have he:bL (fun u=>NP L.c L.o u/\(u.f.k=7->(ev ρ g t).2 u.f.n=evG ρ (ev ρ g t).2 u)/\Gd (evG ρ (ev ρ g t).2 u)) t:=by
  refine sT t [] fun z hz=>?_;have:=gP t [] (dX hr) z hz;exact⟨((aQ z.2).1 this).1,e2 z hz,hev z.2 this⟩
 have:=(bK0 (K hG) t he (cf0 i) y h (mO hi) (bB4 i)).1;rw [e1];exact this
end
section
variable {L:Ln}
def eln(x:Int):Nat:=if x<128 then 1 else if x<2048 then 2 else if x<65536 then 3 else 4
theorem bL2{x:Int}(h0:0<=x)(h1:x<=1114111)(h2:x<55296\/57343<x):(Lib.encodeRune x).length=eln x:=by
 unfold eln
 split
 ·rw [Lib.encodeRune,Lib.encodeRuneZ_one h0 (by omega)];rfl
 ·split
  ·rw [Lib.encodeRune,Lib.encodeRuneZ_two (by omega) (by omega)];rfl
  ·split
   ·rw [Lib.encodeRune,Lib.encodeRuneZ_three (by omega)];rfl
   ·rw [Lib.encodeRune,Lib.encodeRuneZ_four (by omega) (by omega)];rfl
theorem aG9{c:Bool}{s:ByteArray}{i:Nat}(hi:i<s.size)(h0:0<=(uni c s i).1):bS c (uni c s i).1/\fA c (uni c s i).1=sl s i (uni c s i).2:=by
 unfold uni at h0 ⊢
 cases c with
 | false=>
  simp only [aCN,if_false] at h0 ⊢;refine⟨⟨h0,?_,fun e=>by cases e⟩,?_⟩
  ·have:=mW s i;show (bt s i:Int)<=255;omega
  ·unfold fA sl bt;simp only [aCN,if_false,aAX];have hl:i<s.data.toList.length:=(by rw [cI];exact hi);rw [aBF hl,aBS,aAA,aAH,m7 hl];simp
 | true=>
  simp only [if_true] at h0 ⊢;have hb:bad s i=false:=by
   cases h:bad s i with
   | false=>rfl
   | true=>have:=bU3.2 h;omega
  rw [pC hb];have hv:=mN s i;unfold Lib.validRune at hv;rw [aBI] at hv;refine⟨⟨by omega,?_,fun _=>by omega⟩,?_⟩
  ·show _<=(1114111:Int);have:=bU1 s i;omega
  ·unfold fA;simp only [if_true];exact wU s i hi hb
theorem bF7{c:Bool}{s:ByteArray}{i:Nat}(hi:i<s.size)(h0:0<=(uni c s i).1):(fA c (uni c s i).1).length=(uni c s i).2:=by
 rw [(aG9 hi h0).2];unfold sl;rw [aAC,aAS,cI];have:=(aB6 (c:=c) hi).1;omega
theorem bK2{l:lIi}{x:Int}(h:bA1 l x=true):In l x:=by
 unfold bA1 at h;rw [List.any_eq_true] at h;obtain⟨r,hr,h⟩:=h;simp at h;exact⟨r,hr,h⟩
theorem aZ2{f:Fl}{i j:Nat}(hk:f.k=2)(h:dK L f i=some j):i<L.s.size/\0<=(uni L.c L.s i).1/\In f.rs (uni L.c L.s i).1/\j=i+(uni L.c L.s i).2:=by
 unfold dK at h;rw [if_pos hk] at h
 split at h
 ·rename_i h1
  exact⟨h1.1,h1.2.1,bK2 h1.2.2,(t8 h).symm⟩
 ·cases h
theorem aQ1{f:Fl}{i j:Nat}(hk:f.k≠2)(h:dK L f i=some j):j=i/\(f.k=3->i=0)/\(f.k=4->i=L.s.size):=by
 unfold dK at h;rw [if_neg hk] at h
 split at h
 ·split at h
  ·exact⟨(t8 h).symm,fun _=>by assumption,fun e=>by omega⟩
  ·cases h
 ·split at h
  ·split at h
   ·exact⟨(t8 h).symm,fun e=>by contradiction,fun _=>by assumption⟩
   ·cases h
  ·exact⟨(t8 h).symm,fun e=>by contradiction,fun e=>by contradiction⟩
end
section
variable {L:Ln}
def QO(L:Ln)(v:bAb)(i j:Nat):Prop:=i<=j/\i+v.1.size<=j/\(∀ k,k<v.1.size->bt v.1 k=bt L.s (i+k))/\(v.2=true->i+v.1.size=j)
theorem tB{a b:ByteArray}{k:Nat}(h:k<a.size):bt (a++b) k=bt a k:=by
 unfold bt;rw [aAH,aAH,ByteArray.data_append,Array.toList_append,aAE (by rw [cI];exact h)]
theorem tA{a b:ByteArray}{k:Nat}:bt (a++b) (a.size+k)=bt b k:=by
 unfold bt;rw [aAH,aAH,ByteArray.data_append,Array.toList_append,aAF (by rw [cI];omega),cI,Nat.add_sub_cancel_left]
theorem bU4{a:ByteArray}{n k:Nat}(h:k<n):bt (a.extract 0 n) k=bt a k:=by
 unfold bt;rw [aAH,aAH,ByteArray.data_extract,Array.toList_extract,List.extract_eq_take_drop];simp [h]
theorem cM:noB.size=0:=rfl
theorem uO{i j:Nat}(h:i<=j):QO L (noB,false) i j:=⟨h,by rw [cM];omega,fun k hk=>by rw [cM] at hk;omega,fun e=>by cases e⟩
theorem wF{v:bAb}{i j:Nat}(h:QO L v i j):QO L (dQ v) i j:=by
 unfold dQ;obtain⟨h0,h1,h2,h3⟩:=h
 split
 ·rename_i hb
  have e:=kK v.1 1000 (by omega);refine⟨h0,by simp only;omega,fun k hk=>?_,fun e=>by cases e⟩;simp only at hk ⊢;rw [bU4 (by omega)];exact h2 k (by omega)
 ·exact⟨h0,h1,h2,h3⟩
theorem dN(a b:ByteArray):(a++b).size=a.size+b.size:=ByteArray.size_append
theorem wG{s:ByteArray}{x:bAb}{a i j:Nat}{b:Bool}(h:QO L (s,true) a i)(k:QO L x i j):QO L (s++x.1,b&&x.2) a j:=by
 obtain⟨h0,h1,h2,h3⟩:=h;obtain⟨k0,k1,k2,k3⟩:=k;have h3:=h3 rfl;simp only at h1 h2 h3;refine⟨by omega,by simp only [dN];omega,fun n hn=>?_,fun e=>?_⟩
 ·simp only [dN] at hn ⊢;by_cases q:n<s.size
  ·rw [tB q];exact h2 n q
  ·obtain⟨m,rfl⟩:∃ m,n=s.size+m:=⟨n-s.size,by omega⟩;rw [tA,k2 m (by omega)]
   congr 1
   omega
 ·simp only [aAY] at e;have:=k3 e.2;simp only [dN];omega
theorem bN5{s:ByteArray}{b:Bool}{a i j:Nat}(h:QO L (s,true) a i)(hj:i<=j)(hb:b=true->i=j):QO L (s,b) a j:=by
 obtain⟨h0,h1,h2,h3⟩:=h;have h3:=h3 rfl;exact⟨by omega,by simp only at h1 ⊢;omega,h2,fun e=>by have:=hb e;simp only at h3 ⊢;omega⟩
theorem wE{s:ByteArray}{b:Bool}{a i j:Nat}(h:QO L (s,b) a i)(hj:i<=j)(hb:b=true->i=j):QO L (s,b) a j:=by
 obtain⟨h0,h1,h2,h3⟩:=h;exact⟨by omega,by simp only at h1 ⊢;omega,h2,fun e=>by have:=hb e;have:=h3 e;simp only at this ⊢;omega⟩
theorem aL3{G:Int->bAb}:∀ (ks:List Tr) (s:ByteArray) (b:Bool) (a i j:Nat),QO L (s,true) a i->Chn (evG (bI L.c) G) (QO L) ks i j->QO L (dQ (dR s b ks (ks.map (evG (bI L.c) G)))) a j
 | [],s,b,a,i,j,h,k=>by
  have k:j=i:=k;subst k;refine wF ?_;rw [aCH,dR];exact bN5 h lz9 (fun _=>rfl)
 | u :: us,s,b,a,i,j,h,k=>by
  obtain⟨m,k1,k2,k3,k4,k5⟩:=k;rw [aBP,dR];have hx:QO L (s++(evG (bI L.c) G u).1,b&&(evG (bI L.c) G u).2) a m:=wG h k1
  split
  ·rename_i hc
   rw [aAY,Bool.or_eq_true] at hc;refine aL3 us _ _ a m j ?_ k5;rcases hc.1 with hw | hw
   ·have:=wG (b:=true) h k1;rw [hw] at this;exact this
   ·have h3:u.f.k=3:=by simpa using hw
    have e:evG (bI L.c) G u=(noB,false):=by
     rw [kL];unfold bI;rw [if_neg (by omega),if_neg (by omega),if_neg (by omega),if_neg (by omega),if_neg (by omega)]
    have hm:=k2 h3;subst hm;rw [e];have k6:QO L (noB,true) m m:=⟨aAB _,by simp [cM],fun k hk=>by simp [cM] at hk,fun _=>by simp [cM]⟩;exact wG (b:=true) h k6
  ·rename_i hc
   by_cases hm:(b&&(evG (bI L.c) G u).2)=true
   ·have hbig:1000<(s++(evG (bI L.c) G u).1).size:=by
     apply Classical.byContradiction;intro q;apply hc;rw [aAY] at hm;rw [dN] at q;rw [hm.2];simp;omega
    have h2:=wF hx;unfold dQ at h2 ⊢;rw [if_pos hbig] at h2 ⊢;exact wE h2 k4 (fun e=>by cases e)
   ·exact wF (wE hx k4 (fun e=>absurd e hm))
theorem aO4(l:List UInt8)(n:Nat):Lib.repeatL l (n+1)=Lib.repeatL l n++l:=by
 have:∀ n,Lib.repeatL l n=(List.replicate n l).flatten:=fun n=>by
  induction n with
  | zero=>simp [Lib.repeatL]
  | succ n ih=>rw [List.replicate_succ,aCJ,<- ih];simp [Lib.repeatL]
 rw [this,this,List.replicate_succ',List.flatten_append];simp
theorem uN(s:ByteArray)(n:Nat):nF s (n+1)=nF s n++s:=by
 unfold nF;rw [aO4];apply ByteArray.ext;rw [ByteArray.data_append];simp
theorem aU8{x:ByteArray}:∀ (k i j:Nat),Tq (QO L (x,true)) k i j->QO L (nF x k,true) i j
 | 0,i,j,h=>by
  have h:j=i:=h;subst h;have e:(nF x 0).size=0:=by rw [pS];rfl
  exact⟨aAB _,by simp only [e];omega,fun k hk=>by simp only [e] at hk;omega,fun _=>by simp only [e];omega⟩
 | k+1,i,j,h=>by
  obtain⟨m,h1,h2,h3,h4⟩:=h;rw [uN];exact wG (b:=true) (aU8 k i m h1) h2
theorem vS{Q:Nat->Nat->Prop}(n:Nat):∀ (k i j:Nat),n<=k->Tq Q k i j->∃ m,Tq Q n i m/\i<=m/\m<=j/\(n=k->m=j)
 | 0,i,j,hn,h=>by
  have:n=0:=by omega
  subst this;have e:j=i:=h;exact⟨j,h,by omega,aAB _,fun _=>rfl⟩
 | k+1,i,j,hn,h=>by
  by_cases e:n=k+1
  ·subst e;have h':=h;obtain⟨m,h1,h2,h3,h4⟩:=h;exact⟨j,h',by omega,aAB _,fun _=>rfl⟩
  ·obtain⟨m,h1,h2,h3,h4⟩:=h;obtain⟨m',a,b,c,-⟩:=vS n k i m (by omega) h1;exact⟨m',a,b,by omega,fun q=>absurd q e⟩
theorem bJ2{G:Int->bAb}:Kps L (bI L.c) G (fun _=>True) (QO L):=by
 refine⟨fun u hn hk i j h hi=>?_,fun u hn hk _ i j h=>?_,fun u hk _ v hv i j h=>?_,fun u v hk hv i j h=>?_,fun u hn hk q i j h h1 h2 h3 h4=>?_,fun u v hn hk hv hd k i j h1 h2 h3=>?_⟩
 ·have hle:=sN h hi;by_cases k2:u.f.k=2
  ·have e:bI L.c u.f u.ks [] G=tP L.c u.f.rs:=by unfold bI;rw [if_neg (by omega),if_pos k2]
   rw [e];obtain⟨a1,a2,a3,a4⟩:=aZ2 k2 h;unfold tP
   split
   ·rename_i r hr
    split
    ·rename_i hrr
     have hx:(uni L.c L.s i).1=r.1:=by
      rw [hr] at a3;obtain⟨q,hq,b1,b2⟩:=a3;rw [v9.1 hq] at b1 b2;omega
     have hw:=bF7 a1 a2;have he:=(aG9 a1 a2).2;rw [hx] at hw he;refine⟨hle.1,by simp only [gL];omega,fun k hk=>?_,fun _=>by simp only [gL];omega⟩;simp only [gL] at hk;have hb:=(lB he.symm hk).1;rw [hb];unfold bt txt;simp [List.getD_eq_getElem?_getD,List.getElem?_eq_getElem hk]
    ·exact uO hle.1
   ·exact uO hle.1
  ·by_cases k1:u.f.k=1
   ·have e:bI L.c u.f u.ks [] G=(noB,true):=by unfold bI;rw [if_pos k1]
    rw [e];have:=(aQ1 k2 h).1;exact⟨hle.1,by simp only [cM];omega,fun k hk=>by simp only [cM] at hk;omega,fun _=>by simp only [cM];omega⟩
   ·have e:bI L.c u.f u.ks [] G=(noB,false):=by
     unfold bI;rw [if_neg k1,if_neg k2,if_neg (by omega),if_neg (by omega),if_neg (by omega)]
    rw [e];exact uO hle.1
 ·have e:bI L.c u.f u.ks (u.ks.map (evG (bI L.c) G)) G=dQ (dR noB true u.ks (u.ks.map (evG (bI L.c) G))):=by
   unfold bI;rw [if_neg (by omega),if_neg (by omega),if_pos hk]
  rw [e];exact aL3 u.ks noB true i i j ⟨aAB _,by simp [cM],fun k hk=>by simp [cM] at hk,fun _=>by simp [cM]⟩ h
 ·have e:bI L.c u.f u.ks (u.ks.map (evG (bI L.c) G)) G=(noB,false):=by
   unfold bI;rw [if_neg (by omega),if_neg (by omega),if_neg (by omega),if_neg (by omega),if_neg (by omega)]
  rw [e];exact uO h.1
 ·have e:bI L.c u.f u.ks [evG (bI L.c) G v] G=evG (bI L.c) G v:=by
   unfold bI;rw [if_neg (by omega),if_neg (by omega),if_neg (by omega),if_pos hk];rfl
  rw [e];exact h
 ·have e:bI L.c u.f u.ks [] G=(noB,false):=by
   unfold bI;rw [if_neg (by omega),if_neg (by omega),if_neg (by omega),if_neg (by omega),if_neg (by omega)]
  rw [e];have:=(vA h4).2.1;exact uO (by omega)
 ·have e:bI L.c u.f u.ks [evG (bI L.c) G v] G=kU u.f (evG (bI L.c) G v):=by
   unfold bI;rw [if_neg (by omega),if_neg (by omega),if_neg (by omega),if_neg (by omega),if_pos hk];rfl
  rw [e];obtain⟨b1,b2,b3⟩:=wJ hn hk;generalize evG (bI L.c) G v=x at h3 ⊢;obtain⟨n0,hn0⟩:∃ n:Nat,u.f.mn=(n:Int):=⟨u.f.mn.toNat,by omega⟩;obtain⟨m,t1,t2,t3,t4⟩:=vS n0 k i j (by omega) h3;unfold kU
  split
  ·have:k=0:=by omega
   subst this;have h3:j=i:=h3;exact⟨by omega,by simp only [cM];omega,fun k hk=>by simp only [cM] at hk;omega,fun _=>by simp only [cM];omega⟩
  ·split
   ·exact uO (by omega)
   ·split
    ·rename_i hx
     obtain⟨x1,x2⟩:=x;simp only at hx;subst hx;refine wF ?_;rw [hn0,aAX];have hr:=aU8 n0 i m t1;refine bN5 hr t3 (fun e=>t4 ?_);have e:(n0:Int)=u.f.mx:=(by simpa using e);omega
    ·rename_i hm0 hx
     obtain⟨m1,s1,s2,s3,-⟩:=vS 1 k i j (by omega) h3;obtain⟨m2,s4,s5,-,-⟩:=s1;have s4:m2=i:=s4;subst s4;exact wE s5 s3 (fun e=>absurd e hx)
end
end Go.Proofs.YtdgfpiekjigfnaaGreatDoor
