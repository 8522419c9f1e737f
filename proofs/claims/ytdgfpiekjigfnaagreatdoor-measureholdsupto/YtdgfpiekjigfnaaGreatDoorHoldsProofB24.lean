/-
  Parts of the proof.
-/
import Derived.Test.YtdgfpiekjigfnaaGreatDoorHoldsProofA0
import Derived.Lib.MapLaws
import Derived.Lib.RuneCountTail
import Derived.Lib.Strings
import Derived.Test.YtdgfpiekjigfnaaGreatDoorHoldsProofB16
import Derived.Test.YtdgfpiekjigfnaaGreatDoorHoldsProofB15
import Derived.Test.YtdgfpiekjigfnaaGreatDoorHoldsProofB17
import Derived.Test.YtdgfpiekjigfnaaGreatDoorHoldsProofB18
import Derived.Test.YtdgfpiekjigfnaaGreatDoorHoldsProofB22
namespace Go.Proofs.YtdgfpiekjigfnaaGreatDoor
open Go Go.RowKit
section
open Go
def wd(s:ByteArray)(p:Nat):Nat:=(Utf8.decode s p).2
def bad(s:ByteArray)(p:Nat):Bool:=decide (Utf8.decode s p=(65533,1))
def ch(s:ByteArray)(p:Nat):Int:=if bad s p then -1 else (Utf8.decode s p).1
def bt(s:ByteArray)(i:Nat):Nat:=(s.data.toList.getD i 0).toNat
theorem jA(s:ByteArray)(i:Nat):bt s i<256:=UInt8.toNat_lt _
theorem cY(s:ByteArray):s.data.toList.length=s.size:=(Lib.size_eq s).symm
theorem lQ(s:ByteArray)(p:Nat):Utf8.decode s p=Lib.decodeN (s.size-p) (bt s p) (bt s (p+1)) (bt s (p+2)) (bt s (p+3)):=by
 rw [Lib.decode_N,cY];rfl
theorem aV1(s:ByteArray)(p:Nat):1<=wd s p:=Lib.width_pos s p
theorem bW1(s:ByteArray)(p:Nat):(Utf8.decode s p).1<=1114111:=Lib.rune_le s p
theorem nR(n b0 b1 b2 b3:Nat):Lib.decodeN n b0 b1 b2 b3=(65533,1)\/(b0<128/\Lib.decodeN n b0 b1 b2 b3=(b0,1)) \/
  (1<n/\b0/32=6/\b1/64=2/\128<=b0%32*64+b1%64/\Lib.decodeN n b0 b1 b2 b3=(b0%32*64+b1%64,2)) \/
  (2<n/\b0/16=14/\b1/64=2/\b2/64=2/\2048<=b0%16*4096+b1%64*64+b2%64/\(b0%16*4096+b1%64*64+b2%64<55296\/57344<=b0%16*4096+b1%64*64+b2%64)/\Lib.decodeN n b0 b1 b2 b3=(b0%16*4096+b1%64*64+b2%64,3)) \/
  (3<n/\b0/8=30/\b1/64=2/\b2/64=2/\b3/64=2/\65536<=b0%8*262144+b1%64*4096+b2%64*64+b3%64/\b0%8*262144+b1%64*4096+b2%64*64+b3%64<=1114111/\Lib.decodeN n b0 b1 b2 b3=(b0%8*262144+b1%64*4096+b2%64*64+b3%64,4)):=by
 unfold Lib.decodeN;by_cases h0:b0<128
 ·rw [if_pos h0];exact .inr (.inl ⟨h0,rfl⟩)
 rw [if_neg h0]
 split
 ·rename_i h
  split
  ·rename_i g
   exact .inr (.inr (.inl ⟨h.2.1,h.1,h.2.2,g,rfl⟩))
  ·exact .inl rfl
 split
 ·rename_i h
  split
  ·rename_i g
   exact .inr (.inr (.inr (.inl ⟨h.2.2.1,h.1,h.2.1.2,h.2.2.2,g.1,by omega,rfl⟩)))
  ·exact .inl rfl
 split
 ·rename_i h
  split
  ·rename_i g
   exact .inr (.inr (.inr (.inr ⟨h.2.2.2.1,h.1,h.2.1.2,h.2.2.1.2,h.2.2.2.2,g.1,by omega,rfl⟩)))
  ·exact .inl rfl
 exact .inl rfl
theorem aV2(s:ByteArray)(p:Nat)(h:p<s.size):wd s p<=4/\p+wd s p<=s.size:=by
 unfold wd;rw [lQ];rcases nR (s.size-p) (bt s p) (bt s (p+1)) (bt s (p+2)) (bt s (p+3)) with e | ⟨_,e⟩ | ⟨_,_,_,_,e⟩ | ⟨_,_,_,_,_,_,e⟩ | ⟨_,_,_,_,_,_,_,e⟩
 all_goals (rw [e];simp only;omega)
theorem bF0{s:ByteArray}{p:Nat}(h:bad s p=true):ch s p=-1/\wd s p=1/\(Utf8.decode s p).1=65533:=by
 have e:Utf8.decode s p=(65533,1):=by simpa [bad] using h
 simp [ch,h,wd,e]
theorem pH{s:ByteArray}{p:Nat}(h:bad s p=false):ch s p=(Utf8.decode s p).1:=by simp [ch,h]
theorem bW4{s:ByteArray}{p:Nat}:ch s p<0↔bad s p=true:=by
 unfold ch
 split
 ·rename_i h;simp [h]
 ·rename_i h
  have:=Int.natCast_nonneg (Utf8.decode s p).1;simp [h]
def bO8(s:ByteArray):Nat->Nat->List (Nat×Int)
 | 0,_=>[]
 | f+1,p=>if p<s.size then (p,ch s p) :: bO8 s f (p+wd s p) else []
def us(s:ByteArray):List (Nat×Int):=bO8 s s.size 0
end
section
open Go
def sl(s:ByteArray)(p n:Nat):List UInt8:=(s.data.toList.drop p).take n
theorem bY2(s:ByteArray)(p:Nat):Lib.decodeL (s.data.toList.drop p)=Utf8.decode s p:=by
 rw [Lib.decodeL_N,Lib.decode_N,aAS];simp only [aAG,aBZ,aAQ]
theorem xI(s:ByteArray)(p:Nat)(hp:p<s.size)(hb:bad s p=false):Lib.encodeRune ((Utf8.decode s p).1:Int)=sl s p (wd s p):=by
 have hne:s.data.toList.drop p≠[]:=by
  intro e;have:=congrArg List.length e;rw [aAS,cY] at this;simp at this;omega
 have:=Lib.encode_decode (s.data.toList.drop p) hne (by
  rw [bY2];rintro ⟨h1,h2⟩;have:bad s p=true:=by
   unfold bad;rw [aBH];exact Prod.ext h1 h2
  rw [hb] at this;cases this)
 rw [bY2] at this;exact this
theorem mO(s:ByteArray)(p:Nat):Lib.validRune ((Utf8.decode s p).1:Int)=true:=by
 have q0:=jA s p;rw [lQ];unfold Lib.validRune;rw [aBH];rcases nR (s.size-p) (bt s p) (bt s (p+1)) (bt s (p+2)) (bt s (p+3)) with k | ⟨_,k⟩ | ⟨_,_,_,_,k⟩ | ⟨_,_,_,_,_,_,k⟩ | ⟨_,_,_,_,_,_,_,k⟩
 all_goals (rw [k];simp only;omega)
theorem lC{s:ByteArray}{p n i:Nat}{l:List UInt8}(h:sl s p n=l)(hi:i<l.length):bt s (p+i)=(l[i]).toNat/\i<s.size-p:=by
 have hl:i<((s.data.toList.drop p).take n).length:=by rw [show (s.data.toList.drop p).take n=l from h];exact hi
 have hl':=hl;rw [aAA,aAS,cY] at hl';have e:l[i]?=s.data.toList[p+i]?:=by
  rw [<- h,sl,List.getElem?_take_of_lt (by omega),aBZ]
 rw [i9 hi] at e;refine⟨?_,by omega⟩;unfold bt;rw [aAG,<- e]
 rfl
theorem nQ{s:ByteArray}{p:Nat}{c:Int}(hc:0<=c/\c<=1114111/\(c<55296\/57343<c))(h:sl s p (Lib.encodeRune c).length=Lib.encodeRune c):((Utf8.decode s p).1:Int)=c/\wd s p=(Lib.encodeRune c).length/\bad s p=false:=by
 obtain⟨r0,r1,r2⟩:=hc;have key:∀ (m:Nat),Utf8.decode s p=(c.toNat,m)->(c.toNat,m)≠((65533,1):Nat×Nat)->((Utf8.decode s p).1:Int)=c/\wd s p=m/\bad s p=false:=fun m e hne=>by
  refine⟨by rw [e];simp only;omega,by unfold wd;rw [e],?_⟩;unfold bad;rw [e];simpa using hne
 by_cases h1:c<=127
 ·have hE:Lib.encodeRune c=[c].map fun x=>x.toNat.toUInt8:=by rw [Lib.encodeRune,Lib.encodeRuneZ_one r0 h1]
  rw [hE] at h ⊢;obtain⟨b0,s0⟩:=lC h (i:=0) (by simp);simp at b0;refine key 1 ?_ (by simp;omega);rw [lQ];have:bt s p=c.toNat:=by omega
  rw [this];unfold Lib.decodeN;rw [if_pos (by omega)]
 by_cases h2:c<=2047
 ·have hE:Lib.encodeRune c=[192+c/64,128+c%64].map fun x=>x.toNat.toUInt8:=by rw [Lib.encodeRune,Lib.encodeRuneZ_two (by omega) h2]
  rw [hE] at h ⊢;obtain⟨b0,s0⟩:=lC h (i:=0) (by simp);obtain⟨b1,s1⟩:=lC h (i:=1) (by simp);simp at b0 b1;refine key 2 ?_ (by simp);rw [lQ];have e0:bt s p=192+c.toNat/64:=by omega
  have e1:bt s (p+1)=128+c.toNat%64:=by omega
  have hl:c.toNat<=2047:=by omega
  have hg:128<=c.toNat:=by omega
  rw [e0,e1];generalize c.toNat=m at *;unfold Lib.decodeN;rw [if_neg (by omega),if_pos (by omega),if_pos (by omega)];apply Prod.ext <;> simp only <;> omega
 by_cases h3:c<=65535
 ·have hE:Lib.encodeRune c=[224+c/4096,128+c/64%64,128+c%64].map fun x=>x.toNat.toUInt8:=by rw [Lib.encodeRune,Lib.encodeRuneZ_three (by omega)]
  rw [hE] at h ⊢;obtain⟨b0,s0⟩:=lC h (i:=0) (by simp);obtain⟨b1,s1⟩:=lC h (i:=1) (by simp);obtain⟨b2,s2⟩:=lC h (i:=2) (by simp);simp at b0 b1 b2;refine key 3 ?_ (by simp);rw [lQ];have e0:bt s p=224+c.toNat/4096:=by omega
  have e1:bt s (p+1)=128+c.toNat/64%64:=by omega
  have e2:bt s (p+2)=128+c.toNat%64:=by omega
  have hl:c.toNat<=65535:=by omega
  have hg:2048<=c.toNat:=by omega
  have hv:c.toNat<55296\/57344<=c.toNat:=by omega
  rw [e0,e1,e2];generalize c.toNat=m at *;unfold Lib.decodeN;rw [if_neg (by omega),if_neg (by omega),if_pos (by omega),if_pos (by omega)];apply Prod.ext <;> simp only <;> omega
 ·have hE:Lib.encodeRune c=[240+c/262144,128+c/4096%64,128+c/64%64,128+c%64].map fun x=>x.toNat.toUInt8:=by rw [Lib.encodeRune,Lib.encodeRuneZ_four (by omega) (by omega)]
  rw [hE] at h ⊢;obtain⟨b0,s0⟩:=lC h (i:=0) (by simp);obtain⟨b1,s1⟩:=lC h (i:=1) (by simp);obtain⟨b2,s2⟩:=lC h (i:=2) (by simp);obtain⟨b3,s3⟩:=lC h (i:=3) (by simp);simp at b0 b1 b2 b3;refine key 4 ?_ (by simp);rw [lQ];have e0:bt s p=240+c.toNat/262144:=by omega
  have e1:bt s (p+1)=128+c.toNat/4096%64:=by omega
  have e2:bt s (p+2)=128+c.toNat/64%64:=by omega
  have e3:bt s (p+3)=128+c.toNat%64:=by omega
  have hl:c.toNat<=1114111:=by omega
  have hg:65536<=c.toNat:=by omega
  rw [e0,e1,e2,e3];generalize c.toNat=m at *;unfold Lib.decodeN;rw [if_neg (by omega),if_neg (by omega),if_neg (by omega),if_pos (by omega),if_pos (by omega)];apply Prod.ext <;> simp only <;> omega
end
section
structure Ln where
 s:ByteArray
 c:Bool
 o:Bool
 u:Nat->Bool
structure Cf where
 p:Nat
 g:lIi
def uni(c:Bool)(s:ByteArray)(p:Nat):Int×Nat:=if c then (ch s p,wd s p) else ((bt s p:Int),1)
def bM0(l:lIi)(x:Int):Bool:=l.any fun r=>decide (r.1<=x)&&decide (x<=r.2)
theorem wE(c:Bool)(s:ByteArray)(p:Nat):1<=(uni c s p).2:=by
 unfold uni
 split
 ·exact aV1 s p
 ·exact t9 1
theorem aC5{c:Bool}{s:ByteArray}{p:Nat}(h:p<s.size):p+(uni c s p).2<=s.size/\(uni c s p).2<=4:=by
 unfold uni
 split
 ·exact⟨(aV2 s p h).2,(aV2 s p h).1⟩
 ·exact⟨h,by simp⟩
def dP(L:Ln)(f:Fl)(i:Nat):Option Nat:=
 if f.k=2 then (if i<L.s.size/\0<=(uni L.c L.s i).1/\bM0 f.rs (uni L.c L.s i).1=true then some (i+(uni L.c L.s i).2) else none)
 else if f.k=3 then (if i=0 then some i else none)
 else if f.k=4 then (if i=L.s.size then some i else none)
 else some i
def smB(b:Nat):Nat:=if 65<=b/\b<=90 then b+32 else b
def alk(o:Bool)(a b:Nat):Bool:=a==b ||(o&&smB a==smB b)
def gO(L:Ln)(q:Int×Int)(i:Nat):Option Nat:=
 if q.1<0\/L.s.size<i+(q.2-q.1).toNat then none
 else if ∀ k,k<(q.2-q.1).toNat->alk L.o (bt L.s (q.1.toNat+k)) (bt L.s (i+k))=true then some (i+(q.2-q.1).toNat) else none
def aG5(g:lIi)(n:Int):Int×Int:=g.getD n.toNat (-1,-1)
def kep(L:Ln)(n:Int):Bool:=decide (n<10)&&L.u n.toNat
def iP(L:Ln)(n:Int)(x z:Cf):Cf:=⟨z.p,if kep L n then z.g.set n.toNat ((x.p:Int),(z.p:Int)) else z.g⟩
def Tn(R:Cf->Cf->Prop)(mn:Nat):Nat->Cf->Cf->Prop
 | 0,x,y=>y=x
 | k+1,x,y=>∃ z,Tn R mn k x z/\R z y/\(mn<=k->z.p<y.p)
def Rp(R:Cf->Cf->Prop)(mn mx:Int)(x y:Cf):Prop:=∃ k:Nat,mn.toNat<=k/\(mx=-1\/(k:Int)<=mx)/\Tn R mn.toNat k x y
mutual
def Mt(L:Ln):Tr->Cf->Cf->Prop
 | .mk f ks,x,y=>
  if f.k=5 then MtC L ks x y
  else if f.k=6 then MtA L ks x y
  else if f.k=7 then ∃ z,MtA L ks x z/\y=iP L f.n x z
  else if f.k=8 then gO L (aG5 x.g f.n) x.p=some y.p/\y.g=x.g
  else if f.k=9 then Rp (fun x y=>MtA L ks x y) f.mn f.mx x y
  else dP L f x.p=some y.p/\y.g=x.g
def MtC(L:Ln):List Tr->Cf->Cf->Prop
 | [],x,y=>y=x
 | t :: ts,x,y=>∃ z,Mt L t x z/\MtC L ts z y
def MtA(L:Ln):List Tr->Cf->Cf->Prop
 | [],_,_=>False
 | t :: ts,x,y=>Mt L t x y\/MtA L ts x y
end
variable {L:Ln}
theorem fP(t:Tr)(x y:Cf):Mt L t x y ↔
  if t.f.k=5 then MtC L t.ks x y
  else if t.f.k=6 then MtA L t.ks x y
  else if t.f.k=7 then ∃ z,MtA L t.ks x z/\y=iP L t.f.n x z
  else if t.f.k=8 then gO L (aG5 x.g t.f.n) x.p=some y.p/\y.g=x.g
  else if t.f.k=9 then Rp (fun x y=>MtA L t.ks x y) t.f.mn t.f.mx x y
  else dP L t.f x.p=some y.p/\y.g=x.g:=by
 cases t with
 | mk f ks=>rw [Mt];rfl
theorem dS(x y:Cf):MtC L [] x y↔y=x:=by rw [MtC]
theorem dY(t:Tr)(ts:List Tr)(x y:Cf):MtC L (t :: ts) x y ↔ ∃ z,Mt L t x z/\MtC L ts z y:=by rw [MtC]
theorem dM(ks:List Tr)(x y:Cf):MtA L ks x y ↔ ∃ t∈ks,Mt L t x y:=by
 induction ks with
 | nil=>rw [MtA];simp
 | cons t ts ih=>rw [MtA,ih];simp
theorem zG(a:List Tr)(t:Tr):∀ (x y:Cf),MtC L (a++[t]) x y ↔ ∃ z,MtC L a x z/\Mt L t z y:=by
 induction a with
 | nil=>
  intro x y;rw [aAO,dY];constructor
  ·rintro ⟨z,h1,h2⟩;rw [dS] at h2;subst h2;exact⟨x,(dS x x).2 rfl,h1⟩
  ·rintro ⟨z,h1,h2⟩;rw [dS] at h1;subst h1;exact⟨y,h2,(dS y y).2 rfl⟩
 | cons u a ih=>
  intro x y;rw [aAF,dY];constructor
  ·rintro ⟨z,h1,h2⟩;obtain⟨v,h3,h4⟩:=(ih z y).1 h2;exact⟨v,(dY u a x v).2 ⟨z,h1,h3⟩,h4⟩
  ·rintro ⟨v,h3,h4⟩;obtain⟨z,h1,h2⟩:=(dY u a x v).1 h3;exact⟨z,h1,(ih z y).2 ⟨v,h2,h4⟩⟩
theorem zH(a:List Tr)(t:Tr)(x y:Cf):MtA L (a++[t]) x y↔MtA L a x y\/Mt L t x y:=by
 rw [dM,dM];constructor
 ·rintro ⟨u,hu,h⟩;rcases o3.1 hu with e | e
  ·exact .inl ⟨u,e,h⟩
  ·rw [t8.1 e] at h;exact .inr h
 ·rintro (⟨u,hu,h⟩ | h)
  ·exact⟨u,o3.2 (.inl hu),h⟩
  ·exact⟨t,by simp,h⟩
structure Vf(L:Ln)(x:Cf):Prop where
 p:x.p<=L.s.size
 g:x.g.length=10
 q:∀ (i:Nat) (q:Int×Int),x.g[i]?=some q->q=(-1,-1)\/(0<=q.1/\q.1<=q.2/\q.2<=(L.s.size:Int))
theorem sY{f:Fl}{i j:Nat}(h:dP L f i=some j)(hi:i<=L.s.size):i<=j/\j<=L.s.size:=by
 unfold dP at h
 split at h
 ·split at h
  ·rename_i h1
   have:=t6 h;have:=(aC5 (c:=L.c) h1.1).1;omega
  ·cases h
 ·split at h
  ·split at h
   ·have:=t6 h;omega
   ·cases h
  ·split at h
   ·split at h
    ·have:=t6 h;omega
    ·cases h
   ·have:=t6 h;omega
theorem bG2{q:Int×Int}{i j:Nat}(h:gO L q i=some j):i<=j/\j<=L.s.size:=by
 unfold gO at h
 split at h
 ·cases h
 ·split at h
  ·have:=t6 h;omega
  ·cases h
theorem aG4{n:Int}{x z:Cf}(hz:Vf L z)(h:x.p<=z.p):Vf L (iP L n x z):=by
 refine⟨hz.p,?_,fun i q hq=>?_⟩
 ·unfold iP;simp only
  split
  ·rw [aAV];exact hz.g
  ·exact hz.g
 ·unfold iP at hq;simp only at hq
  split at hq
  ·rw [aBO] at hq
   split at hq
   ·split at hq
    ·have:=t6 hq;subst this;have:=hz.p;exact .inr ⟨by simp only;omega,by simp only;omega,by simp only;omega⟩
    ·cases hq
   ·exact hz.q i q hq
  ·exact hz.q i q hq
theorem yJ{R:Cf->Cf->Prop}{mn:Nat}(hR:∀ x y,R x y->Vf L x->Vf L y/\x.p<=y.p):∀ (k:Nat) (x y:Cf),Tn R mn k x y->Vf L x->Vf L y/\x.p<=y.p
 | 0,x,y,h,hx=>by
  have:y=x:=h;subst this;exact⟨hx,t9 _⟩
 | k+1,x,y,h,hx=>by
  obtain⟨z,h1,h2,-⟩:=h;obtain⟨a,b⟩:=yJ hR k x z h1 hx;obtain⟨c,d⟩:=hR z y h2 a;exact⟨c,m8 b d⟩
theorem dC(t:Tr):∀ x y,Mt L t x y->Vf L x->Vf L y/\x.p<=y.p:=by
 refine Tr.ind (P:=fun t=>∀ x y,Mt L t x y->Vf L x->Vf L y/\x.p<=y.p) (fun t ih x y h hx=>?_) t;have hA:∀ x y,MtA L t.ks x y->Vf L x->Vf L y/\x.p<=y.p:=fun x y h hx=>by
  obtain⟨u,hu,h⟩:=(dM _ _ _).1 h;exact ih u hu x y h hx
 have hC:∀ ks:List Tr,(∀ u∈ks,u∈t.ks)->∀ x y,MtC L ks x y->Vf L x->Vf L y/\x.p<=y.p:=by
  intro ks
  induction ks with
  | nil=>
   intro _ x y h hx;rw [dS] at h;subst h;exact⟨hx,t9 _⟩
  | cons u us ih2=>
   intro hs x y h hx;obtain⟨z,h1,h2⟩:=(dY _ _ _ _).1 h;obtain⟨a,b⟩:=ih u (hs u (r9 ..)) x z h1 hx;obtain⟨c,d⟩:=ih2 (fun v hv=>hs v (r8 _ hv)) z y h2 a;exact⟨c,m8 b d⟩
 have hl:∀ {j:Nat},x.p<=j/\j<=L.s.size->y.p=j->y.g=x.g->Vf L y/\x.p<=y.p:=fun {j} h1 h2 h3=>by
  refine⟨⟨by rw [h2];exact h1.2,by rw [h3];exact hx.g,by rw [h3];exact hx.q⟩,by rw [h2];exact h1.1⟩
 rw [fP] at h
 split at h
 ·exact hC t.ks (fun _ h=>h) x y h hx
 ·split at h
  ·exact hA x y h hx
  ·split at h
   ·obtain⟨z,h1,rfl⟩:=h;obtain⟨a,b⟩:=hA x z h1 hx;exact⟨aG4 a b,b⟩
   ·split at h
    ·exact hl (bG2 h.1) rfl h.2
    ·split at h
     ·obtain⟨k,-,-,h3⟩:=h;exact yJ hA k x y h3 hx
     ·exact hl (sY h.1 hx.p) rfl h.2
def PlT(L:Ln)(t:Tr):Prop:=bK (fun u=>u.f.k≠8/\(u.f.k=7->kep L u.f.n=false)) t
def Ps(L:Ln)(t:Tr)(i j:Nat):Prop:=Mt L t ⟨i,[]⟩ ⟨j,[]⟩
def Pn(R:Cf->Cf->Prop):Prop:=∀ x y,R x y->y.g=x.g/\∀ g,R ⟨x.p,g⟩ ⟨y.p,g⟩
theorem bP0{R:Cf->Cf->Prop}{mn:Nat}(hR:Pn R):∀ k,Pn (Tn R mn k)
 | 0,x,y,h=>by
  have:y=x:=h;subst this;exact⟨rfl,fun g=>rfl⟩
 | k+1,x,y,h=>by
  obtain⟨z,h1,h2,h3⟩:=h;obtain⟨a,b⟩:=bP0 hR k x z h1;obtain⟨c,d⟩:=hR z y h2;exact⟨c.trans a,fun g=>⟨⟨z.p,g⟩,b g,d g,h3⟩⟩
theorem aK7(t:Tr):PlT L t->Pn (Mt L t):=by
 refine Tr.ind (P:=fun t=>PlT L t->Pn (Mt L t)) (fun t ih hp x y h=>?_) t;have hk:=fun u hu=>ih u hu (bC hp hu);have h0:=((aQ t).1 hp).1;have hA:Pn (fun x y=>MtA L t.ks x y):=fun x y h=>by
  obtain⟨u,hu,h⟩:=(dM _ _ _).1 h;obtain⟨a,b⟩:=hk u hu x y h;exact⟨a,fun g=>(dM _ _ _).2 ⟨u,hu,b g⟩⟩
 have hC:∀ ks:List Tr,(∀ u∈ks,u∈t.ks)->Pn (fun x y=>MtC L ks x y):=by
  intro ks
  induction ks with
  | nil=>
   intro _ x y h;have h:y=x:=(dS x y).1 h;subst h;exact⟨rfl,fun g=>(dS _ _).2 rfl⟩
  | cons u us ih2=>
   intro hs x y h;obtain⟨z,h1,h2⟩:=(dY _ _ _ _).1 h;obtain⟨a,b⟩:=hk u (hs u (r9 ..)) x z h1;obtain⟨c,d⟩:=ih2 (fun v hv=>hs v (r8 _ hv)) z y h2;exact⟨c.trans a,fun g=>(dY _ _ _ _).2 ⟨⟨z.p,g⟩,b g,d g⟩⟩
 rw [fP] at h;by_cases k5:t.f.k=5
 ·rw [if_pos k5] at h;obtain⟨a,b⟩:=hC t.ks (fun _ h=>h) x y h;exact⟨a,fun g=>(fP t _ _).2 (by rw [if_pos k5];exact b g)⟩
 rw [if_neg k5] at h;by_cases k6:t.f.k=6
 ·rw [if_pos k6] at h;obtain⟨a,b⟩:=hA x y h;exact⟨a,fun g=>(fP t _ _).2 (by rw [if_neg k5,if_pos k6];exact b g)⟩
 rw [if_neg k6] at h;by_cases k7:t.f.k=7
 ·rw [if_pos k7] at h;obtain⟨z,h1,h2⟩:=h;obtain⟨a,b⟩:=hA x z h1;have hn:=h0.2 k7;have e:∀ x z,iP L t.f.n x z=z:=fun x z=>by unfold iP;rw [hn];rfl
  rw [e] at h2;subst h2;exact⟨a,fun g=>(fP t _ _).2 (by rw [if_neg k5,if_neg k6,if_pos k7];exact⟨⟨y.p,g⟩,b g,(e _ _).symm⟩)⟩
 rw [if_neg k7] at h;rw [if_neg h0.1] at h;by_cases k9:t.f.k=9
 ·rw [if_pos k9] at h;obtain⟨k,h1,h2,h3⟩:=h;obtain⟨a,b⟩:=bP0 hA k x y h3;exact⟨a,fun g=>(fP t _ _).2 (by rw [if_neg k5,if_neg k6,if_neg k7,if_neg h0.1,if_pos k9];exact⟨k,h1,h2,b g⟩)⟩
 rw [if_neg k9] at h;exact⟨h.2,fun g=>(fP t _ _).2 (by rw [if_neg k5,if_neg k6,if_neg k7,if_neg h0.1,if_neg k9];exact⟨h.1,rfl⟩)⟩
theorem zF{t:Tr}(hp:PlT L t)(x y:Cf):Mt L t x y↔y.g=x.g/\Ps L t x.p y.p:=by
 constructor
 ·intro h;obtain⟨a,b⟩:=aK7 t hp x y h;exact⟨a,b []⟩
 ·rintro ⟨a,b⟩;have:=(aK7 t hp _ _ b).2 x.g;obtain⟨yp,yg⟩:=y;simp only at a this ⊢;subst a;exact this
def cf0(i:Nat):Cf:=⟨i,List.replicate 10 (-1,-1)⟩
theorem jX{i:Nat}(h:i<=L.s.size):Vf L (cf0 i):=by
 refine⟨h,by simp [cf0],fun k q hq=>.inl ?_⟩;have:=n7 hq;exact(List.mem_replicate.1 this).2
theorem bP4{t:Tr}(hp:PlT L t){i j:Nat}(hi:i<=L.s.size)(h:Ps L t i j):i<=j/\j<=L.s.size:=by
 have:=(aK7 t hp _ _ h).2 (cf0 i).g;obtain⟨a,b⟩:=dC t (cf0 i) ⟨j,(cf0 i).g⟩ this (jX hi);exact⟨b,a.p⟩
end
section
def Chn{T:Type}(V:Tr->T)(Q:T->Nat->Nat->Prop):List Tr->Nat->Nat->Prop
 | [],i,j=>j=i
 | u :: us,i,j=>∃ m,Q (V u) i m/\(u.f.k=3->m=i)/\i<=m/\m<=j/\Chn V Q us m j
def Tq(Q:Nat->Nat->Prop):Nat->Nat->Nat->Prop
 | 0,i,j=>j=i
 | k+1,i,j=>∃ m,Tq Q k i m/\Q m j/\i<=m/\m<=j
structure Kps{T:Type}(L:Ln)(ρ:dJ T)(G:Int->T)(Gd:T->Prop)(Q:T->Nat->Nat->Prop):Prop where
 leaf:∀ u:Tr,NP L.c L.o u->(u.f.k=1\/u.f.k=2\/u.f.k=3\/u.f.k=4)->∀ i j,dP L u.f i=some j->i<=L.s.size->Q (ρ u.f u.ks [] G) i j
 cat:∀ u:Tr,NP L.c L.o u->u.f.k=5->(∀ v∈u.ks,Gd (evG ρ G v))->∀ i j,Chn (evG ρ G) Q u.ks i j->Q (ρ u.f u.ks (u.ks.map (evG ρ G)) G) i j
 alt:∀ u:Tr,u.f.k=6->(∀ v∈u.ks,Gd (evG ρ G v))->∀ v∈u.ks,∀ i j,Q (evG ρ G v) i j->Q (ρ u.f u.ks (u.ks.map (evG ρ G)) G) i j
 grp:∀ u v:Tr,u.f.k=7->u.ks=[v]->∀ i j,Q (evG ρ G v) i j->Q (ρ u.f u.ks [evG ρ G v] G) i j
 back:∀ u:Tr,NP L.c L.o u->u.f.k=8->∀ (q:Int×Int) i j,Q (G u.f.n) q.1.toNat q.2.toNat->0<=q.1->q.1<=q.2->q.2<=(L.s.size:Int)->gO L q i=some j->Q (ρ u.f u.ks [] G) i j
 rep:∀ u v:Tr,NP L.c L.o u->u.f.k=9->u.ks=[v]->Gd (evG ρ G v)->∀ (k:Nat) i j,u.f.mn.toNat<=k->(u.f.mx=-1\/(k:Int)<=u.f.mx)->Tq (Q (evG ρ G v)) k i j->Q (ρ u.f u.ks [evG ρ G v] G) i j
variable {L:Ln} {T:Type} {ρ:dJ T} {G:Int->T} {Gd:T->Prop} {Q:T->Nat->Nat->Prop}
def Ev0(G:Int->T)(Q:T->Nat->Nat->Prop)(x:Cf):Prop:=∀ (i:Nat) (q:Int×Int),x.g[i]?=some q->q=(-1,-1)\/Q (G (i:Int)) q.1.toNat q.2.toNat
theorem bD0(i:Nat):Ev0 G Q (cf0 i):=fun _ _ hq=>.inl (List.mem_replicate.1 (n7 hq)).2
theorem bT9{l:List Tr}(h:l.length=1):∃ v,l=[v]:=by
 match l,h with
 | [v],_=>exact⟨v,rfl⟩
theorem wW{c o:Bool}{t:Tr}(h:NP c o t):t.f.k=1\/t.f.k=2\/t.f.k=3\/t.f.k=4\/t.f.k=5\/t.f.k=6\/t.f.k=7\/t.f.k=8\/t.f.k=9:=by
 have h1:=h.1;unfold dA at h1;apply Classical.byContradiction;intro hn;simp only [not_or] at hn;obtain⟨a1,a2,a3,a4,a5,a6,a7,a8,a9⟩:=hn;simp [a1,a2,a3,a4,a5,a6,a7,a8,a9] at h1
theorem mG{c o:Bool}{t:Tr}(h:NP c o t)(hk:t.f.k=1\/t.f.k=2\/t.f.k=3\/t.f.k=4\/t.f.k=8):t.ks=[]:=by
 have h1:=h.1;unfold dA at h1;refine aAK ?_;rcases hk with e | e | e | e | e <;> simp [e] at h1 <;> simp [h1]
theorem sU{c o:Bool}{t:Tr}(h:NP c o t)(hk:t.f.k=7\/t.f.k=9):∃ v,t.ks=[v]:=by
 have h1:=h.1;unfold dA at h1;refine bT9 ?_;rcases hk with e | e <;> simp [e] at h1 <;> simp [h1]
theorem rI{c o:Bool}{t:Tr}(h:NP c o t)(hk:t.f.k=8):1<=t.f.n/\t.f.n<=9:=by
 have h1:=h.1;unfold dA at h1;simp [hk] at h1;exact h1.1
theorem sV{c o:Bool}{t:Tr}(h:NP c o t)(hk:t.f.k=9):0<=t.f.mn/\t.f.mn<=255/\(t.f.mx=-1\/(t.f.mn<=t.f.mx/\t.f.mx<=255)):=by
 have h1:=h.1;unfold dA at h1;simp [hk] at h1;have h2:=h1.1;unfold fI at h2;simp at h2;omega
theorem bU1{c o:Bool}{t:Tr}(h:NP c o t)(hk:t.f.k=5\/t.f.k=6):1<t.ks.length:=by
 have h1:=h.1;unfold dA at h1;rcases hk with e | e <;> simp [e] at h1 <;> exact h1.1
theorem aZ6{c o:Bool}{t:Tr}(h:NP c o t)(hk:t.f.k=2):nD c o t.f.rs:=by
 have h1:=h.1;unfold dA at h1;simp [hk] at h1;exact h1.1
theorem mR{q:Int×Int}{i j:Nat}(h:gO L q i=some j):0<=q.1/\j=i+(q.2-q.1).toNat/\∀ k,k<(q.2-q.1).toNat->alk L.o (bt L.s (q.1.toNat+k)) (bt L.s (i+k))=true:=by
 unfold gO at h
 split at h
 ·cases h
 ·split at h
  ·rename_i h1 h2
   exact⟨by omega,(t6 h).symm,h2⟩
  ·cases h
theorem bL7(K:Kps L ρ G Gd Q)(t:Tr):bK (fun u=>NP L.c L.o u/\(u.f.k=7->G u.f.n=evG ρ G u)/\Gd (evG ρ G u)) t->∀ x y,Mt L t x y->Vf L x->Ev0 G Q x->Q (evG ρ G t) x.p y.p/\Ev0 G Q y:=by
 refine Tr.ind (P:=fun t=>bK (fun u=>NP L.c L.o u/\(u.f.k=7->G u.f.n=evG ρ G u)/\Gd (evG ρ G u)) t->∀ x y,Mt L t x y->Vf L x->Ev0 G Q x->Q (evG ρ G t) x.p y.p/\Ev0 G Q y) (fun t ih he x y h hx h0=>?_) t;obtain⟨hn,hg,-⟩:=((aQ t).1 he).1;have hd:∀ v∈t.ks,Gd (evG ρ G v):=fun v hv=>((aQ v).1 (bC he hv)).1.2.2;have hk:=fun u hu=>ih u hu (bC he hu);have hA:∀ v,t.ks=[v]->∀ x y,MtA L t.ks x y->Mt L v x y:=fun v hv x y h=>by
  rw [hv] at h;obtain⟨u,hu,h⟩:=(dM _ _ _).1 h;rw [t8.1 hu] at h;exact h
 rw [nP,pE];rw [fP] at h;by_cases k5:t.f.k=5
 ·rw [if_pos k5] at h;have hC:∀ ks:List Tr,(∀ u∈ks,u∈t.ks)->∀ x y,MtC L ks x y->Vf L x->Ev0 G Q x->Chn (evG ρ G) Q ks x.p y.p/\Ev0 G Q y:=by
   intro ks
   induction ks with
   | nil=>
    intro _ x y h hx h0;rw [dS] at h;subst h;exact⟨rfl,h0⟩
   | cons u us ih2=>
    intro hs x y h hx h0;obtain⟨z,h1,h2⟩:=(dY _ _ _ _).1 h;have hu:=hs u (r9 ..);obtain⟨a,b⟩:=hk u hu x z h1 hx h0;obtain⟨c,d⟩:=dC u x z h1 hx;obtain⟨e,f⟩:=ih2 (fun v hv=>hs v (r8 _ hv)) z y h2 c b;have hle:∀ (ks:List Tr) (z y:Cf),MtC L ks z y->Vf L z->z.p<=y.p:=by
     intro ks
     induction ks with
     | nil=>intro z y h _;rw [dS] at h;rw [h];exact t9 _
     | cons v vs ih3=>
      intro z y h hz;obtain⟨w,h1,h2⟩:=(dY _ _ _ _).1 h;obtain⟨c,d⟩:=dC v z w h1 hz;exact m8 d (ih3 w y h2 c)
    refine⟨⟨z.p,a,fun k3=>?_,d,hle us z y h2 c,e⟩,f⟩;rw [fP] at h1;simp [k3] at h1;have h3:=h1.1;unfold dP at h3;simp [k3] at h3;omega
  obtain⟨a,b⟩:=hC t.ks (fun _ h=>h) x y h hx h0;exact⟨K.cat t hn k5 hd _ _ a,b⟩
 rw [if_neg k5] at h;by_cases k6:t.f.k=6
 ·rw [if_pos k6] at h;obtain⟨u,hu,h⟩:=(dM _ _ _).1 h;obtain⟨a,b⟩:=hk u hu x y h hx h0;exact⟨K.alt t k6 hd u hu _ _ a,b⟩
 rw [if_neg k6] at h;by_cases k7:t.f.k=7
 ·rw [if_pos k7] at h;obtain⟨z,h1,rfl⟩:=h;obtain⟨v,hv⟩:=sU hn (.inl k7);obtain⟨a,b⟩:=hk v (by rw [hv];simp) x z (hA v hv x z h1) hx h0;have c:=K.grp t v k7 hv x.p z.p a;have e:t.ks.map (evG ρ G)=[evG ρ G v]:=by rw [hv];rfl
  rw [e];refine⟨c,fun i q hq=>?_⟩;unfold iP at hq;simp only at hq
  split at hq
  ·rw [aBO] at hq
   split at hq
   ·rename_i hi
    split at hq
    ·have:=t6 hq;subst this;refine .inr ?_;have h7:=(hn.2 k7).1;have e2:((i:Nat):Int)=t.f.n:=(by omega);rw [e2,hg k7,nP,pE,e];simpa using c
    ·cases hq
   ·exact b i q hq
  ·exact b i q hq
 rw [if_neg k7] at h;by_cases k8:t.f.k=8
 ·rw [if_pos k8] at h;obtain⟨h1,h2⟩:=h;have hb:=rI hn k8;have e:t.ks.map (evG ρ G)=[]:=by rw [mG hn (.inr (.inr (.inr (.inr k8))))];rfl
  rw [e];have hl:t.f.n.toNat<x.g.length:=by rw [hx.g];omega
  obtain⟨q,hq⟩:∃ q,x.g[t.f.n.toNat]?=some q:=⟨_,i9 hl⟩;have hgq:aG5 x.g t.f.n=q:=by unfold aG5;rw [aAG,hq];rfl
  rw [hgq] at h1;have hs:=(mR h1).1;have hq0:q≠(-1,-1):=fun e=>by rw [e] at hs;simp at hs
  have v1:=(hx.q _ _ hq).resolve_left hq0;have v2:=(h0 _ _ hq).resolve_left hq0;rw [show ((t.f.n.toNat:Nat):Int)=t.f.n by omega] at v2;exact⟨K.back t hn k8 q x.p y.p v2 v1.1 v1.2.1 v1.2.2 h1,fun i r hr=>h0 i r (by rw [<- h2];exact hr)⟩
 rw [if_neg k8] at h;by_cases k9:t.f.k=9
 ·rw [if_pos k9] at h;obtain⟨k,h1,h2,h3⟩:=h;obtain⟨v,hv⟩:=sU hn (.inr k9);have hT:∀ (k:Nat) (y:Cf),Tn (fun x y=>MtA L t.ks x y) t.f.mn.toNat k x y->Tq (Q (evG ρ G v)) k x.p y.p/\Ev0 G Q y/\Vf L y/\x.p<=y.p:=by
   intro k
   induction k with
   | zero=>
    intro y h;have:y=x:=h;subst this;exact⟨rfl,h0,hx,t9 _⟩
   | succ k ih2=>
    intro y h;obtain⟨z,h1,h2,-⟩:=h;obtain⟨a,b,c,d⟩:=ih2 z h1;obtain⟨e,f⟩:=hk v (by rw [hv];simp) z y (hA v hv z y h2) c b;obtain⟨g1,g2⟩:=dC v z y (hA v hv z y h2) c;exact⟨⟨z.p,a,e,d,g2⟩,f,g1,m8 d g2⟩
  obtain⟨a,b,-,-⟩:=hT k y h3;have e:t.ks.map (evG ρ G)=[evG ρ G v]:=by rw [hv];rfl
  rw [e];exact⟨K.rep t v hn k9 hv (hd v (by rw [hv];simp)) k _ _ h1 h2 a,b⟩
 rw [if_neg k9] at h;obtain⟨h1,h2⟩:=h;have kk:t.f.k=1\/t.f.k=2\/t.f.k=3\/t.f.k=4:=by
  have:=wW hn;omega
 have e:t.ks.map (evG ρ G)=[]:=by rw [mG hn (by omega)];rfl
 rw [e];exact⟨K.leaf t hn kk _ _ h1 hx.p,fun i r hr=>h0 i r (by rw [<- h2];exact hr)⟩
theorem mK{t:Tr}(hr:aW L.c L.o 0 0 (pp [] t)=0)(hρ:tU ρ)(g:Int->T)(hgd:∀ t xs g,NP L.c L.o t->xs.length=t.ks.length->(∀ x∈xs,Gd x)->(∀ i,Gd (g i))->Gd (ρ t.f t.ks xs g))(hg0:∀ i,Gd (g i))(K:(∀ i,Gd ((ev ρ g t).2 i))->Kps L ρ (ev ρ g t).2 Gd Q){i:Nat}(hi:i<=L.s.size){y:Cf}(h:Mt L t (cf0 i) y):Q (ev ρ g t).1 i y.p:=by
 obtain⟨e1,e2⟩:=bC9 hρ (aP5 hr) g;have hG:=(aM1 hgd t g (eW hr) hg0).2;have hev:∀ u:Tr,bK (NP L.c L.o) u->Gd (evG ρ (ev ρ g t).2 u):=fun u=>by
  refine Tr.ind (P:=fun u=>bK (NP L.c L.o) u->Gd (evG ρ (ev ρ g t).2 u)) (fun u ih he=>?_) u;rw [nP,pE];refine hgd u _ _ ((aQ u).1 he).1 (by simp) (fun x hx=>?_) hG;obtain⟨v,hv,rfl⟩:=aAI.1 hx;exact ih v hv (bC he hv)
 have he:bK (fun u=>NP L.c L.o u/\(u.f.k=7->(ev ρ g t).2 u.f.n=evG ρ (ev ρ g t).2 u)/\Gd (evG ρ (ev ρ g t).2 u)) t:=by
  refine tE t [] fun z hz=>?_;have:=gN t [] (eW hr) z hz;exact⟨((aQ z.2).1 this).1,e2 z hz,hev z.2 this⟩
 have:=(bL7 (K hG) t he (cf0 i) y h (jX hi) (bD0 i)).1;rw [e1];exact this
end
section
variable {L:Ln}
def eln(x:Int):Nat:=if x<128 then 1 else if x<2048 then 2 else if x<65536 then 3 else 4
theorem zX{x y:Int}(h:x<=y):eln x<=eln y:=by unfold eln;(repeat' split) <;> omega
theorem bN0{x:Int}(h0:0<=x)(h1:x<=1114111)(h2:x<55296\/57343<x):(Lib.encodeRune x).length=eln x:=by
 unfold eln
 split
 ·rw [Lib.encodeRune,Lib.encodeRuneZ_one h0 (by omega)];rfl
 ·split
  ·rw [Lib.encodeRune,Lib.encodeRuneZ_two (by omega) (by omega)];rfl
  ·split
   ·rw [Lib.encodeRune,Lib.encodeRuneZ_three (by omega)];rfl
   ·rw [Lib.encodeRune,Lib.encodeRuneZ_four (by omega) (by omega)];rfl
theorem tF{c:Bool}{x:Int}(h:bP c x):(gA c x).length=if c then eln x else 1:=by
 unfold gA
 cases c with
 | false=>simp
 | true=>
  obtain⟨a,b,d⟩:=h;have b:x<=1114111:=b;simpa using bN0 a b (d rfl)
theorem rC{c:Bool}{s:ByteArray}{i:Nat}(hi:i<s.size)(h0:0<=(uni c s i).1):bP c (uni c s i).1/\gA c (uni c s i).1=sl s i (uni c s i).2:=by
 unfold uni at h0 ⊢
 cases c with
 | false=>
  simp only [Bool.false_eq_true,if_false] at h0 ⊢;refine⟨⟨h0,?_,fun e=>by cases e⟩,?_⟩
  ·have:=jA s i;show (bt s i:Int)<=255;omega
  ·unfold gA sl bt;simp only [Bool.false_eq_true,if_false,aAW];have hl:i<s.data.toList.length:=(by rw [cY];exact hi);rw [aBA hl,aBM,v9,aAG,i9 hl];simp
 | true=>
  simp only [if_true] at h0 ⊢;have hb:bad s i=false:=by
   cases h:bad s i with
   | false=>rfl
   | true=>have:=bW4.2 h;omega
  rw [pH hb];have hv:=mO s i;unfold Lib.validRune at hv;rw [aBH] at hv;refine⟨⟨by omega,?_,fun _=>by omega⟩,?_⟩
  ·show _<=(1114111:Int);have:=bW1 s i;omega
  ·unfold gA;simp only [if_true];exact xI s i hi hb
theorem aI1{c:Bool}{s:ByteArray}{i:Nat}(hi:i<s.size)(h0:0<=(uni c s i).1):(gA c (uni c s i).1).length=(uni c s i).2:=by
 rw [(rC hi h0).2];unfold sl;rw [aAA,aAS,cY];have:=(aC5 (c:=c) hi).1;omega
theorem bL9{l:lIi}{x:Int}(h:bM0 l x=true):In l x:=by
 unfold bM0 at h;rw [List.any_eq_true] at h;obtain⟨r,hr,h⟩:=h;simp at h;exact⟨r,hr,h⟩
theorem sX{f:Fl}{i j:Nat}(hk:f.k=2)(h:dP L f i=some j):i<L.s.size/\0<=(uni L.c L.s i).1/\In f.rs (uni L.c L.s i).1/\j=i+(uni L.c L.s i).2:=by
 unfold dP at h;rw [if_pos hk] at h
 split at h
 ·rename_i h1
  exact⟨h1.1,h1.2.1,bL9 h1.2.2,(t6 h).symm⟩
 ·cases h
theorem mH{f:Fl}{i j:Nat}(hk:f.k≠2)(h:dP L f i=some j):j=i/\(f.k=3->i=0)/\(f.k=4->i=L.s.size):=by
 unfold dP at h;rw [if_neg hk] at h
 split at h
 ·split at h
  ·exact⟨(t6 h).symm,fun _=>by assumption,fun e=>by omega⟩
  ·cases h
 ·split at h
  ·split at h
   ·exact⟨(t6 h).symm,fun e=>by contradiction,fun _=>by assumption⟩
   ·cases h
  ·exact⟨(t6 h).symm,fun e=>by contradiction,fun e=>by contradiction⟩
def QW(v:Int×Int)(i j:Nat):Prop:=v.1<=(j:Int)-i/\(v.2=-1\/(j:Int)-i<=v.2)/\i<=j
theorem bT2{v x:Int×Int}{a i m:Nat}(h:QW v a i)(k:QW x i m):QW (pK v x) a m:=by
 obtain⟨h1,h2,h3⟩:=h;obtain⟨k1,k2,k3⟩:=k;refine⟨?_,?_,by omega⟩
 ·unfold pK lst;simp only;omega
 ·unfold pK uE mst;simp only
  split
  ·exact .inl rfl
  ·split
   ·exact .inl rfl
   ·right;omega
theorem aK0(V:Tr->Int×Int):∀ (ks:List Tr) (v:Int×Int) (a i j:Nat),QW v a i->Chn V QW ks i j->QW ((ks.map V).foldl pK v) a j
 | [],v,a,i,j,h,k=>by
  have:j=i:=k;subst this;exact h
 | u :: us,v,a,i,j,h,k=>by
  obtain⟨m,k1,-,-,-,k5⟩:=k;exact aK0 V us (pK v (V u)) a m j (bT2 h k1) k5
theorem tN:∀ (xs:lIi) (v:Int×Int),∀ x,(x=v\/x∈xs)->(xs.foldl kS v).1<=x.1/\((xs.foldl kS v).2=-1\/(x.2≠-1/\x.2<=(xs.foldl kS v).2))
 | [],v,x,h=>by
  rcases h with rfl | h
  ·refine⟨aAH _,?_⟩;by_cases e:x.2=-1
   ·exact .inl e
   ·exact .inr ⟨e,aAH _⟩
  ·cases h
 | y :: ys,v,x,h=>by
  rw [List.foldl_cons];have key:∀ z:Int×Int,(z=v\/z=y)->(kS v y).1<=z.1/\((kS v y).2=-1\/(z.2≠-1/\z.2<=(kS v y).2)):=by
   intro z hz;unfold kS xB;simp only
   split
   ·refine⟨?_,.inl rfl⟩;rcases hz with rfl | rfl <;> omega
   ·rcases hz with rfl | rfl
    ·exact⟨by omega,.inr ⟨by omega,by omega⟩⟩
    ·exact⟨by omega,.inr ⟨by omega,by omega⟩⟩
  obtain⟨a1,a2⟩:=tN ys (kS v y) (kS v y) (.inl rfl);rcases h with h | h
  ·obtain⟨b1,b2⟩:=key x (.inl h);exact⟨by omega,by omega⟩
  ·rcases aBB.1 h with h | h
   ·obtain⟨b1,b2⟩:=key x (.inr h);exact⟨by omega,by omega⟩
   ·exact tN ys (kS v y) x (.inr h)
theorem aW0{v:Int×Int}(hg:cR v):∀ (k i j:Nat),Tq (QW v) k i j->(k:Int)*v.1<=(j:Int)-i/\(v.2=-1\/(j:Int)-i<=(k:Int)*v.2)/\i<=j
 | 0,i,j,h=>by
  have:j=i:=h;subst this;refine⟨by simp,.inr (by simp),t9 _⟩
 | k+1,i,j,h=>by
  obtain⟨m,h1,h2,h3,h4⟩:=h;obtain⟨a,b,c⟩:=aW0 hg k i m h1;obtain⟨d,e,f⟩:=h2;have e1:((k+1:Nat):Int)*v.1=(k:Int)*v.1+v.1:=by rw [Int.natCast_add,Int.add_mul];simp
  have e2:((k+1:Nat):Int)*v.2=(k:Int)*v.2+v.2:=by rw [Int.natCast_add,Int.add_mul];simp
  rw [e1,e2];exact⟨by omega,by omega,by omega⟩
theorem bE4{l:lIi}(h:Cls l){x:Int}(hx:In l x)(r:Int×Int)(s:lIi)(e:l=r :: s):r.1<=x/\x<=((r :: s).getLast (by simp)).2:=by
 subst e;obtain⟨q,hq,h1,h2⟩:=hx;refine⟨?_,?_⟩
 ·rcases aBB.1 hq with e | e
  ·rw [<- e];exact h1
  ·have:=(aAP.1 h.apart).1 q e;have:=h.some r (by simp);omega
 ·have hl:=List.getLast_mem (l:=r :: s) (by simp);have:q.2<=((r :: s).getLast (by simp)).2:=by
   have key:∀ (l:lIi) (hne:l≠[]),l.Pairwise (fun a b=>a.2+1<b.1)->(∀ r∈l,r.1<=r.2)->∀ q∈l,q.2<=(l.getLast hne).2:=by
    intro l
    induction l with
    | nil=>intro hne;exact absurd rfl hne
    | cons a l ih=>
     intro hne hp hs q hq
     cases l with
     | nil=>rw [t8.1 hq];exact aAH _
     | cons b l=>
      rw [List.getLast_cons (by simp)];rcases aBB.1 hq with e | e
      ·rw [e];have h1:=(aAP.1 hp).1 b (by simp);have h2:=hs b (by simp);have h3:=ih (by simp) (aAP.1 hp).2 (fun r hr=>hs r (r8 _ hr)) b (by simp);omega
      ·exact ih (by simp) (aAP.1 hp).2 (fun r hr=>hs r (r8 _ hr)) q e
   exact key _ (by simp) h.apart h.some q hq
  omega
theorem bH5{G:Int->Int×Int}:Kps L (bV L.c) G cR QW:=by
 refine⟨fun u hn hk i j h hi=>?_,fun u hn hk _ i j h=>?_,fun u hk _ v hv i j h=>?_,fun u v hk hv i j h=>?_,fun u hn hk q i j h h1 h2 h3 h4=>?_,fun u v hn hk hv hd k i j h1 h2 h3=>?_⟩
 ·by_cases k2:u.f.k=2
  ·have e:bV L.c u.f u.ks [] G=uF L.c u.f.rs:=by unfold bV;rw [if_pos k2]
   rw [e];obtain⟨a1,a2,a3,a4⟩:=sX k2 h;have hs:=aZ6 hn k2;have hw:=aI1 (c:=L.c) a1 a2;have hin:∀ x,In u.f.rs x->bP L.c x:=fun x hx=>((hs.1.mem x).1 hx).2
   cases hrs:u.f.rs with
   | nil=>rw [hrs] at a3;obtain⟨r,hr,-⟩:=a3;cases hr
   | cons r s=>
    unfold uF;obtain⟨b1,b2⟩:=bE4 hs.1.cls a3 r s hrs;have c1:In u.f.rs r.1:=⟨r,by rw [hrs];simp,aAH _,hs.1.cls.some r (by rw [hrs];simp)⟩;have hm:=List.getLast_mem (l:=r :: s) (by simp);have c2:In u.f.rs ((r :: s).getLast (by simp)).2:=⟨_,by rw [hrs];exact hm,hs.1.cls.some _ (by rw [hrs];exact hm),aAH _⟩;rw [tF ((hin _ a3))] at hw;refine⟨?_,.inr ?_,by omega⟩
    ·simp only;rw [tF (hin _ c1)];have:=zX b1
     split at hw <;> simp_all <;> omega
    ·simp only;rw [tF (hin _ c2)];have:=zX b2
     split at hw <;> simp_all <;> omega
  ·have e:bV L.c u.f u.ks [] G=(0,0):=by
    unfold bV;rw [if_neg k2,if_neg (by omega),if_neg (by omega),if_neg (by omega),if_neg (by omega),if_neg (by omega)]
   rw [e];have:=(mH k2 h).1;exact⟨by simp only;omega,.inr (by simp only;omega),by omega⟩
 ·have e:bV L.c u.f u.ks (u.ks.map (evG (bV L.c) G)) G=(u.ks.map (evG (bV L.c) G)).foldl pK (0,0):=by
   unfold bV;rw [if_neg (by omega),if_pos hk]
  rw [e];exact aK0 _ u.ks (0,0) i i j ⟨by simp,.inr (by simp),t9 _⟩ h
 ·have e:bV L.c u.f u.ks (u.ks.map (evG (bV L.c) G)) G=(u.ks.map (evG (bV L.c) G)).foldl kS ((u.ks.map (evG (bV L.c) G)).headD (0,0)):=by
   unfold bV;rw [if_neg (by omega),if_neg (by omega),if_pos hk]
  rw [e];obtain⟨a,b⟩:=tN (u.ks.map (evG (bV L.c) G)) ((u.ks.map (evG (bV L.c) G)).headD (0,0)) (evG (bV L.c) G v) (.inr (aAI.2 ⟨v,hv,rfl⟩));obtain⟨h1,h2,h3⟩:=h;exact⟨by omega,by omega,h3⟩
 ·have e:bV L.c u.f u.ks [evG (bV L.c) G v] G=evG (bV L.c) G v:=by
   unfold bV;rw [if_neg (by omega),if_neg (by omega),if_neg (by omega),if_pos hk];rfl
  rw [e];exact h
 ·have e:bV L.c u.f u.ks [] G=G u.f.n:=by
   unfold bV;rw [if_neg (by omega),if_neg (by omega),if_neg (by omega),if_neg (by omega),if_pos hk]
  rw [e];obtain⟨a1,a2,a3⟩:=h;have:=(mR h4).2.1;exact⟨by omega,by omega,by omega⟩
 ·have e:bV L.c u.f u.ks [evG (bV L.c) G v] G=(lst (u.f.mn*(evG (bV L.c) G v).1),gW u.f.mx (evG (bV L.c) G v).2):=by
   unfold bV;rw [if_neg (by omega),if_neg (by omega),if_neg (by omega),if_neg (by omega),if_neg (by omega),if_pos hk];rfl
  rw [e];obtain⟨a,b,c⟩:=aW0 hd k i j h3;obtain⟨b1,b2,b3⟩:=sV hn hk;generalize (evG (bV L.c) G v)=x at a b hd ⊢;obtain⟨⟨d1,d2⟩,d3,d4⟩:=hd;refine⟨?_,?_,c⟩
  ·have hle:u.f.mn*x.1<=(k:Int)*x.1:=Int.mul_le_mul_of_nonneg_right (by omega) d1;unfold lst;simp only;omega
  ·unfold gW mst;simp only
   split
   ·right
    rename_i h0
    rcases h0 with h0 | h0
    ·have:k=0:=by omega
     subst this;have h3:j=i:=h3;omega
    ·rw [h0] at b;simp at b;omega
   ·split
    ·exact .inl rfl
    ·split
     ·exact .inl rfl
     ·right
      have hle:(k:Int)*x.2<=u.f.mx*x.2:=Int.mul_le_mul_of_nonneg_right (by omega) (by omega);omega
def QA(L:Ln)(v:Bool×Bool)(i j:Nat):Prop:=(v.1=true->i=0)/\(v.2=true->j=L.s.size)
theorem aA2(V:Tr->Bool×Bool):∀ (ks:List Tr) (i j:Nat),ks≠[]->Chn V (QA L) ks i j->(((ks.map V).getLastD (false,false)).2=true->j=L.s.size)
 | [],_,_,h,_=>absurd rfl h
 | [u],i,j,_,h=>by
  obtain⟨m,h1,-,-,-,h5⟩:=h;have h5:j=m:=h5;subst h5;simpa using h1.2
 | u :: v :: us,i,j,_,h=>by
  obtain⟨m,h1,-,-,-,h5⟩:=h;have:=aA2 V (v :: us) m j (by simp) h5;simpa using this
theorem aW3{v:Bool×Bool}:∀ (k i j:Nat),Tq (QA L v) (k+1) i j->QA L v i j
 | 0,i,j,h=>by
  obtain⟨m,h1,h2,-,-⟩:=h;have h1:m=i:=h1;subst h1;exact h2
 | k+1,i,j,h=>by
  obtain⟨m,h1,h2,-,-⟩:=h;have:=aW3 k i m h1;exact⟨this.1,h2.2⟩
theorem bO3{G:Int->Bool×Bool}:Kps L cS G (fun _=>True) (QA L):=by
 have triv:∀ i j,QA L (false,false) i j:=fun i j=>⟨fun e=>(by cases e),fun e=>(by cases e)⟩;refine⟨fun u hn hk i j h hi=>?_,fun u hn hk _ i j h=>?_,fun u hk _ v hv i j h=>?_,fun u v hk hv i j h=>?_,fun u hn hk q i j h h1 h2 h3 h4=>?_,fun u v hn hk hv hd k i j h1 h2 h3=>?_⟩
 ·unfold cS;by_cases k2:u.f.k=2
  ·simp [k2];exact triv i j
  ·obtain⟨a,b,c⟩:=mH k2 h
   split
   ·exact⟨fun _=>b (by assumption),fun e=>by cases e⟩
   ·split
    ·exact⟨fun e=>(by cases e),fun _=>a.trans (c (by assumption))⟩
    ·rw [if_neg (by omega),if_neg (by omega),if_neg (by omega),if_neg (by omega)];exact triv i j
 ·have e:cS u.f u.ks (u.ks.map (evG cS G)) G=(((u.ks.map (evG cS G)).headD (false,false)).1,((u.ks.map (evG cS G)).getLastD (false,false)).2):=by
   unfold cS;rw [if_neg (by omega),if_neg (by omega),if_pos hk]
  rw [e];have hl:=bU1 hn (.inl hk);refine⟨?_,aA2 _ u.ks i j (by intro e;rw [e] at hl;simp at hl) h⟩
  cases hks:u.ks with
  | nil=>rw [hks] at hl;simp at hl
  | cons a b=>
   rw [hks] at h;obtain⟨m,h1,-⟩:=h;simpa using h1.1
 ·have e:cS u.f u.ks (u.ks.map (evG cS G)) G=((u.ks.map (evG cS G)).all (·.1),(u.ks.map (evG cS G)).all (·.2)):=by
   unfold cS;rw [if_neg (by omega),if_neg (by omega),if_neg (by omega),if_pos hk]
  rw [e];refine⟨fun a=>h.1 ?_,fun a=>h.2 ?_⟩
  ·exact List.all_eq_true.1 a _ (aAI.2 ⟨v,hv,rfl⟩)
  ·exact List.all_eq_true.1 a _ (aAI.2 ⟨v,hv,rfl⟩)
 ·have e:cS u.f u.ks [evG cS G v] G=evG cS G v:=by
   unfold cS;rw [if_neg (by omega),if_neg (by omega),if_neg (by omega),if_neg (by omega),if_pos hk];rfl
  rw [e];exact h
 ·unfold cS;rw [if_neg (by omega),if_neg (by omega),if_neg (by omega),if_neg (by omega),if_neg (by omega),if_neg (by omega)];exact triv i j
 ·unfold cS;rw [if_neg (by omega),if_neg (by omega),if_neg (by omega),if_neg (by omega),if_neg (by omega),if_pos hk]
  split
  ·obtain⟨n,rfl⟩:∃ n,k=n+1:=⟨k-1,by omega⟩;exact aW3 n i j h3
  ·exact triv i j
end
section
variable {L:Ln}
theorem pM(a b:BitVec 256)(n:Nat):(aX a b).getLsbD n=(a.getLsbD n||b.getLsbD n):=by simp [aX]
theorem bF9(c:Bool)(l:lIi)(n:Nat):(fB c l).getLsbD n=true↔n<256/\∃ x,In l x/\bP c x/\fbU c x=(n:Int):=by
 unfold fB;rw [kC _ _ 256 lz9];simp
theorem bV5(x:Int)(h0:0<=x)(h1:x<=1114111)(h2:x<55296\/57343<x):∃ (b:UInt8) (l:List UInt8),Lib.encodeRune x=b :: l/\(b.toNat:Int)=fb x:=by
 unfold fb;by_cases h1:x<128
 ·rw [Lib.encodeRune,Lib.encodeRuneZ_one h0 (by omega),if_pos h1];exact⟨_,_,rfl,by simp;omega⟩
 by_cases h2:x<2048
 ·rw [Lib.encodeRune,Lib.encodeRuneZ_two (by omega) (by omega),if_neg h1,if_pos h2];exact⟨_,_,rfl,by simp;omega⟩
 by_cases h3:x<65536
 ·rw [Lib.encodeRune,Lib.encodeRuneZ_three (by omega),if_neg h1,if_neg h2,if_pos h3];exact⟨_,_,rfl,by simp;omega⟩
 ·rw [Lib.encodeRune,Lib.encodeRuneZ_four (by omega) (by omega),if_neg h1,if_neg h2,if_neg h3];exact⟨_,_,rfl,by simp;omega⟩
theorem bH9{c:Bool}{s:ByteArray}{i:Nat}(hi:i<s.size)(h0:0<=(uni c s i).1):fbU c (uni c s i).1=(bt s i:Int):=by
 obtain⟨h1,h2⟩:=rC hi h0;have hp:=wE c s i;have hl:i<s.data.toList.length:=by rw [cY];exact hi
 obtain⟨n,hn⟩:∃ n,(uni c s i).2=n+1:=⟨_,(Nat.sub_add_cancel hp).symm⟩;have e:sl s i (uni c s i).2=s.data.toList[i] :: (s.data.toList.drop (i+1)).take n:=by
  unfold sl;rw [aBA hl,hn,aBM]
 have eb:bt s i=(s.data.toList[i]).toNat:=by
  unfold bt;rw [aAG,i9 hl]
  rfl
 cases c with
 | false=>
  unfold fbU uni;simp
 | true=>
  unfold gA at h2;simp only [if_true] at h2;unfold fbU;simp only [if_true];obtain⟨a,b,d⟩:=h1;obtain⟨x,l,q1,q2⟩:=bV5 _ a b (d rfl);rw [q1,e] at h2;injection h2 with h3 h4;rw [<- q2,h3,eb]
def GdF(o:Bool)(v:bVb):Prop:=o=true->∀ a b:Nat,a<256->b<256->smB a=smB b->v.1.getLsbD a=true->v.1.getLsbD b=true
theorem lM(o b:Bool):GdF o (0#256,b):=fun _ a b _ _ _ h=>by simp at h
theorem aL4{o:Bool}{x y:BitVec 256}{b b' b'':Bool}(h:GdF o (x,b))(k:GdF o (y,b')):GdF o (aX x y,b''):=fun ho p q hp hq e hb=>by
 simp only [pM,Bool.or_eq_true] at hb ⊢;rcases hb with hb | hb
 ·exact .inl (h ho p q hp hq e hb)
 ·exact .inr (k ho p q hp hq e hb)
theorem aL6{o:Bool}{x:BitVec 256}{b b':Bool}(h:GdF o (x,b)):GdF o (x,b'):=h
theorem aL5{o:Bool}:∀ (xs:List (bVb)) (a:BitVec 256) (b:Bool),GdF o (a,b)->(∀ x∈xs,GdF o x)->GdF o (kE a xs)
 | [],a,b,h,_=>by rw [kE];exact h
 | x :: xs,a,b,h,hx=>by
  have h1:GdF o (aX a x.1,false):=aL4 h (b':=x.2) (hx x (by simp));rw [kE]
  split
  ·exact aL5 xs _ false h1 (fun y hy=>hx y (r8 _ hy))
  ·exact h1
theorem bC0{o:Bool}:∀ (xs:List (bVb)) (a:BitVec 256),GdF o (a,false)->(∀ x∈xs,GdF o x)->GdF o (xs.foldl (fun a x=>aX a x.1) a,false)
 | [],a,h,_=>h
 | x :: xs,a,h,hx=>bC0 xs _ (aL4 h (b':=x.2) (hx x (by simp))) (fun y hy=>hx y (r8 _ hy))
theorem aS0{α:Type}{xs:List α}{d:α}:xs.headD d=d\/xs.headD d∈xs:=by cases xs <;> simp
theorem bC2{c o:Bool}(t:Tr)(xs:List (bVb))(g:Int->bVb)(hn:NP c o t)(_:xs.length=t.ks.length)(hx:∀ x∈xs,GdF o x)(hg:∀ i,GdF o (g i)):GdF o (bU c t.f t.ks xs g):=by
 have hh:GdF o (xs.headD (0#256,false)):=by
  rcases aS0 (xs:=xs) (d:=((0#256,false):bVb)) with e | e
  ·rw [e];exact lM _ _
  ·exact hx _ e
 unfold bU
 split
 ·rename_i k2
  intro ho p q hp hq e hb;have hs:=aZ6 hn k2;simp only [bF9] at hb ⊢;obtain⟨-,x,x1,x2,x3⟩:=hb;by_cases hpq:p=q
  ·subst hpq;exact⟨hp,x,x1,x2,x3⟩
  ·have hr:p<128/\q<128/\(p+32=q/\65<=p/\p<=90\/q+32=p/\65<=q/\q<=90):=by
    unfold smB at e
    split at e <;> split at e <;> omega
   have hxp:x=(p:Int):=by
    obtain⟨a1,a2,a3⟩:=x2;unfold fbU at x3
    split at x3
    ·unfold fb at x3
     split at x3
     ·exact x3
     ·split at x3
      ·omega
      ·split at x3 <;> omega
    ·exact x3
   subst hxp;refine⟨hq,(q:Int),?_,⟨by omega,?_,fun _=>by omega⟩,?_⟩
   ·rw [hs.2 ho];unfold mX;rcases hr.2.2 with r | r
    ·refine .inr (.inl ⟨?_,by omega,by omega⟩);rw [show (q:Int)-32=(p:Int) by omega];exact x1
    ·refine .inr (.inr ⟨?_,by omega,by omega⟩);rw [show (q:Int)+32=(p:Int) by omega];exact x1
   ·show (q:Int)<=top c;unfold top
    split <;> omega
   ·unfold fbU fb
    split
    ·rw [if_pos (by omega)]
    ·rfl
 ·split
  ·exact aL5 xs _ false (lM _ _) hx
  ·split
   ·exact aL6 (bC0 xs _ (lM _ _) hx)
   ·split
    ·exact hh
    ·split
     ·exact hg _
     ·split
      ·exact aL6 (b:=(xs.headD (0#256,false)).2) hh
      ·exact lM _ _
def QF(L:Ln)(v:bVb)(i j:Nat):Prop:=i<=j/\(i=j->v.2=true)/\(i<j->v.1.getLsbD (bt L.s i)=true)
theorem aY2{n:Nat}:∀ (xs:List (bVb)) (a:BitVec 256),a.getLsbD n=true->(kE a xs).1.getLsbD n=true
 | [],a,h=>by rw [kE];exact h
 | x :: xs,a,h=>by
  have h1:(aX a x.1).getLsbD n=true:=by rw [pM,h];rfl
  rw [kE]
  split
  ·exact aY2 xs _ h1
  ·exact h1
theorem xK(V:Tr->bVb):∀ (ks:List Tr) (a:BitVec 256) (i j:Nat),Chn V (QF L) ks i j->QF L (kE a (ks.map V)) i j
 | [],a,i,j,h=>by
  have h:j=i:=h;subst h;rw [aCE,kE];exact⟨t9 _,fun _=>rfl,fun h=>by omega⟩
 | u :: us,a,i,j,h=>by
  obtain⟨m,⟨h1,h2,h3⟩,-,-,h6,h7⟩:=h;rw [aBP,kE];have hb:i<m->(aX a (V u).1).getLsbD (bt L.s i)=true:=fun q=>by rw [pM,h3 q];simp
  split
  ·by_cases e:i=m
   ·subst e;exact xK V us _ i j h7
   ·have:=(xK V us (aX a (V u).1) m j h7).1;exact⟨by omega,fun q=>by omega,fun _=>aY2 _ _ (hb (by omega))⟩
  ·rename_i hv
   have:i<m:=by
    apply Classical.byContradiction;intro q;exact hv (h2 (by omega))
   exact⟨by omega,fun q=>by omega,fun _=>hb this⟩
theorem bP5{n:Nat}:∀ (xs:List (bVb)) (a:BitVec 256),(a.getLsbD n=true\/∃ x∈xs,x.1.getLsbD n=true)->(xs.foldl (fun a x=>aX a x.1) a).getLsbD n=true
 | [],a,h=>by
  rcases h with h | ⟨x,hx,-⟩
  ·exact h
  ·cases hx
 | x :: xs,a,h=>by
  refine bP5 xs _ ?_;rcases h with h | ⟨y,hy,h⟩
  ·left;rw [pM,h];rfl
  ·rcases aBB.1 hy with e | e
   ·left;rw [pM,<- e,h];simp
   ·exact .inr ⟨y,e,h⟩
theorem aW2{v:bVb}:∀ (k i j:Nat),Tq (QF L v) k i j->i<=j/\(0<k->i=j->v.2=true)/\(i<j->v.1.getLsbD (bt L.s i)=true)
 | 0,i,j,h=>by
  have h:j=i:=h;subst h;exact⟨t9 _,fun h=>by omega,fun h=>by omega⟩
 | k+1,i,j,h=>by
  obtain⟨m,h1,⟨h2,h3,h4⟩,h5,h6⟩:=h;obtain⟨a,b,c⟩:=aW2 k i m h1;refine⟨by omega,fun _ e=>h3 (by omega),fun e=>?_⟩;by_cases q:i<m
  ·exact c q
  ·have:i=m:=by omega
   subst this;exact h4 e
theorem bM3{G:Int->bVb}(hG:∀ i,GdF L.o (G i)):Kps L (bU L.c) G (GdF L.o) (QF L):=by
 refine⟨fun u hn hk i j h hi=>?_,fun u hn hk _ i j h=>?_,fun u hk _ v hv i j h=>?_,fun u v hk hv i j h=>?_,fun u hn hk q i j h h1 h2 h3 h4=>?_,fun u v hn hk hv hd k i j h1 h2 h3=>?_⟩
 ·by_cases k2:u.f.k=2
  ·have e:bU L.c u.f u.ks [] G=(fB L.c u.f.rs,false):=by unfold bU;rw [if_pos k2]
   rw [e];obtain⟨a1,a2,a3,a4⟩:=sX k2 h;have:=wE L.c L.s i;refine⟨by omega,fun q=>by omega,fun _=>?_⟩;simp only [bF9];exact⟨jA _ _,_,a3,(rC a1 a2).1,bH9 a1 a2⟩
  ·have e:bU L.c u.f u.ks [] G=(0#256,true):=by
    unfold bU;rw [if_neg k2,if_neg (by omega),if_neg (by omega),if_neg (by omega),if_neg (by omega),if_neg (by omega)]
   rw [e];have:=(mH k2 h).1;exact⟨by omega,fun _=>rfl,fun q=>by omega⟩
 ·have e:bU L.c u.f u.ks (u.ks.map (evG (bU L.c) G)) G=kE 0#256 (u.ks.map (evG (bU L.c) G)):=by
   unfold bU;rw [if_neg (by omega),if_pos hk]
  rw [e];exact xK _ u.ks _ i j h
 ·have e:bU L.c u.f u.ks (u.ks.map (evG (bU L.c) G)) G=(oK (u.ks.map (evG (bU L.c) G)),(u.ks.map (evG (bU L.c) G)).any (·.2)):=by
   unfold bU;rw [if_neg (by omega),if_neg (by omega),if_pos hk]
  rw [e];obtain⟨a,b,c⟩:=h;exact⟨a,fun q=>List.any_eq_true.2 ⟨_,aAI.2 ⟨v,hv,rfl⟩,b q⟩,fun q=>bP5 _ _ (.inr ⟨_,aAI.2 ⟨v,hv,rfl⟩,c q⟩)⟩
 ·have e:bU L.c u.f u.ks [evG (bU L.c) G v] G=evG (bU L.c) G v:=by
   unfold bU;rw [if_neg (by omega),if_neg (by omega),if_neg (by omega),if_pos hk];rfl
  rw [e];exact h
 ·have e:bU L.c u.f u.ks [] G=G u.f.n:=by
   unfold bU;rw [if_neg (by omega),if_neg (by omega),if_neg (by omega),if_neg (by omega),if_pos hk]
  rw [e];obtain⟨a1,a2,a3⟩:=h;obtain⟨b1,b2,b3⟩:=mR h4;refine⟨by omega,fun r=>a2 (by omega),fun r=>?_⟩;have h5:=a3 (by omega);have h6:=b3 0 (by omega);rw [aAQ,aAQ] at h6;unfold alk at h6;rw [Bool.or_eq_true,aBE] at h6;rcases h6 with h6 | ⟨h6,h7⟩
  ·have:bt L.s q.1.toNat=bt L.s i:=by simpa using h6
   rw [<- this];exact h5
  ·exact hG u.f.n h6 _ _ (jA _ _) (jA _ _) (by simpa using h7) h5
 ·obtain⟨b1,b2,b3⟩:=sV hn hk;obtain⟨a,b,c⟩:=aW2 k i j h3;by_cases hm:u.f.mx=0
  ·have e:bU L.c u.f u.ks [evG (bU L.c) G v] G=(0#256,true):=by
    unfold bU;rw [if_neg (by omega),if_neg (by omega),if_neg (by omega),if_neg (by omega),if_neg (by omega),if_neg (by omega)]
   rw [e];have:k=0:=(by omega);subst this;have h3:j=i:=h3;exact⟨by omega,fun _=>rfl,fun q=>by omega⟩
  ·have e:bU L.c u.f u.ks [evG (bU L.c) G v] G=((evG (bU L.c) G v).1,u.f.mn==0 ||(evG (bU L.c) G v).2):=by
    unfold bU;rw [if_neg (by omega),if_neg (by omega),if_neg (by omega),if_neg (by omega),if_neg (by omega),if_pos ⟨hk,hm⟩];rfl
   rw [e];refine⟨a,fun q=>?_,c⟩;by_cases hk0:k=0
   ·have:u.f.mn=0:=by omega
    simp [this]
   ·simp [b (by omega) q]
end
section
variable {L:Ln}
def QO(L:Ln)(v:bAb)(i j:Nat):Prop:=i<=j/\i+v.1.size<=j/\(∀ k,k<v.1.size->bt v.1 k=bt L.s (i+k))/\(v.2=true->i+v.1.size=j)
theorem bF7{a b:ByteArray}{k:Nat}(h:k<a.size):bt (a++b) k=bt a k:=by
 unfold bt;rw [aAG,aAG,ByteArray.data_append,Array.toList_append,aAC (by rw [cY];exact h)]
theorem bF6{a b:ByteArray}{k:Nat}:bt (a++b) (a.size+k)=bt b k:=by
 unfold bt;rw [aAG,aAG,ByteArray.data_append,Array.toList_append,aAD (by rw [cY];omega),cY,Nat.add_sub_cancel_left]
theorem bW5{a:ByteArray}{n k:Nat}(h:k<n):bt (a.extract 0 n) k=bt a k:=by
 unfold bt;rw [aAG,aAG,ByteArray.data_extract,Array.toList_extract,List.extract_eq_take_drop];simp [h]
theorem dH:noB.size=0:=rfl
theorem sO{i j:Nat}(h:i<=j):QO L (noB,false) i j:=⟨h,by rw [dH];omega,fun k hk=>by rw [dH] at hk;omega,fun e=>by cases e⟩
theorem wS{v:bAb}{i j:Nat}(h:QO L v i j):QO L (eA v) i j:=by
 unfold eA;obtain⟨h0,h1,h2,h3⟩:=h
 split
 ·rename_i hb
  have e:=kM v.1 1000 (by omega);refine⟨h0,by simp only;omega,fun k hk=>?_,fun e=>by cases e⟩;simp only at hk ⊢;rw [bW5 (by omega)];exact h2 k (by omega)
 ·exact⟨h0,h1,h2,h3⟩
theorem oB(a b:ByteArray):(a++b).size=a.size+b.size:=ByteArray.size_append
theorem wT{s:ByteArray}{x:bAb}{a i j:Nat}{b:Bool}(h:QO L (s,true) a i)(k:QO L x i j):QO L (s++x.1,b&&x.2) a j:=by
 obtain⟨h0,h1,h2,h3⟩:=h;obtain⟨k0,k1,k2,k3⟩:=k;have h3:=h3 rfl;simp only at h1 h2 h3;refine⟨by omega,by simp only [oB];omega,fun n hn=>?_,fun e=>?_⟩
 ·simp only [oB] at hn ⊢;by_cases q:n<s.size
  ·rw [bF7 q];exact h2 n q
  ·obtain⟨m,rfl⟩:∃ m,n=s.size+m:=⟨n-s.size,by omega⟩;rw [bF6,k2 m (by omega)]
   congr 1
   omega
 ·simp only [aBE] at e;have:=k3 e.2;simp only [oB];omega
theorem bP3{s:ByteArray}{b:Bool}{a i j:Nat}(h:QO L (s,true) a i)(hj:i<=j)(hb:b=true->i=j):QO L (s,b) a j:=by
 obtain⟨h0,h1,h2,h3⟩:=h;have h3:=h3 rfl;exact⟨by omega,by simp only at h1 ⊢;omega,h2,fun e=>by have:=hb e;simp only at h3 ⊢;omega⟩
theorem wR{s:ByteArray}{b:Bool}{a i j:Nat}(h:QO L (s,b) a i)(hj:i<=j)(hb:b=true->i=j):QO L (s,b) a j:=by
 obtain⟨h0,h1,h2,h3⟩:=h;exact⟨by omega,by simp only at h1 ⊢;omega,h2,fun e=>by have:=hb e;have:=h3 e;simp only at this ⊢;omega⟩
theorem aM7{G:Int->bAb}:∀ (ks:List Tr) (s:ByteArray) (b:Bool) (a i j:Nat),QO L (s,true) a i->Chn (evG (bN L.c) G) (QO L) ks i j->QO L (eA (gL s b ks (ks.map (evG (bN L.c) G)))) a j
 | [],s,b,a,i,j,h,k=>by
  have k:j=i:=k;subst k;refine wS ?_;rw [aCE,gL];exact bP3 h lz9 (fun _=>rfl)
 | u :: us,s,b,a,i,j,h,k=>by
  obtain⟨m,k1,k2,k3,k4,k5⟩:=k;rw [aBP,gL];have hx:QO L (s++(evG (bN L.c) G u).1,b&&(evG (bN L.c) G u).2) a m:=wT h k1
  split
  ·rename_i hc
   rw [aBE,Bool.or_eq_true] at hc;refine aM7 us _ _ a m j ?_ k5;rcases hc.1 with hw | hw
   ·have:=wT (b:=true) h k1;rw [hw] at this;exact this
   ·have h3:u.f.k=3:=by simpa using hw
    have e:evG (bN L.c) G u=(noB,false):=by
     rw [nP];unfold bN;rw [if_neg (by omega),if_neg (by omega),if_neg (by omega),if_neg (by omega),if_neg (by omega)]
    have hm:=k2 h3;subst hm;rw [e];have k6:QO L (noB,true) m m:=⟨t9 _,by simp [dH],fun k hk=>by simp [dH] at hk,fun _=>by simp [dH]⟩;exact wT (b:=true) h k6
  ·rename_i hc
   by_cases hm:(b&&(evG (bN L.c) G u).2)=true
   ·have hbig:1000<(s++(evG (bN L.c) G u).1).size:=by
     apply Classical.byContradiction;intro q;apply hc;rw [aBE] at hm;rw [oB] at q;rw [hm.2];simp;omega
    have h2:=wS hx;unfold eA at h2 ⊢;rw [if_pos hbig] at h2 ⊢;exact wR h2 k4 (fun e=>by cases e)
   ·exact wS (wR hx k4 (fun e=>absurd e hm))
theorem aP9(l:List UInt8)(n:Nat):Lib.repeatL l (n+1)=Lib.repeatL l n++l:=by
 have:∀ n,Lib.repeatL l n=(List.replicate n l).flatten:=fun n=>by
  induction n with
  | zero=>simp [Lib.repeatL]
  | succ n ih=>rw [List.replicate_succ,aCG,<- ih];simp [Lib.repeatL]
 rw [this,this,List.replicate_succ',List.flatten_append];simp
theorem aP8(s:ByteArray)(n:Nat):qA s (n+1)=qA s n++s:=by
 unfold qA;rw [aP9];apply ByteArray.ext;rw [ByteArray.data_append];simp
theorem aW1{x:ByteArray}:∀ (k i j:Nat),Tq (QO L (x,true)) k i j->QO L (qA x k,true) i j
 | 0,i,j,h=>by
  have h:j=i:=h;subst h;have e:(qA x 0).size=0:=by rw [vB];rfl
  exact⟨t9 _,by simp only [e];omega,fun k hk=>by simp only [e] at hk;omega,fun _=>by simp only [e];omega⟩
 | k+1,i,j,h=>by
  obtain⟨m,h1,h2,h3,h4⟩:=h;rw [aP8];exact wT (b:=true) (aW1 k i m h1) h2
theorem wG{Q:Nat->Nat->Prop}(n:Nat):∀ (k i j:Nat),n<=k->Tq Q k i j->∃ m,Tq Q n i m/\i<=m/\m<=j/\(n=k->m=j)
 | 0,i,j,hn,h=>by
  have:n=0:=by omega
  subst this;have e:j=i:=h;exact⟨j,h,by omega,t9 _,fun _=>rfl⟩
 | k+1,i,j,hn,h=>by
  by_cases e:n=k+1
  ·subst e;have h':=h;obtain⟨m,h1,h2,h3,h4⟩:=h;exact⟨j,h',by omega,t9 _,fun _=>rfl⟩
  ·obtain⟨m,h1,h2,h3,h4⟩:=h;obtain⟨m',a,b,c,-⟩:=wG n k i m (by omega) h1;exact⟨m',a,b,by omega,fun q=>absurd q e⟩
theorem bL1{G:Int->bAb}:Kps L (bN L.c) G (fun _=>True) (QO L):=by
 refine⟨fun u hn hk i j h hi=>?_,fun u hn hk _ i j h=>?_,fun u hk _ v hv i j h=>?_,fun u v hk hv i j h=>?_,fun u hn hk q i j h h1 h2 h3 h4=>?_,fun u v hn hk hv hd k i j h1 h2 h3=>?_⟩
 ·have hle:=sY h hi;by_cases k2:u.f.k=2
  ·have e:bN L.c u.f u.ks [] G=wM L.c u.f.rs:=by unfold bN;rw [if_neg (by omega),if_pos k2]
   rw [e];obtain⟨a1,a2,a3,a4⟩:=sX k2 h;unfold wM
   split
   ·rename_i r hr
    split
    ·rename_i hrr
     have hx:(uni L.c L.s i).1=r.1:=by
      rw [hr] at a3;obtain⟨q,hq,b1,b2⟩:=a3;rw [t8.1 hq] at b1 b2;omega
     have hw:=aI1 a1 a2;have he:=(rC a1 a2).2;rw [hx] at hw he;refine⟨hle.1,by simp only [jI];omega,fun k hk=>?_,fun _=>by simp only [jI];omega⟩;simp only [jI] at hk;have hb:=(lC he.symm hk).1;rw [hb];unfold bt txt;simp [List.getD_eq_getElem?_getD,List.getElem?_eq_getElem hk]
    ·exact sO hle.1
   ·exact sO hle.1
  ·by_cases k1:u.f.k=1
   ·have e:bN L.c u.f u.ks [] G=(noB,true):=by unfold bN;rw [if_pos k1]
    rw [e];have:=(mH k2 h).1;exact⟨hle.1,by simp only [dH];omega,fun k hk=>by simp only [dH] at hk;omega,fun _=>by simp only [dH];omega⟩
   ·have e:bN L.c u.f u.ks [] G=(noB,false):=by
     unfold bN;rw [if_neg k1,if_neg k2,if_neg (by omega),if_neg (by omega),if_neg (by omega)]
    rw [e];exact sO hle.1
 ·have e:bN L.c u.f u.ks (u.ks.map (evG (bN L.c) G)) G=eA (gL noB true u.ks (u.ks.map (evG (bN L.c) G))):=by
   unfold bN;rw [if_neg (by omega),if_neg (by omega),if_pos hk]
  rw [e];exact aM7 u.ks noB true i i j ⟨t9 _,by simp [dH],fun k hk=>by simp [dH] at hk,fun _=>by simp [dH]⟩ h
 ·have e:bN L.c u.f u.ks (u.ks.map (evG (bN L.c) G)) G=(noB,false):=by
   unfold bN;rw [if_neg (by omega),if_neg (by omega),if_neg (by omega),if_neg (by omega),if_neg (by omega)]
  rw [e];exact sO h.1
 ·have e:bN L.c u.f u.ks [evG (bN L.c) G v] G=evG (bN L.c) G v:=by
   unfold bN;rw [if_neg (by omega),if_neg (by omega),if_neg (by omega),if_pos hk];rfl
  rw [e];exact h
 ·have e:bN L.c u.f u.ks [] G=(noB,false):=by
   unfold bN;rw [if_neg (by omega),if_neg (by omega),if_neg (by omega),if_neg (by omega),if_neg (by omega)]
  rw [e];have:=(mR h4).2.1;exact sO (by omega)
 ·have e:bN L.c u.f u.ks [evG (bN L.c) G v] G=lD u.f (evG (bN L.c) G v):=by
   unfold bN;rw [if_neg (by omega),if_neg (by omega),if_neg (by omega),if_neg (by omega),if_pos hk];rfl
  rw [e];obtain⟨b1,b2,b3⟩:=sV hn hk;generalize evG (bN L.c) G v=x at h3 ⊢;obtain⟨n0,hn0⟩:∃ n:Nat,u.f.mn=(n:Int):=⟨u.f.mn.toNat,by omega⟩;obtain⟨m,t1,t2,t3,t4⟩:=wG n0 k i j (by omega) h3;unfold lD
  split
  ·have:k=0:=by omega
   subst this;have h3:j=i:=h3;exact⟨by omega,by simp only [dH];omega,fun k hk=>by simp only [dH] at hk;omega,fun _=>by simp only [dH];omega⟩
  ·split
   ·exact sO (by omega)
   ·split
    ·rename_i hx
     obtain⟨x1,x2⟩:=x;simp only at hx;subst hx;refine wS ?_;rw [hn0,aAW];have hr:=aW1 n0 i m t1;refine bP3 hr t3 (fun e=>t4 ?_);have e:(n0:Int)=u.f.mx:=(by simpa using e);omega
    ·rename_i hm0 hx
     obtain⟨m1,s1,s2,s3,-⟩:=wG 1 k i j (by omega) h3;obtain⟨m2,s4,s5,-,-⟩:=s1;have s4:m2=i:=s4;subst s4;exact wR s5 s3 (fun e=>absurd e hx)
end
section
open Go Go.RowKit Go.Shelf
attribute [local go_sem] Oper.semAt_some aS
structure Crt(s:ByteArray)(o:Bool)(vw:Int×Int)(va:Bool×Bool)(vs:bVb)(vp vl:ByteArray)(vk:Bool)(a j:Nat):Prop where
 js:j<=s.size
 aj:a<=j
 w1:vw.1<=(j:Int)-a
 w2:vw.2=-1\/(j:Int)-a<=vw.2
 a1:va.1=true->a=0
 a2:va.2=true->j=s.size
 f1:a=j->vs.2=true
 f2:a<j->vs.1.getLsbD (bt s a)=true
 p1:a+vp.size<=j
 p2:∀ k,k<vp.size->bt vp k=bt s (a+k)
 l1:a+vl.size<=j
 l2:∀ k,k<vl.size->bt vl k=bt s (a+k)
 l3:vk=true->a+vl.size=j
theorem bW2{L:Ln}{t:Tr}(hr:aW L.c L.o 0 0 (pp [] t)=0){a:Nat}(ha:a<=L.s.size){y:Cf}(h:Mt L t (cf0 a) y) :
  Crt L.s L.o (tvW (bV L.c) L.c L.o t) (tvA cS L.c L.o t) (tvS (bU L.c) L.c L.o t) (tvO (bN L.c) L.c L.o t).1 (nL L.c L.o t).1 (nL L.c L.o t).2 a y.p:=by
 have qw:QW (tvW (bV L.c) L.c L.o t) a y.p:=by
  unfold tvW;rw [if_pos hr];exact mK hr (aE4 _) _ (fun t xs g hn hl hx hg=>rV t xs g hn hl hx hg) (fun _=>bB9) (fun _=>bH5) ha h
 have qa:QA L (tvA cS L.c L.o t) a y.p:=by
  unfold tvA;rw [if_pos hr];exact mK hr aE7 _ (Gd:=fun _=>True) (fun _ _ _ _ _ _ _=>trivial) (fun _=>trivial) (fun _=>bO3) ha h
 have qf:QF L (tvS (bU L.c) L.c L.o t) a y.p:=by
  unfold tvS;rw [if_pos hr];exact mK hr (aE6 _) _ (Gd:=GdF L.o) (fun t xs g hn hl hx hg=>bC2 t xs g hn hl hx hg) (fun _=>lM _ _) (fun hG=>bM3 hG) ha h
 have qo:QO L (tvO (bN L.c) L.c L.o t) a y.p:=by
  unfold tvO;rw [if_pos hr];exact mK hr (aE5 _) _ (Gd:=fun _=>True) (fun _ _ _ _ _ _ _=>trivial) (fun _=>trivial) (fun _=>bL1) ha h
 have hy:=(dC t (cf0 a) y h (jX ha)).1.p;have hl:QO L (nL L.c L.o t) a y.p:=by
  unfold nL
  split
  ·rename_i e
   exact⟨qo.1,qo.2.1,qo.2.2.1,fun _=>qo.2.2.2 e⟩
  ·exact sO qo.1
 exact⟨hy,qw.2.2,qw.1,qw.2.1,qa.1,qa.2,qf.2.1,qf.2.2,qo.2.1,qo.2.2.1,hl.2.1,hl.2.2.1,hl.2.2.2⟩
end
section
theorem bP1{R:Cf->Cf->Prop}{mn:Nat}(hR:∀ x y,R x y->x.p<=y.p\/True):∀ (k:Nat) (x y:Cf),Tn R mn k x y->mn<=k->k-mn<=y.p\/k=mn
 | 0,x,y,h,hk=>by omega
 | k+1,x,y,h,hk=>by
  obtain⟨z,h1,h2,h3⟩:=h;by_cases e:mn<=k
  ·have h4:=h3 e;rcases bP1 hR k x z h1 e with q | q
   ·left;omega
   ·left;omega
  ·right;omega
theorem aW5{R:Cf->Cf->Prop}{mn k:Nat}{x y:Cf}(h:Tn R mn k x y):k-mn<=y.p:=by
 by_cases e:mn<=k
 ·rcases bP1 (R:=R) (fun _ _ _=>.inr trivial) k x y h e with q | q
  ·exact q
  ·omega
 ·omega
theorem aD2{R:Cf->Cf->Prop}{mn:Nat}{x:Cf}(t:Nat):∀ (k:Nat) (y:Cf),t<=k->Tn R mn k x y->∃ z,Tn R mn t x z
 | 0,y,hk,h=>by
  have e:t=0:=by omega
  subst e;exact⟨y,h⟩
 | k+1,y,hk,h=>by
  by_cases e:t=k+1
  ·subst e;exact⟨y,h⟩
  ·obtain⟨z,h1,-,-⟩:=h;exact aD2 t k z (by omega) h1
structure TS(R:Cf->Cf->Prop)(mn:Nat)(mx:Int)(x:Cf)(t:Nat)(O N:Cf->Prop):Prop where
 n:∀ y,N y->Tn R mn t x y/\(mx=-1\/(t:Int)<=mx)
 o:∀ y,O y->Rp R (mn:Int) mx x y
 e:t<=mn->∀ y,¬ O y
def TC(R:Cf->Cf->Prop)(mn:Nat)(mx:Int)(x:Cf)(t:Nat)(O N:Cf->Prop):Prop:=
 (mx≠-1->(∀ y,Tn R mn t x y->(t:Int)<=mx->N y)/\∀ (k:Nat) (y:Cf),k<t->mn<=k->(k:Int)<=mx->Tn R mn k x y->O y) /\
 (mx=-1->(t<=mn->∀ y,Tn R mn t x y->N y)/\(mn<=t->(∀ y,Tn R mn mn x y->O y\/N y)/\∀ y z,O y->R y z->y.p<z.p->O z\/N z))
variable {R:Cf->Cf->Prop} {mn:Nat} {mx:Int} {x:Cf} {t:Nat} {O N:Cf->Prop}
theorem aI2(hm:mx=-1\/(mn:Int)<=mx):TS R mn mx x 0 (fun _=>False) (fun y=>y=x):=
 ⟨fun y h=>⟨h,by omega⟩,fun _ h=>h.elim,fun _ _ h=>h⟩
theorem aI4:TC R mn mx x 0 (fun _=>False) (fun y=>y=x):=
 ⟨fun _=>⟨fun y h _=>h,fun k y h=>by omega⟩,fun _=>⟨fun _ y h=>h,fun h=>⟨fun y hy=>.inr (by
  have:mn=0:=by omega
  subst this;exact hy),fun y z h=>h.elim⟩⟩⟩
theorem rD(h:TS R mn mx x t O N){O' N':Cf->Prop}(hO:∀ y,O' y->O y\/(mn<=t/\N y))(hN:∀ z,N' z->(t:Int)≠mx/\∃ y,N y/\R y z/\(mn<=t->y.p<z.p)):TS R mn mx x (t+1) O' N':=by
 refine⟨fun z hz=>?_,fun y hy=>?_,fun ht y hy=>?_⟩
 ·obtain⟨h1,y,h2,h3,h4⟩:=hN z hz;obtain⟨a,b⟩:=h.n y h2;exact⟨⟨y,a,h3,h4⟩,by omega⟩
 ·rcases hO y hy with q | ⟨q,r⟩
  ·exact h.o y q
  ·obtain⟨a,b⟩:=h.n y r;exact⟨t,by simpa using q,b,by simpa using a⟩
 ·rcases hO y hy with q | ⟨q,r⟩
  ·exact h.e (by omega) y q
  ·omega
theorem rE(hs:TS R mn mx x t O N)(h:TC R mn mx x t O N){O' N':Cf->Prop}(hO:∀ y,O y->O' y)(hO2:mn<=t->∀ y,N y->O' y)(hO3:∀ y,O' y->O y\/(mn<=t/\N y))
  (hN:∀ y z,N y->R y z->(mn<=t->y.p<z.p)->(t:Int)≠mx->N' z\/(mx=-1/\mn<=t/\(O' z\/O y))):TC R mn mx x (t+1) O' N':=by
 refine⟨fun hm=>?_,fun hm=>?_⟩
 ·obtain⟨h1,h2⟩:=h.1 hm;refine⟨fun z hz hzm=>?_,fun k y hk a b c=>?_⟩
  ·obtain⟨y,y1,y2,y3⟩:=hz;rcases hN y z (h1 y y1 (by omega)) y2 y3 (by omega) with q | ⟨q,-⟩
   ·exact q
   ·exact absurd q hm
  ·by_cases e:k=t
   ·subst e;exact hO2 a y (h1 y c b)
   ·exact hO y (h2 k y (by omega) a b c)
 ·obtain⟨h1,h2⟩:=h.2 hm;refine⟨fun ht z hz=>?_,fun ht=>?_⟩
  ·obtain⟨y,y1,y2,y3⟩:=hz;rcases hN y z (h1 (by omega) y y1) y2 y3 (by omega) with q | ⟨-,q,-⟩
   ·exact q
   ·omega
  ·by_cases e:mn<=t
   ·obtain⟨a,b⟩:=h2 e;refine⟨fun y hy=>.inl ?_,fun y z hy hr hp=>?_⟩
    ·rcases a y hy with q | q
     ·exact hO y q
     ·exact hO2 e y q
    ·have hb:O y->O' z\/N' z:=fun q=>by
      rcases b y z q hr hp with r | r
      ·exact .inl (hO z r)
      ·exact .inl (hO2 e z r)
     rcases hO3 y hy with q | ⟨-,q⟩
     ·exact hb q
     ·rcases hN y z q hr (fun _=>hp) (by omega) with r | ⟨-,-,r⟩
      ·exact .inr r
      ·rcases r with r | r
       ·exact .inl r
       ·exact hb r
   ·have e':t+1=mn:=by omega
    refine⟨fun y hy=>.inr ?_,fun y z hy=>?_⟩
    ·rw [<- e'] at hy;obtain⟨z,z1,z2,z3⟩:=hy;rw [e'] at z1 z3;rcases hN z y (h1 (by omega) z (by simpa using z1)) z2 (fun q=>absurd q e) (by omega) with q | ⟨-,q,-⟩
     ·exact q
     ·exact absurd q e
    ·rcases hO3 y hy with q | ⟨q,-⟩
     ·exact absurd q (hs.e (by omega) y)
     ·exact absurd q e
theorem aW7(hs:TS R mn mx x t O N)(h:TC R mn mx x t O N)(hN:∀ y,¬ N y)(y:Cf):O y↔Rp R (mn:Int) mx x y:=by
 refine⟨hs.o y,?_⟩;rintro ⟨k,h1,h2,h3⟩;rw [aAW] at h1 h3;by_cases hm:mx=-1
 ·obtain⟨a,b⟩:=h.2 hm;by_cases e:mn<=t
  ·obtain⟨p,q⟩:=b e;have:∀ (k:Nat) (y:Cf),mn<=k->Tn R mn k x y->O y:=by
    intro k
    induction k with
    | zero=>
     intro y hk hy;have:mn=0:=(by omega);subst this;exact(p y hy).resolve_right (hN y)
    | succ k ih=>
     intro y hk hy;by_cases e2:mn<=k
     ·obtain⟨z,z1,z2,z3⟩:=hy;exact(q z y (ih z e2 z1) z2 (z3 e2)).resolve_right (hN y)
     ·have:mn=k+1:=by omega
      subst this;exact(p y hy).resolve_right (hN y)
   exact this k y h1 h3
  ·obtain⟨z,hz⟩:=aD2 t k y (by omega) h3;exact absurd (a (by omega) z hz) (hN z)
 ·obtain⟨a,b⟩:=h.1 hm;have h2':(k:Int)<=mx:=by omega
  by_cases e:k<t
  ·exact b k y e h1 h2' h3
  ·obtain⟨z,hz⟩:=aD2 t k y (by omega) h3;exact absurd (a z hz (by omega)) (hN z)
theorem bI4(hs:TS R mn mx x t O N)(h:TC R mn mx x t O N)(ht:(t:Int)=mx)(hmn:mn<=t)(y:Cf):(O y\/N y)↔Rp R (mn:Int) mx x y:=by
 constructor
 ·rintro (q | q)
  ·exact hs.o y q
  ·obtain⟨a,b⟩:=hs.n y q;exact⟨t,by simpa using hmn,b,by simpa using a⟩
 ·rintro ⟨k,h1,h2,h3⟩;rw [aAW] at h1 h3;obtain⟨a,b⟩:=h.1 (by omega);by_cases e:k<t
  ·exact .inl (b k y e h1 (by omega) h3)
  ·have:k=t:=by omega
   subst this;exact .inr (a y h3 (by omega))
end
end Go.Proofs.YtdgfpiekjigfnaaGreatDoor
