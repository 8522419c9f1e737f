/-
  Parts of the proof.
-/
import Derived.Test.YticfnglebbakkaaGreatDoorApartProofB5
import Derived.Test.YticfnglebbakkaaGreatDoorApartProofB7
import Derived.Test.YticfnglebbakkaaGreatDoorApartProofB14
import Derived.Test.YticfnglebbakkaaGreatDoorApartProofB0
import Derived.Test.YticfnglebbakkaaGreatDoorApartProofB9
import Derived.Test.YticfnglebbakkaaGreatDoorApartProofB15
import Derived.Test.YticfnglebbakkaaGreatDoorApartProofB12
import Derived.Recover
import Derived.Test.YticfnglebbakkaaGreatDoorApartProofB10
import Derived.Test.YticfnglebbakkaaGreatDoorApartProofB1
import Derived.Lib.OthersKept
import Derived.Lib.Builder
import Derived.Lib.AppendStr
import Derived.Lib.UnsafeStr
import Derived.Lib.FrozenHead
import Derived.Laws.Externs
import Derived.Shelf.RegionOpenPlain
import Derived.Laws.Cover4
import Derived.Laws.IdiomStrings
import Derived.Laws.BytesArg
set_option maxRecDepth 100000
set_option maxHeartbeats 8000000
namespace Go.Proofs.YticfnglebbakkaaGreatDoor
open Go Go.RowKit
theorem lF(W:World)(cs:Array Value)(t:TypeId):∀ (j:Nat) (u:Value),cs.toList[j]?=some u->(W.alloc (.cells cs t)).cell? ((⟨W.heap.size,0,none⟩:Addr).add j)=some u:=by
 intro j u h
 have hadd:(⟨W.heap.size,0,none⟩:Addr).add j=⟨W.heap.size,j,none⟩:=by unfold Addr.add;split <;> simp_all
 rw [hadd]
 exact aC (aE W _) (by simpa using h)
section
attribute [local go_sem] bD
abbrev aK9:Obj:=.cells #[.int .i64 0,.int .i64 0,.int .i64 0,.int .i64 0,.int .i64 0,.int .i64 0,.slice none 0 0] 116
def TZ(w:World)(g:Nat):Prop:=w.heap[g]?=some aK9
end
structure aK7(m:Md)(s:ByteArray)(x:Ps)(T:List Tp):Prop where
 lex:uX m s=.ok T
 held:xM T=none
 wf:wf x
 pfl:pfl x=nV 0 T
 dp:x.dp<=40
 sz:x.sz<=2000
theorem uW{m:Md}{s:ByteArray}{T:List Tp}(h:uX m s=.ok T):∀ t∈T,1<=t.1.kind/\t.1.kind<=8:=fun t ht=>by
 obtain⟨p,hb⟩:=sB h
 exact⟨(hb.tok t ht).ok.1,(hb.tok t ht).ok.2.1⟩
section
open Go
def sl(s:ByteArray)(p n:Nat):List UInt8:=(s.data.toList.drop p).take n
theorem aJ9(s:ByteArray)(p:Nat):Lib.decodeL (s.data.toList.drop p)=Utf8.decode s p:=by
 rw [Lib.decodeL_N,Lib.decode_N,List.length_drop]
 simp only [List.getD_eq_getElem?_getD,List.getElem?_drop,Nat.add_zero]
theorem aH7(s:ByteArray)(p:Nat)(hp:p < s.size)(hb:bad s p=false):Lib.encodeRune ((Utf8.decode s p).1:Int)=sl s p (wd s p):=by
 have hne:s.data.toList.drop p≠[]:=by
  intro e
  have:=congrArg List.length e
  rw [List.length_drop,aS] at this
  simp at this;omega
 have:=Lib.encode_decode (s.data.toList.drop p) hne (by
  rw [aJ9]
  rintro ⟨h1,h2⟩
  have:bad s p=true:=by
   unfold bad
   rw [decide_eq_true_eq]
   exact Prod.ext h1 h2
  rw [hb] at this;cases this)
 rw [aJ9] at this
 exact this
theorem gX{s:ByteArray}{p n i:Nat}{l:List UInt8}(h:sl s p n=l)(hi:i < l.length):bt s (p+i)=(l[i]).toNat/\i < s.size - p:=by
 have hl:i < ((s.data.toList.drop p).take n).length:=by rw [show (s.data.toList.drop p).take n=l from h];exact hi
 have hl':=hl
 rw [List.length_take,List.length_drop,aS] at hl'
 have e:l[i]?=s.data.toList[p+i]?:=by
  rw [<- h,sl,List.getElem?_take_of_lt (by omega),List.getElem?_drop]
 rw [List.getElem?_eq_getElem hi] at e
 refine⟨?_,by omega⟩
 unfold bt
 rw [List.getD_eq_getElem?_getD,<- e]
 rfl
theorem sI{s:ByteArray}{p:Nat}{c:Int}(hc:0<=c/\c<=1114111/\(c < 55296\/57343 < c))(h:sl s p (Lib.encodeRune c).length=Lib.encodeRune c):((Utf8.decode s p).1:Int)=c/\wd s p=(Lib.encodeRune c).length/\bad s p=false:=by
 obtain⟨r0,r1,r2⟩:=hc
 have key:∀ (m:Nat),Utf8.decode s p=(c.toNat,m)->(c.toNat,m)≠((65533,1):Nat × Nat)->((Utf8.decode s p).1:Int)=c/\wd s p=m/\bad s p=false:=fun m e hne=>by
  refine⟨by rw [e];simp only;omega,by unfold wd;rw [e],?_⟩
  unfold bad
  rw [e]
  simpa using hne
 by_cases h1:c<=127
 ·have hE:Lib.encodeRune c=[c].map fun x=>x.toNat.toUInt8:=by rw [Lib.encodeRune,Lib.encodeRuneZ_one r0 h1]
  rw [hE] at h ⊢
  obtain⟨b0,s0⟩:=gX h (i:=0) (by simp)
  simp at b0
  refine key 1 ?_ (by simp;omega)
  rw [iH]
  have:bt s p=c.toNat:=by omega
  rw [this]
  unfold Lib.decodeN
  rw [if_pos (by omega)]
 by_cases h2:c<=2047
 ·have hE:Lib.encodeRune c=[192+c / 64,128+c % 64].map fun x=>x.toNat.toUInt8:=by rw [Lib.encodeRune,Lib.encodeRuneZ_two (by omega) h2]
  rw [hE] at h ⊢
  obtain⟨b0,s0⟩:=gX h (i:=0) (by simp)
  obtain⟨b1,s1⟩:=gX h (i:=1) (by simp)
  simp at b0 b1
  refine key 2 ?_ (by simp)
  rw [iH]
  have e0:bt s p=192+c.toNat / 64:=by omega
  have e1:bt s (p+1)=128+c.toNat % 64:=by omega
  have hl:c.toNat<=2047:=by omega
  have hg:128<=c.toNat:=by omega
  rw [e0,e1]
  generalize c.toNat=m at *
  unfold Lib.decodeN
  rw [if_neg (by omega),if_pos (by omega),if_pos (by omega)]
  apply Prod.ext <;> simp only <;> omega
 by_cases h3:c<=65535
 ·have hE:Lib.encodeRune c=[224+c / 4096,128+c / 64 % 64,128+c % 64].map fun x=>x.toNat.toUInt8:=by rw [Lib.encodeRune,Lib.encodeRuneZ_three (by omega)]
  rw [hE] at h ⊢
  obtain⟨b0,s0⟩:=gX h (i:=0) (by simp)
  obtain⟨b1,s1⟩:=gX h (i:=1) (by simp)
  obtain⟨b2,s2⟩:=gX h (i:=2) (by simp)
  simp at b0 b1 b2
  refine key 3 ?_ (by simp)
  rw [iH]
  have e0:bt s p=224+c.toNat / 4096:=by omega
  have e1:bt s (p+1)=128+c.toNat / 64 % 64:=by omega
  have e2:bt s (p+2)=128+c.toNat % 64:=by omega
  have hl:c.toNat<=65535:=by omega
  have hg:2048<=c.toNat:=by omega
  have hv:c.toNat < 55296\/57344<=c.toNat:=by omega
  rw [e0,e1,e2]
  generalize c.toNat=m at *
  unfold Lib.decodeN
  rw [if_neg (by omega),if_neg (by omega),if_pos (by omega),if_pos (by omega)]
  apply Prod.ext <;> simp only <;> omega
 ·have hE:Lib.encodeRune c=[240+c / 262144,128+c / 4096 % 64,128+c / 64 % 64,128+c % 64].map fun x=>x.toNat.toUInt8:=by rw [Lib.encodeRune,Lib.encodeRuneZ_four (by omega) (by omega)]
  rw [hE] at h ⊢
  obtain⟨b0,s0⟩:=gX h (i:=0) (by simp)
  obtain⟨b1,s1⟩:=gX h (i:=1) (by simp)
  obtain⟨b2,s2⟩:=gX h (i:=2) (by simp)
  obtain⟨b3,s3⟩:=gX h (i:=3) (by simp)
  simp at b0 b1 b2 b3
  refine key 4 ?_ (by simp)
  rw [iH]
  have e0:bt s p=240+c.toNat / 262144:=by omega
  have e1:bt s (p+1)=128+c.toNat / 4096 % 64:=by omega
  have e2:bt s (p+2)=128+c.toNat / 64 % 64:=by omega
  have e3:bt s (p+3)=128+c.toNat % 64:=by omega
  have hl:c.toNat<=1114111:=by omega
  have hg:65536<=c.toNat:=by omega
  rw [e0,e1,e2,e3]
  generalize c.toNat=m at *
  unfold Lib.decodeN
  rw [if_neg (by omega),if_neg (by omega),if_neg (by omega),if_pos (by omega),if_pos (by omega)]
  apply Prod.ext <;> simp only <;> omega
end
section
open Go
theorem pV(l:List UInt8)(x:UInt8):kK (l ++ [x])=min (10 * kK l+(x.toNat - 48)) 256:=by
 unfold kK
 rw [List.foldl_append]
 rfl
def aN(n:Nat):List UInt8:=if h:n < 10 then [UInt8.ofNat (48+n)] else aN (n / 10) ++ [UInt8.ofNat (48+n % 10)]
termination_by n
decreasing_by omega
theorem cT{n:Nat}(h:n < 10):aN n=[UInt8.ofNat (48+n)]:=by rw [aN];simp [h]
theorem iT{n:Nat}(h:¬ n < 10):aN n=aN (n / 10) ++ [UInt8.ofNat (48+n % 10)]:=by rw [aN];simp [h]
theorem oO{r:Nat}(h:r < 10):dig (UInt8.ofNat (48+r))=true/\(UInt8.ofNat (48+r)).toNat - 48=r:=by
 have:∀ r:Fin 10,dig (UInt8.ofNat (48+r.1))=true/\(UInt8.ofNat (48+r.1)).toNat - 48=r.1:=by decide
 exact this ⟨r,h⟩
theorem gC:∀ (k n:Nat),n<=k->∀ x∈aN n,dig x=true
 | k,n,hk,x,hx=>by
  by_cases h:n < 10
  ·rw [cT h] at hx;rw [List.mem_singleton.1 hx];exact(oO h).1
  ·rw [iT h] at hx
   rcases List.mem_append.1 hx with hx | hx
   ·cases k with
    | zero=>omega
    | succ k=>exact gC k (n / 10) (by omega) x hx
   ·rw [List.mem_singleton.1 hx];exact(oO (by omega)).1
theorem pX(n:Nat):0 < (aN n).length:=by
 by_cases h:n < 10
 ·rw [cT h];simp
 ·rw [iT h];simp
theorem pY:∀ (k n:Nat),n < 10 ^ k->1<=k->(aN n).length<=k
 | 0,n,h,h1=>by omega
 | k+1,n,h,_=>by
  by_cases h10:n < 10
  ·rw [cT h10];simp
  ·rw [iT h10,List.length_append,List.length_singleton]
   have h2:n / 10 < 10 ^ k:=by rw [Nat.pow_succ] at h;omega
   cases k with
   | zero=>simp at h2;omega
   | succ k=>have:=pY (k+1) (n / 10) h2 (by omega);omega
theorem gB:∀ (k n:Nat),n<=k->kK (aN n)=min n 256
 | k,n,hk=>by
  by_cases h:n < 10
  ·rw [cT h]
   have:=pV [] (UInt8.ofNat (48+n))
   rw [List.nil_append] at this
   rw [this,(oO h).2]
   simp [kK]
  ·rw [iT h,pV,(oO (by omega)).2]
   cases k with
   | zero=>omega
   | succ k=>rw [gB k (n / 10) (by omega)];omega
theorem eQ{p:UInt8->Bool}(x:UInt8)(hx:p x=false)(r:List UInt8):∀ l:List UInt8,(∀ y∈l,p y=true)->(l ++ x :: r).takeWhile p=l
 | [],_=>by simp [hx]
 | a :: l,h=>by
  rw [List.cons_append,List.takeWhile_cons,if_pos (h a (by simp)),eQ x hx r l fun y hy=>h y (by simp [hy])]
theorem aP{s:ByteArray}{A B:List UInt8}(h:s.data.toList=A ++ B)(t:List UInt8):aX s A.length t=t.isPrefixOf B:=by
 unfold aX Lib.hasPrefix
 rw [h,List.drop_left]
theorem oN{s:ByteArray}{A B:List UInt8}(h:s.data.toList=A ++ B):jD s A.length=B.takeWhile dig:=by
 unfold jD
 rw [h,List.drop_left]
end
section
open Go
def spE(x:Int):Bool:=x==93 || x==91 || x==45 || x==94
def bK(x:Int):List Int:=if spE x then [91,46,x,46,93] else [x]
def fY(r:Int × Int):List Int:=bK r.1 ++ (if r.1 < r.2 then 45 :: bK r.2 else [])
def cI:List (Int × Int)->List Int
 | []=>[]
 | r :: l=>fY r ++ cI l
def cG(c:Bool):List (Int × Int):=if c then [(0,55295),(57344,1114111)] else [(0,255)]
def spA(x:Int):Bool:=x==46 || x==91 || x==42 || x==94 || x==36 || x==92
def cF(x:Int):List Int:=if spA x then [92,x] else [x]
def cU(c:Bool)(L:List (Int × Int)):List Int:=
 if L=[] then [91,94] ++ cI (cG c) ++ [93]
 else if L=cG c then [46]
 else if L.length=1/\(L.headD (0,0)).1=(L.headD (0,0)).2 then cF (L.headD (0,0)).1
 else [91] ++ cI L ++ [93]
def jC(c:Bool)(x:Int):List UInt8:=if c then Lib.encodeRune x else [UInt8.ofNat x.toNat]
def aR(c:Bool)(l:List Int):List UInt8:=l.flatMap (jC c)
def bF(c:Bool)(L:List (Int × Int)):List UInt8:=aR c (cU c L)
theorem dO(c:Bool)(a b:List Int):aR c (a ++ b)=aR c a ++ aR c b:=by simp [aR]
theorem aO(c:Bool)(x:Int)(b:List Int):aR c (x :: b)=jC c x ++ aR c b:=by simp [aR]
theorem eH(c:Bool):aR c []=[]:=rfl
theorem bC{c:Bool}{x:Int}(h0:0<=x)(h1:x < 128):jC c x=[UInt8.ofNat x.toNat]:=by
 unfold jC
 split
 ·rw [Lib.encodeRune,Lib.encodeRuneZ_one h0 (by omega)];rfl
 ·rfl
theorem fU{x:Int}(h0:0<=x)(h1:x<=255):((UInt8.ofNat x.toNat).toNat:Int)=x:=by
 rw [UInt8.toNat_ofNat']
 omega
theorem jB{c:Bool}{x:Int}(h:aJ c x):∃ b t,jC c x=b :: t/\((x < 128/\(b.toNat:Int)=x/\t=[])\/(128<=x/\128<=b.toNat)):=by
 obtain⟨h0,h1,h2⟩:=h
 by_cases hx:x < 128
 ·exact⟨_,_,bC h0 hx,.inl ⟨hx,fU h0 (by omega),rfl⟩⟩
 ·unfold jC
  cases c with
  | false=>
   simp only [top,Bool.false_eq_true,if_false] at h1 ⊢
   exact⟨_,_,rfl,.inr ⟨by omega,by have:=fU h0 h1;omega⟩⟩
  | true=>
   simp only [top,if_true] at h1 ⊢
   have h3:=h2 rfl
   have key:∀ z:Int,128<=z->z<=255->128<=(z.toNat.toUInt8).toNat:=fun z q0 q1=>by
    have:(z.toNat.toUInt8).toNat=z.toNat % 256:=UInt8.toNat_ofNat'
    omega
   unfold Lib.encodeRune
   by_cases g1:x<=2047
   ·rw [Lib.encodeRuneZ_two (by omega) g1]
    exact⟨_,_,rfl,.inr ⟨by omega,key _ (by omega) (by omega)⟩⟩
   ·by_cases g2:x<=65535
    ·rw [Lib.encodeRuneZ_three (by omega)]
     exact⟨_,_,rfl,.inr ⟨by omega,key _ (by omega) (by omega)⟩⟩
    ·rw [Lib.encodeRuneZ_four (by omega) h1]
     exact⟨_,_,rfl,.inr ⟨by omega,key _ (by omega) (by omega)⟩⟩
theorem aA9(c:Bool)(x:Int):(jC c x).length<=4:=by
 unfold jC
 split
 ·have:=(Lib.runeCells_le x).2
  rwa [Lib.runeCells_length] at this
 ·simp
theorem xY(c:Bool)(l:List Int):(aR c l).length<=4 * l.length:=by
 induction l with
 | nil=>simp [aR]
 | cons x l ih=>rw [aO,List.length_append,List.length_cons];have:=aA9 c x;omega
theorem dA(k b:UInt8)(t:List UInt8):[k].isPrefixOf (b :: t)=(k==b):=by simp [List.isPrefixOf]
theorem gN(k j b c:UInt8)(t:List UInt8):[k,j].isPrefixOf (b :: c :: t)=(k==b && j==c):=by simp [List.isPrefixOf]
theorem fH{k b:UInt8}(j:List UInt8)(t:List UInt8)(h:b≠k):(k :: j).isPrefixOf (b :: t)=false:=by
 simp [List.isPrefixOf,Ne.symm h]
theorem sL{m:Md}{s:ByteArray}{A R:List UInt8}{x:Int}(h:s.data.toList=A ++ (jC m.c x ++ R))(hx:aJ m.c x):chr m s A.length=.ok (x,A.length+(jC m.c x).length):=by
 obtain⟨h0,h1,h2⟩:=hx
 have key:un m s A.length=(x,(jC m.c x).length):=by
  unfold un jC at *
  cases hc:m.c with
  | true=>
   rw [hc] at h h1 h2
   simp only [if_true,top] at h h1 ⊢
   have hs:sl s A.length (Lib.encodeRune x).length=Lib.encodeRune x:=by
    unfold sl
    rw [h];simp
   obtain⟨q1,q2,q3⟩:=sI ⟨h0,h1,h2 rfl⟩ hs
   rw [oQ q3,q1,q2]
  | false=>
   rw [hc] at h h1
   simp only [top,Bool.false_eq_true,if_false] at h h1 ⊢
   have:=(eJ (s:=s) (p:=A.length) (x:=UInt8.ofNat x.toNat)).1 (by rw [h];simp)
   rw [this.2,fU h0 h1];rfl
 unfold chr
 rw [key,if_neg (by simp only;omega)]
theorem lL{c:Bool}{x:Int}(h:aJ c x):∃ b t,aR c (bK x)=b :: t/\b≠93/\b≠45/\b≠94/\((b=91/\∃ t',t=46 :: t')\/(b≠91/\spE x=false)):=by
 unfold bK
 split
 ·rename_i hs
  refine⟨91,_,by rw [aO,bC (by decide) (by decide)];rfl,by decide,by decide,by decide,.inl ⟨rfl,?_⟩⟩
  exact⟨_,by rw [aO,bC (by decide) (by decide)];rfl⟩
 ·rename_i hs
  have hs':spE x=false:=by simpa using hs
  obtain⟨b,t,e,hb⟩:=jB h
  have hn:∀ k:UInt8,k.toNat < 128->(k.toNat:Int)≠x->b≠k:=fun k hk hx e2=>by
   subst e2
   rcases hb with⟨_,q,_⟩ | ⟨_,q⟩
   ·exact hx q
   ·omega
  simp only [spE,Bool.or_eq_false_iff,beq_eq_false_iff_ne] at hs'
  refine⟨b,t,by rw [aO,eH,List.append_nil];exact e,hn 93 (by decide) (fun q=>hs'.1.1.1 q.symm),hn 45 (by decide) (fun q=>hs'.1.2 q.symm),hn 94 (by decide) (fun q=>hs'.2 q.symm),.inr ⟨hn 91 (by decide) (fun q=>hs'.1.1.2 q.symm),?_⟩⟩
  simpa using hs
theorem mO{x:Int}(h:spE x=true):x=93\/x=91\/x=45\/x=94:=by
 simp only [spE,Bool.or_eq_true,beq_iff_eq] at h
 omega
theorem dX{s:ByteArray}{l:List UInt8}(h:s.data.toList=l):s.size=l.length:=by rw [<- aS,h]
theorem oM{m:Md}{s:ByteArray}{A R:List UInt8}{x:Int}(h:s.data.toList=A ++ (aR m.c (bK x) ++ R))(hx:aJ m.c x)(o:Nat):vD m s o A.length=.ok (x,A.length+(aR m.c (bK x)).length):=by
 obtain⟨b,t,e,-,-,-,hb⟩:=lL hx
 have hz:=dX h
 have hlt:A.length < s.size:=by rw [hz,e];simp
 unfold vD
 rw [if_neg (by omega)]
 rcases hb with⟨rfl,t',rfl⟩ | ⟨hb,hs⟩
 ·have hsp:spE x=true:=by
   cases hq:spE x with
   | true=>rfl
   | false=>
    exfalso
    unfold bK at e
    rw [hq] at e
    simp only [Bool.false_eq_true,if_false] at e
    rw [aO,eH,List.append_nil] at e
    obtain⟨b,t,e2,q⟩:=jB hx
    rw [e] at e2
    injection e2 with e3 e4
    subst e3
    rcases q with⟨_,q,_⟩ | ⟨_,q⟩
    ·rw [<- q] at hq;simp [spE] at hq
    ·revert q;decide
  have hxl:0<=x/\x < 128:=by have:=mO hsp;omega
  have e5:aR m.c (bK x)=[91,46,UInt8.ofNat x.toNat,46,93]:=by
   unfold bK
   rw [hsp,if_pos rfl]
   simp only [aO,eH]
   rw [bC (x:=91) (by decide) (by decide),bC (x:=46) (by decide) (by decide),bC (x:=93) (by decide) (by decide),bC hxl.1 hxl.2]
   rfl
  rw [e5] at h hz ⊢
  have hs2:aX s A.length [91,46]=true:=by rw [aP h];simp [List.isPrefixOf]
  rw [if_pos hs2]
  have hz2:s.size=A.length+5+R.length:=by rw [hz];simp;omega
  have w1:wit s o A.length 1=.ok (A.length+3):=by
   unfold wit
   have hb1:bt s (A.length+1)=46:=((eJ (x:=46)).1 (by rw [h];simp)).2
   rw [hb1,show A.length+2+min 1 (s.size - (A.length+2))=A.length+3 by omega]
   rw [aH2 (e:=A.length+3) (by simp) lz9 ?_ (fun j h1 h2=>by omega)]
   rw [eE]
   exact⟨by omega,((eJ (x:=46)).1 (by rw [h];simp)).2,((eJ (x:=93)).1 (by rw [h,show A.length+3+1=A.length+4 by omega];simp)).2⟩
  unfold xZ
  rw [w1]
  simp only
  have hex:s.extract (A.length+2) (A.length+3)=⟨#[UInt8.ofNat x.toNat]⟩:=by
   apply ByteArray.ext
   apply Array.ext'
   rw [ByteArray.data_extract,Array.toList_extract,List.extract_eq_take_drop,h,show A.length+3 - (A.length+2)=1 by omega]
   rw [List.drop_append,List.drop_of_length_le (by omega),show A.length+2 - A.length=2 by omega]
   simp
  have hu:un m (⟨#[UInt8.ofNat x.toNat]⟩:ByteArray) 0=(x,1):=by
   have hc:=sL (m:=m) (s:=⟨#[UInt8.ofNat x.toNat]⟩) (A:=[]) (R:=[]) (x:=x) (by rw [bC hxl.1 hxl.2];rfl) hx
   unfold chr at hc
   rw [List.length_nil,bC hxl.1 hxl.2] at hc
   split at hc
   ·cases hc
   ·injection hc with hc
    injection hc with h1 h2
    refine Prod.ext h1 ?_
    simp only [List.length_singleton] at h2
    omega
  rw [hex,hu,if_neg (by simp only;omega)]
  rfl
 ·have e5:aR m.c (bK x)=jC m.c x:=by
   unfold bK
   rw [hs]
   simp [aR]
  have hs2:aX s A.length [91,46]=false:=by rw [aP h,e];exact fH _ _ hb
  rw [hs2,e5]
  rw [e5] at h
  exact sL h hx
def fG(c:Bool)(r:Int × Int):List UInt8:=aR c (fY r)
def cV(c:Bool)(l:List (Int × Int)):List UInt8:=aR c (cI l)
theorem cD(c:Bool)(r:Int × Int)(l:List (Int × Int)):cV c (r :: l)=fG c r ++ cV c l:=by rw [cV,cI,dO];rfl
theorem pI{c:Bool}{r:Int × Int}(h:r.1 < r.2):fG c r=aR c (bK r.1) ++ 45 :: aR c (bK r.2):=by
 unfold fG fY
 rw [if_pos h,dO,aO,bC (x:=45) (by decide) (by decide)]
 rfl
theorem pJ{c:Bool}{r:Int × Int}(h:¬ r.1 < r.2):fG c r=aR c (bK r.1):=by
 unfold fG fY
 rw [if_neg h,List.append_nil]
def fD(c:Bool)(r:Int × Int):Prop:=aJ c r.1/\aJ c r.2/\r.1<=r.2
theorem eX{c:Bool}{r:Int × Int}(h:fD c r):∃ b t,fG c r=b :: t/\b≠93/\b≠45/\b≠94/\((b=91/\∃ t',t=46 :: t')\/b≠91):=by
 obtain⟨b,t,e,h1,h2,h3,h4⟩:=lL h.1
 have:∃ u,fG c r=aR c (bK r.1) ++ u:=by
  by_cases q:r.1 < r.2
  ·exact⟨_,pI q⟩
  ·exact⟨[],by rw [pJ q,List.append_nil]⟩
 obtain⟨u,hu⟩:=this
 rw [e] at hu
 refine⟨b,t ++ u,hu,h1,h2,h3,?_⟩
 rcases h4 with⟨q,t',rfl⟩ | ⟨q,-⟩
 ·exact .inl ⟨q,t' ++ u,rfl⟩
 ·exact .inr q
theorem aE9{m:Md}{s:ByteArray}{A R:List UInt8}{r:Int × Int}(h:s.data.toList=A ++ (fG m.c r ++ R))(hr:fD m.c r)(hR:∀ t,R≠45 :: t)(o:Nat):spn m s o A.length=.ok ([r],A.length+(fG m.c r).length):=by
 obtain⟨h1,h2,h3⟩:=hr
 unfold spn
 by_cases q:r.1 < r.2
 ·rw [pI q] at h ⊢
  have h':s.data.toList=A ++ (aR m.c (bK r.1) ++ (45 :: (aR m.c (bK r.2) ++ R))):=by rw [h];simp
  rw [oM h' h1 o]
  simp only
  obtain⟨b,t,e,n93,n45,n94,hb⟩:=lL h2
  have hq:s.data.toList=(A ++ aR m.c (bK r.1)) ++ (45 :: (aR m.c (bK r.2) ++ R)):=by rw [h];simp
  have hq1:s.data.toList=(A ++ aR m.c (bK r.1) ++ [45]) ++ (aR m.c (bK r.2) ++ R):=by rw [h];simp
  have l1:A.length+(aR m.c (bK r.1)).length=(A ++ aR m.c (bK r.1)).length:=by simp
  have l2:A.length+(aR m.c (bK r.1)).length+1=(A ++ aR m.c (bK r.1) ++ [45]).length:=by simp;omega
  rw [l2,oM hq1 h2 o]
  rw [l1]
  rw [aP hq,aP hq,aP hq1,aP hq1,e]
  have c1:([45,93]:List UInt8).isPrefixOf (45 :: (b :: t ++ R))=false:=by rw [List.cons_append,gN];simp [Ne.symm n93]
  have c2:([45]:List UInt8).isPrefixOf (45 :: (b :: t ++ R))=true:=by rw [dA];rfl
  have c3:∀ k:UInt8,k≠46->([91,k]:List UInt8).isPrefixOf (b :: t ++ R)=false:=fun k hk=>by
   rcases hb with⟨rfl,t',rfl⟩ | ⟨hb,-⟩
   ·rw [List.cons_append,List.cons_append,gN];simp [hk]
   ·rw [List.cons_append];exact fH _ _ hb
  rw [c1,c2,c3 58 (by decide),c3 61 (by decide)]
  simp only [Bool.not_true,Bool.or_self,Bool.false_eq_true,if_false]
  rw [if_neg (by omega)]
  simp only [List.length_append,List.length_cons,List.length_nil]
  refine congrArg Except.ok (Prod.ext rfl ?_)
  simp only
  omega
 ·rw [pJ q] at h ⊢
  rw [oM h h1 o]
  simp only
  have hq:s.data.toList=(A ++ aR m.c (bK r.1)) ++ R:=by rw [h];simp
  have l1:A.length+(aR m.c (bK r.1)).length=(A ++ aR m.c (bK r.1)).length:=by simp
  rw [l1,aP hq,aP hq]
  have c2:([45]:List UInt8).isPrefixOf R=false:=by
   match R,hR with
   | [],_=>rfl
   | b :: t,hR=>exact fH _ _ (fun e=>hR t (by rw [e]))
  rw [c2]
  simp only [Bool.not_false,Bool.or_true,if_true]
  have e:r=(r.1,r.1):=Prod.ext rfl (by simp only;omega)
  rw [<- e]
theorem wC{m:Md}{s:ByteArray}{A R:List UInt8}{r:Int × Int}(h:s.data.toList=A ++ (fG m.c r ++ R))(hr:fD m.c r)(hR:∀ t,R≠45 :: t)(o:Nat):sgl m s o A.length=.ok ([r],A.length+(fG m.c r).length):=by
 obtain⟨b,t,e,n93,n45,n94,hb⟩:=eX hr
 have c3:∀ k:UInt8,k≠46->aX s A.length [91,k]=false:=fun k hk=>by
  rw [aP h,e]
  rcases hb with⟨rfl,t',rfl⟩ | hb
  ·rw [List.cons_append,List.cons_append,gN];simp [hk]
  ·rw [List.cons_append];exact fH _ _ hb
 unfold sgl
 rw [c3 58 (by decide),c3 61 (by decide)]
 simp only [Bool.false_eq_true,if_false]
 exact aE9 h hr hR o
theorem xH{m:Md}{s:ByteArray}{R:List UInt8}(o:Nat):∀ (l:List (Int × Int)) (f:Nat) (A:List UInt8) (acc:List (Int × Int)),s.data.toList=A ++ (cV m.c l ++ 93 :: R)->(∀ r∈l,fD m.c r)->l.length < f->its m s o f A.length acc=.ok (acc ++ l,A.length+(cV m.c l).length+1)
 | l,0,A,acc,_,_,hf=>by omega
 | [],f+1,A,acc,h,hl,hf=>by
  have h':s.data.toList=A ++ (93 :: R):=by rw [h];rfl
  unfold its
  rw [aP h',dA]
  simp [cV,cI,aR]
 | r :: l,f+1,A,acc,h,hl,hf=>by
  have hr:=hl r (List.mem_cons_self ..)
  obtain⟨b,t,e,n93,n45,n94,hb⟩:=eX hr
  rw [cD] at h ⊢
  have h':s.data.toList=A ++ (fG m.c r ++ (cV m.c l ++ 93 :: R)):=by rw [h];simp
  have hR:∀ t,cV m.c l ++ 93 :: R≠45 :: t:=by
   intro t ht
   cases l with
   | nil=>rw [show cV m.c []=[] from rfl,List.nil_append] at ht;injection ht with h1 _;revert h1;decide
   | cons r2 l=>
    obtain⟨b2,t2,e2,_,n2,_,_⟩:=eX (hl r2 (by simp))
    rw [cD,e2] at ht
    injection ht with h1 _
    exact n2 h1
  have s93:aX s A.length [93]=false:=by rw [aP h',e];exact fH _ _ n93
  have s45:aX s A.length [45]=false:=by rw [aP h',e];exact fH _ _ n45
  unfold its
  rw [s93]
  simp only [Bool.false_eq_true,if_false]
  unfold itm
  rw [s45]
  simp only [Bool.not_false,Bool.true_or,if_true]
  rw [wC h' hr hR o]
  simp only
  have l1:A.length+(fG m.c r).length=(A ++ fG m.c r).length:=by simp
  rw [l1,xH (R:=R) o l f (A ++ fG m.c r) (acc ++ [r]) (by rw [h];simp) (fun x hx=>hl x (List.mem_cons_of_mem _ hx)) (by simp at hf;omega)]
  simp only [List.length_append,List.append_assoc,List.singleton_append]
  refine congrArg Except.ok (Prod.ext rfl ?_)
  simp only
  omega
theorem pH{c:Bool}:∀ (l:List (Int × Int)),(∀ r∈l,fD c r)->l.length<=(cV c l).length
 | [],_=>Nat.zero_le _
 | r :: l,h=>by
  obtain⟨b,t,e,-⟩:=eX (h r (List.mem_cons_self ..))
  have:=pH l (fun x hx=>h x (List.mem_cons_of_mem _ hx))
  rw [cD,e,List.length_append,List.length_cons,List.length_cons]
  omega
theorem yL{m:Md}{s:ByteArray}{A R:List UInt8}{l:List (Int × Int)}(v:Bool)(hne:l≠[])(h:s.data.toList=A ++ (91 :: ((if v then [94] else []) ++ (cV m.c l ++ 93 :: R))))(hl:∀ r∈l,fD m.c r) :
  brk m s A.length=.ok (kJ m l v,A.length+1+(if v then 1 else 0)+(cV m.c l).length+1):=by
 match l,hne with
 | r :: l,_=>
  have hr:=hl r (List.mem_cons_self ..)
  obtain⟨b,t,e,n93,n45,n94,hb⟩:=eX hr
  have hz:=dX h
  have h1:s.data.toList=(A ++ [91]) ++ ((if v then [94] else []) ++ (cV m.c (r :: l) ++ 93 :: R)):=by rw [h];simp
  have sv:aX s (A.length+1) [94]=v:=by
   have l1:A.length+1=(A ++ [91]).length:=by simp
   rw [l1,aP h1]
   cases v with
   | true=>simp
   | false=>rw [cD,e];exact fH _ _ n94
  have h2:s.data.toList=(A ++ [91] ++ (if v then [94] else [])) ++ (fG m.c r ++ (cV m.c l ++ 93 :: R)):=by rw [h,cD];simp
  have l2:(if v then A.length+2 else A.length+1)=(A ++ [91] ++ (if v then [94] else [])).length:=by cases v <;> simp
  have hR:∀ t,cV m.c l ++ 93 :: R≠45 :: t:=by
   intro t ht
   cases l with
   | nil=>rw [show cV m.c []=[] from rfl,List.nil_append] at ht;injection ht with h1 _;revert h1;decide
   | cons r2 l=>
    obtain⟨b2,t2,e2,_,n2,_,_⟩:=eX (hl r2 (by simp))
    rw [cD,e2] at ht
    injection ht with h1 _
    exact n2 h1
  unfold brk
  rw [sv,l2,wC h2 hr hR]
  simp only
  have l3:(A ++ [91] ++ (if v then [94] else [])).length+(fG m.c r).length=(A ++ [91] ++ (if v then [94] else []) ++ fG m.c r).length:=by simp only [List.length_append]
  have hll:=pH l (fun x hx=>hl x (List.mem_cons_of_mem _ hx))
  rw [l3,xH (R:=R) A.length l (s.size+1) (A ++ [91] ++ (if v then [94] else []) ++ fG m.c r) [r] (by rw [h2];simp) (fun x hx=>hl x (List.mem_cons_of_mem _ hx)) (by
   rw [hz,cD];simp only [List.length_append,List.length_cons];omega)]
  simp only [List.singleton_append]
  refine congrArg Except.ok (Prod.ext rfl ?_)
  rw [cD]
  simp only [List.length_append,List.length_cons,List.length_nil]
  cases v <;> simp <;> omega
theorem jZ(c:Bool):∀ r∈cG c,fD c r:=by
 intro r hr
 unfold fD aJ
 cases c with
 | true=>
  simp only [cG,if_true,List.mem_cons,List.not_mem_nil,or_false,top] at hr ⊢
  rcases hr with rfl | rfl <;> simp
 | false=>
  simp only [cG,Bool.false_eq_true,if_false,List.mem_cons,List.not_mem_nil,or_false,top] at hr ⊢
  subst hr;simp
theorem sT(c:Bool)(x:Int):In (cG c) x ↔ aJ c x:=by
 unfold aJ cG top
 cases c with
 | true=>simp only [if_true,bA,dG,or_false,true_imp_iff];omega
 | false=>simp only [Bool.false_eq_true,if_false,bA,dG,or_false,false_imp_iff,and_true]
theorem kA(c:Bool):IsC (cG c) (aJ c):=by
 refine⟨?_,?_,sT c⟩
 ·cases c with
  | true=>exact⟨fun r hr=>(jZ true r hr).2.2,by simp [cG]⟩
  | false=>exact⟨fun r hr=>(jZ false r hr).2.2,by simp [cG]⟩
 ·intro r hr
  have:=jZ c r hr
  unfold fD aJ top at this
  cases c <;> simp only [if_true,Bool.false_eq_true,if_false] at this <;> omega
theorem eD{c f:Bool}{L:List (Int × Int)}(h:gY c f L):∀ r∈L,fD c r:=by
 intro r hr
 have hs:=h.1.cls.some r hr
 exact⟨((h.1.mem r.1).1 ⟨r,hr,Int.le_refl _,hs⟩).2,((h.1.mem r.2).1 ⟨r,hr,hs,Int.le_refl _⟩).2,hs⟩
theorem pE{c f:Bool}{L:List (Int × Int)}(h:gY c f L){x:Int}(hx:In L x):aJ c x:=((h.1.mem x).1 hx).2
theorem tD{m:Md}{L:List (Int × Int)}(h:gY m.c m.f L)(x:Int):nW m L false x ↔ In L x:=by
 unfold nW
 simp only [Bool.false_eq_true,if_false]
 have key:(if m.f=true then tT (In L) x else In L x) ↔ In L x:=by
  cases hf:m.f with
  | false=>simp
  | true=>simp only [if_true];exact(h.2 hf x).symm
 rw [key]
 exact⟨fun q=>q.2,fun q=>⟨pE h q,q⟩⟩
theorem gL{m:Md}{s:ByteArray}{p last:Nat}{b:UInt8}(hp:p < s.size)(hb:bt s p=b.toNat)(n1:b≠92)(n2:b≠42)(n3:b≠94)(n4:b≠36):tok m s p last=if b=46 then .ok (kJ m [] true,p+1) else if b=91 then brk m s p else (match chr m s p with
  | .error e=>.error e
  | .ok (c,q)=>.ok (kJ m [(c,c)] false,q)):=by
 have hs:∀ k:UInt8,aX s p [k]=decide (b=k):=fun k=>by
  rw [Bool.eq_iff_iff,fW,decide_eq_true_eq,hb]
  exact⟨fun q=>UInt8.toNat_inj.1 q.2,fun q=>⟨hp,by rw [q]⟩⟩
 unfold tok
 rw [hs,hs,hs,hs,hs,hs,decide_eq_false n1,decide_eq_false n2,decide_eq_false n3,decide_eq_false n4]
 simp only [Bool.false_and,Bool.false_eq_true,if_false,decide_eq_true_eq]
 rfl
theorem aH4(m:Md)(s:ByteArray)(p last:Nat)(h1:¬ p+1=s.size)(hx:bt s (p+1)=46\/bt s (p+1)=91\/bt s (p+1)=93\/bt s (p+1)=42\/bt s (p+1)=94\/bt s (p+1)=36\/bt s (p+1)=92\/bt s (p+1)=47):esc m s p last=.ok (kJ m [((bt s (p+1):Int),(bt s (p+1):Int))] false,p+2):=by
 unfold esc
 rw [if_neg h1,if_neg (by omega),if_neg (by omega),if_neg (by omega),if_neg (by omega),if_neg (by omega),if_pos hx]
theorem kL{m:Md}{s:ByteArray}{A R:List UInt8}{L:List (Int × Int)}(hL:gY m.c m.f L)(h:s.data.toList=A ++ (bF m.c L ++ R))(last:Nat) :
  ∃ t,tok m s A.length last=.ok (t,A.length+(bF m.c L).length)/\t.kind=1/\rsQ t.q=L:=by
 have fin:∀ M v,(∀ x,nW m M v x ↔ In L x)->∃ t,(.ok (kJ m M v,A.length+(bF m.c L).length):Rs (Tk × Nat))=.ok (t,A.length+(bF m.c L).length)/\t.kind=1/\rsQ t.q=L:=fun M v q=>
  ⟨_,rfl,rfl,aF3 (hL.1.to fun x=>⟨fun k=>(q x).2 k.1,fun k=>⟨(q x).1 k,pE hL ((q x).1 k)⟩⟩)⟩
 have e91:∀ l,aR m.c ([91] ++ l ++ [93])=91 :: (aR m.c l ++ [93]):=fun l=>by
  rw [dO,dO,aO,eH,aO,eH,bC (x:=91) (by decide) (by decide),bC (x:=93) (by decide) (by decide)]
  rfl
 have hb0:∀ b t,bF m.c L=b :: t->A.length < s.size/\bt s A.length=b.toNat:=fun b t e=>eJ.1 (by rw [h,e];simp)
 by_cases c1:L=[]
 ·subst c1
  have e:bF m.c []=91 :: ([94] ++ (cV m.c (cG m.c) ++ [93])):=by
   unfold bF cU
   rw [if_pos rfl,show ([91,94] ++ cI (cG m.c) ++ [93]:List Int)=[91] ++ (94 :: cI (cG m.c)) ++ [93] from rfl,e91,aO,bC (x:=94) (by decide) (by decide)]
   rfl
  obtain⟨q1,q2⟩:=hb0 _ _ e
  rw [gL q1 q2 (by decide) (by decide) (by decide) (by decide),if_neg (by decide),if_pos rfl]
  rw [yL true (l:=cG m.c) (R:=R) (by cases m.c <;> simp [cG]) (by rw [h,e];simp) (jZ m.c)]
  have el:A.length+1+(if true=true then 1 else 0)+(cV m.c (cG m.c)).length+1=A.length+(bF m.c []).length:=by rw [e];simp;omega
  rw [el]
  refine fin _ _ fun x=>?_
  unfold nW
  simp only [if_true]
  refine⟨fun q=>?_,fun q=>absurd q (dG _)⟩
  exfalso
  refine q.2 ?_
  have:=(sT m.c x).2 q.1
  cases m.f with
  | false=>simpa using this
  | true=>simp only [if_true];exact .inl this
 by_cases c2:L=cG m.c
 ·have e:bF m.c L=[46]:=by
   unfold bF cU
   rw [if_neg c1,if_pos c2,aO,eH,bC (x:=46) (by decide) (by decide)]
   rfl
  obtain⟨q1,q2⟩:=hb0 _ _ e
  rw [gL q1 q2 (by decide) (by decide) (by decide) (by decide),if_pos rfl]
  have el:A.length+1=A.length+(bF m.c L).length:=by rw [e];simp
  rw [el]
  refine fin _ _ fun x=>?_
  rw [c2,sT]
  unfold nW
  simp only [if_true]
  refine⟨fun q=>q.1,fun q=>⟨q,?_⟩⟩
  cases m.f with
  | false=>simpa using dG x
  | true=>simp only [if_true,tT];simp [dG]
 by_cases c3:L.length=1/\(L.headD (0,0)).1=(L.headD (0,0)).2
 ·obtain⟨r,rfl⟩:∃ r,L=[r]:=by
   match L,c3.1 with
   | [r],_=>exact⟨r,rfl⟩
  have c4:r.1=r.2:=c3.2
  have hr:=eD hL r (by simp)
  obtain⟨x,rfl⟩:∃ x,r=(x,x):=⟨r.1,Prod.ext rfl c4.symm⟩
  have e:bF m.c [(x,x)]=aR m.c (cF x):=by
   unfold bF cU
   rw [if_neg c1,if_neg c2,if_pos c3]
   rfl
  have hq:∀ y,nW m [(x,x)] false y ↔ In [(x,x)] y:=tD hL
  cases hsp:spA x with
  | true=>
   have hx:x=46\/x=91\/x=42\/x=94\/x=36\/x=92:=by simp only [spA,Bool.or_eq_true,beq_iff_eq] at hsp;omega
   have e2:bF m.c [(x,x)]=[92,UInt8.ofNat x.toNat]:=by
    rw [e,cF,hsp,if_pos rfl,aO,aO,eH,bC (x:=92) (by decide) (by decide),bC (x:=x) (by omega) (by omega)]
    rfl
   have h':s.data.toList=A ++ (92 :: UInt8.ofNat x.toNat :: R):=by rw [h,e2];rfl
   obtain⟨q1,q2⟩:=eJ.1 (show s.data.toList[A.length]?=some 92 by rw [h'];simp)
   obtain⟨q3,q4⟩:=eJ.1 (show s.data.toList[A.length+1]?=some (UInt8.ofNat x.toNat) by rw [h'];simp)
   have q5:(bt s (A.length+1):Int)=x:=by rw [q4];exact fU (by omega) (by omega)
   have ht:tok m s A.length last=esc m s A.length last:=by
    unfold tok
    rw [if_pos (fW.2 ⟨q1,q2⟩)]
   rw [ht,aH4 m s A.length last (by omega) (by omega),q5]
   have el:A.length+2=A.length+(bF m.c [(x,x)]).length:=by rw [e2];rfl
   rw [el]
   exact fin _ _ hq
  | false=>
   have e2:bF m.c [(x,x)]=jC m.c x:=by
    rw [e,cF,hsp]
    simp [aR]
   obtain⟨b,t,e3,hb⟩:=jB hr.1
   have hn:∀ k:UInt8,k.toNat < 128->(k.toNat:Int)≠x->b≠k:=fun k hk hx e2=>by
    subst e2
    rcases hb with⟨_,q,_⟩ | ⟨_,q⟩
    ·exact hx q
    ·omega
   simp only [spA,Bool.or_eq_false_iff,beq_eq_false_iff_ne] at hsp
   obtain⟨⟨⟨⟨⟨k1,k2⟩,k3⟩,k4⟩,k5⟩,k6⟩:=hsp
   obtain⟨q1,q2⟩:=hb0 b t (by rw [e2,e3])
   rw [gL q1 q2 (hn 92 (by decide) (fun q=>k6 q.symm)) (hn 42 (by decide) (fun q=>k3 q.symm)) (hn 94 (by decide) (fun q=>k4 q.symm)) (hn 36 (by decide) (fun q=>k5 q.symm)),if_neg (hn 46 (by decide) (fun q=>k1 q.symm)),if_neg (hn 91 (by decide) (fun q=>k2 q.symm))]
   rw [sL (R:=R) (by rw [h,e2]) hr.1]
   simp only
   rw [<- e2]
   exact fin _ _ hq
 ·have e:bF m.c L=91 :: ((if false=true then [94] else []) ++ (cV m.c L ++ [93])):=by
   unfold bF cU
   rw [if_neg c1,if_neg c2,if_neg c3,e91]
   rfl
  obtain⟨q1,q2⟩:=hb0 _ _ e
  rw [gL q1 q2 (by decide) (by decide) (by decide) (by decide),if_neg (by decide),if_pos rfl]
  rw [yL false (l:=L) (R:=R) c1 (by rw [h,e];simp) (eD hL)]
  have el:A.length+1+(if false=true then 1 else 0)+(cV m.c L).length+1=A.length+(bF m.c L).length:=by rw [e];simp;omega
  rw [el]
  exact fin _ _ (tD hL)
theorem aB7{m:Md}{L:List (Int × Int)}(hL:gY m.c m.f L):0 < (bF m.c L).length:=by
 obtain⟨t,h,-⟩:=kL (s:=⟨(bF m.c L).toArray⟩) (A:=[]) (R:=[]) hL (by simp) 0
 rcases Nat.eq_zero_or_pos (bF m.c L).length with z | z
 ·exfalso
  have hz:(⟨(bF m.c L).toArray⟩:ByteArray).size=0:=by rw [<- aS];simpa using z
  have e:bF m.c L=[]:=List.eq_nil_of_length_eq_zero z
  revert e
  unfold bF cU
  repeat' split
  ·rw [dO,dO,aO,bC (x:=91) (by decide) (by decide)];simp
  ·rw [aO,bC (x:=46) (by decide) (by decide)];simp
  ·rename_i h1 h2 h3
   unfold cF
   split
   ·rw [aO,bC (x:=92) (by decide) (by decide)];simp
   ·match L,h3.1 with
    | [r],_=>
     obtain⟨b,t,e,-⟩:=jB (eD hL r (by simp)).1
     rw [aO]
     simp [e]
  ·rw [dO,dO,aO,bC (x:=91) (by decide) (by decide)];simp
 ·exact z
end
theorem mP:(Tryz.prog.info? 21).map (fun i=>(i.zero,i.size,i.bytes))=some (some (.int .i32 0),1,4):=by kernel_rfl
theorem dV:Tryz.prog.underlying 87=some (.slice 21):=by kernel_rfl
def rns(l:List Int):List Value:=l.map (Value.int .i32)
theorem nX(l:List Int):(rns l).length=l.length:=by simp [rns]
theorem zE(a b:List Int):rns (a ++ b)=rns a ++ rns b:=by simp [rns]
abbrev RO(base:Nat)(w:World)(v:Value)(l:List Int):Prop:=w.ownsRow base 21 1 v l.length (rns l)
theorem RO.of{base n:Nat}{w:World}{v:Value}{a b:List Int}(h:w.ownsRow base 21 1 v n (rns a ++ rns b)):RO base w v (a ++ b):=by
 have e:n=(a ++ b).length:=by have:=h.1;simp [nX] at this;simp;omega
 rw [e] at h
 unfold RO
 rw [zE]
 exact h
theorem gS{base n size:Nat}{w w6:World}{v:Value}{xs:List Value}{t:TypeId}(ho:w.ownsRow base t size v n xs)(hg:w.grownBy w6 v.ownBlock)(hb:base<=w.heap.size):Below base w w6:=
 ((Fr.refl (blk v) w).grown hg fun _ hk=>hk).below hb (fun _ hk=>(aH ho hk).1)
abbrev Kr(w w':World):Prop:=Lib.OthersKept 21 none w w'
theorem xE{base n:Nat}{w w6:World}{v:Value}{xs:List Value}{o:Obj}(ho:w.ownsRow base 21 1 v n xs)(hg:(w.alloc o).grownBy w6 v.ownBlock):Kr w w6:=
 ((Lib.OthersKept.refl _ _ w).alloc o).grown hg (Lib.ownsRowF_kind (World.ownsRowF_of (World.ownsRow.alloc ho o)))
theorem lM(x:Int):(bK x).length<=5:=by unfold bK;split <;> simp
theorem lW{base:Nat}{w:World}{v:Value}{l:List Int}(x:Int)(h:RO base w v l)(hl:l.length<=1000000000000)(hb:base<=w.heap.size) :
  Calls Tryz.prog 132 #[v,.int .i32 x] w fun e w'=>∃ v',e=.returned v'/\RO base w' v' (l ++ bK x)/\Below base w w'/\Kr w w':=by
 obtain⟨t0,hi,hz0,hz1,hz2⟩:=aV mP
 obtain⟨q,c,rfl⟩:=aI h
 have H:Hid (RO base w (.slice q l.length c) l):=h
 have HB:Hid (base<=w.heap.size):=hb
 clear h
 cases hs:spE x with
 | true=>
  have E:Hid (bK x=[91,46,x,46,93]):=by show bK x=_;unfold bK;rw [hs];rfl
  rcases mO hs with rfl | rfl | rfl | rfl
  all_goals
   clear hs
   go_enter Tryz.func132,Tryz.ntmps132
   go_wp2_with (at_builtin;refine wpList_append_own_at _ rfl _ _ 87 rfl base 21 t0 (.int .i32 0) 1 4 dV hi hz0 hz1 hz2 rfl (by decide) (.slice q l.length c) l.length (rns l) rfl (World.ownsRow.alloc H.out _) ⟨w.heap.size,0,none⟩ 5 5 (rns [91,46,_,46,93]) rfl rfl (lF _ #[.int .i32 91,.int .i32 46,.int .i32 _,.int .i32 46,.int .i32 93] _) (by simp [rns,Value.oneCell']) (by unfold maxLen;omega) (by omega) (by simp;omega) ?_;intro v' w6 hown' hgrow _ hblk;have A6:Hid (RO base w6 v' (l ++ [91,46,_,46,93])):=RO.of hown';have B6:Hid (Below base w w6):=((Below.refl base w).alloc HB.out _).trans (gS (World.ownsRow.alloc H.out _) hgrow (by simp;omega));have K6:Hid (Kr w w6):=xE H.out hgrow;obtain⟨q6,c6,rfl⟩:=aI hown';clear hown' hgrow hblk)
   go_ret
   exact⟨_,rfl,by rw [E.out];exact A6.out,B6.out,K6.out⟩
 | false=>
  have E:Hid (bK x=[x]):=by show bK x=_;unfold bK;rw [hs];rfl
  simp only [spE,Bool.or_eq_false_iff] at hs
  obtain⟨⟨⟨h1,h2⟩,h3⟩,h4⟩:=hs
  go_enter Tryz.func132,Tryz.ntmps132
  go_wp2_with (at_builtin;refine wpList_append_own_at _ rfl _ _ 87 rfl base 21 t0 (.int .i32 0) 1 4 dV hi hz0 hz1 hz2 rfl (by decide) (.slice q l.length c) l.length (rns l) rfl (World.ownsRow.alloc H.out _) ⟨w.heap.size,0,none⟩ 1 1 (rns [x]) rfl rfl (lF _ #[.int .i32 x] _) (by simp [rns,Value.oneCell']) (by unfold maxLen;omega) (by omega) (by simp;omega) ?_;intro v' w6 hown' hgrow _ hblk;have A6:Hid (RO base w6 v' (l ++ [x])):=RO.of hown';have B6:Hid (Below base w w6):=((Below.refl base w).alloc HB.out _).trans (gS (World.ownsRow.alloc H.out _) hgrow (by simp;omega));have K6:Hid (Kr w w6):=xE H.out hgrow;obtain⟨q6,c6,rfl⟩:=aI hown';clear hown' hgrow hblk)
  go_ret
  exact⟨_,rfl,by rw [E.out];exact A6.out,B6.out,K6.out⟩
theorem uJ(l:List (Int × Int))(r:Int × Int):cI (l ++ [r])=cI l ++ fY r:=by
 induction l with
 | nil=>simp [cI]
 | cons x l ih=>rw [List.cons_append,cI,cI,ih,List.append_assoc]
theorem wG(r:Int × Int):(fY r).length<=11:=by
 unfold fY
 have:=lM r.1
 have:=lM r.2
 split <;> simp <;> omega
theorem kY(l:List (Int × Int)):(cI l).length<=11 * l.length:=by
 induction l with
 | nil=>simp [cI]
 | cons x l ih=>rw [cI,List.length_append,List.length_cons];have:=wG x;omega
theorem rD{x:Int}(h0:0<=x)(h1:x<=1114111):IntKind.wrap .i32 x=x:=by rw [IntKind.wrap_i32];omega
theorem wV(W:World)(a:Value)(t:TypeId):∀ (j:Nat) (u:Value),[a][j]?=some u->(W.alloc (.cells #[a] t)).cell? ((⟨W.heap.size,0,none⟩:Addr).add j)=some u:=lF W #[a] t
theorem fN{W0 w:World}{v vL:Value}{a:List Int}{L:List (Int × Int)}(hA:ArgR W0 vL L)(hb:Below W0.heap.size W0 w)(h:RO W0.heap.size w v a)(hl:L.length<=600000)(ha:a.length<=10)(hF:∀ r∈L,0<=r.1/\r.1<=1114111/\0<=r.2/\r.2<=1114111) :
  Calls Tryz.prog 89 #[v,vL] w fun e w'=>∃ v',e=.returned v'/\RO W0.heap.size w' v' (a ++ cI L ++ [93])/\Below W0.heap.size W0 w':=by
 obtain⟨t0,hi,hz0,hz1,hz2⟩:=aV mP
 obtain⟨q,cap,rfl,hlen,-,hcells⟩:=hA.slice
 have HC:Hid (∀ (i:Nat) (r:Int × Int),L[i]?=some r->∃ g off,q=some ⟨g,off,none⟩/\g < W0.heap.size/\W0.cell? ⟨g,off+2 * i,none⟩=some (.int .i64 r.1)/\W0.cell? ⟨g,off+2 * i+1,none⟩=some (.int .i64 r.2)):=hcells
 have HF:Hid (∀ r∈L,0<=r.1/\r.1<=1114111/\0<=r.2/\r.2<=1114111):=hF
 have H0:Hid (RO W0.heap.size w v a/\Below W0.heap.size W0 w):=⟨h,hb⟩
 obtain⟨q0,c0,rfl⟩:=aI h
 unfold maxLen at hlen
 clear hA hcells hF h hb
 go_enter Tryz.func89,Tryz.ntmps89
 go_wp2
 go_loopw [0,9] (fun t i wr=>∃ k:Nat,k<=L.length/\i=.int .i64 (k:Int)/\RO W0.heap.size wr t (a ++ cI (L.take k))/\Below W0.heap.size W0 wr) (fun _ i _=>L.length - (intOf i).toNat)
 case atStart=>exact⟨0,Nat.zero_le _,rfl,by simpa [cI] using H0.out.1,H0.out.2⟩
 case round=>
  obtain⟨k,hk,rfl,hO,hB⟩:=hrel
  obtain⟨qr,cr,rfl⟩:=aI hO
  have O:Hid _:=hO
  have B:Hid _:=hB
  have hsz:=hB.size
  obtain⟨N,hN⟩:∃ N,(a ++ cI (L.take k)).length=N:=⟨_,rfl⟩
  have hNl:N<=6600010:=by
   rw [<- hN,List.length_append]
   have:=kY (L.take k)
   have:(L.take k).length<=L.length:=by simp;omega
   omega
  obtain⟨M,hM⟩:∃ M,a ++ cI (L.take k)=M:=⟨_,rfl⟩
  have HM:Hid (a ++ cI (L.take k)=M):=hM
  rw [hM] at O hN ⊢
  subst hN
  clear hO hB hM
  by_cases hlt:k < L.length
  ·obtain⟨r,hr⟩:∃ r,L[k]?=some r:=⟨_,List.getElem?_eq_getElem hlt⟩
   obtain⟨g,off,rfl,hg,x1,x2⟩:=HC.out k r hr
   have d1:=(B.out.cell (p:=⟨g,off+2 * k,none⟩) hg).trans x1
   have d2:=(B.out.cell (p:=⟨g,off+2 * k+1,none⟩) hg).trans x2
   rw [Nat.mul_comm] at d1 d2
   have hgr:g < wr.heap.size:=Nat.lt_of_lt_of_le hg hsz
   have NX:Hid (a ++ cI (L.take (k+1))=M ++ fY r):=by
    show a ++ cI (L.take (k+1))=M ++ fY r
    obtain⟨hk',rfl⟩:=List.getElem?_eq_some_iff.1 hr
    rw [bY L k hk',uJ,<- List.append_assoc,HM.out]
   obtain⟨f0,f1,f2,f3⟩:=HF.out r (List.mem_of_getElem? hr)
   have i0:(0:Int)<=(k:Int):=by omega
   have i1:(k:Int) < (L.length:Int):=by omega
   have hwr:IntKind.wrap .i64 ((k:Int)+1)=(k:Int)+1:=wrap_small _ (by omega) (by omega)
   clear x1 x2 hr
   obtain⟨lo,hi'⟩:=r
   dsimp only at d1 d2 f0 f1 f2 f3
   have w1:=rD f0 f1
   have w2:=rD f2 f3
   have OA:Hid (RO W0.heap.size (wr.alloc (.cells #[.int .i64 lo,.int .i64 hi'] 48)) (.slice qr M.length cr) M):=World.ownsRow.alloc O.out _
   have BA:Hid (Below W0.heap.size W0 (wr.alloc (.cells #[.int .i64 lo,.int .i64 hi'] 48))):=B.out.alloc hsz _
   have XA:Hid ((wr.alloc (.cells #[.int .i64 lo,.int .i64 hi'] 48)).heap[wr.heap.size]?=some (.cells #[.int .i64 lo,.int .i64 hi'] 48 (0,0))):=aE wr _
   obtain⟨M5,hM5⟩:∃ M5,M ++ bK lo=M5:=⟨_,rfl⟩
   have HM5:Hid (M ++ bK lo=M5):=hM5
   have hl5:M5.length<=6600015:=by rw [<- hM5,List.length_append];have:=lM lo;omega
   clear hM5
   by_cases hgt:lo < hi'
   ·have E:Hid (fY (lo,hi')=bK lo ++ 45 :: bK hi'):=by show fY (lo,hi')=_;unfold fY;rw [if_pos hgt]
    go_upto_region 6 with (go_at_call 132;refine(lW lo OA.out (by omega) (by simp;omega)).mono ?_;rintro e w5 ⟨v5,rfl,h51,h52,h53⟩;rw [HM5.out] at h51;have O5:Hid (RO W0.heap.size w5 v5 M5):=h51;have B5:Hid (Below W0.heap.size W0 w5):=BA.out.trans h52;have X5:Hid (w5.heap[wr.heap.size]?=some (.cells #[.int .i64 lo,.int .i64 hi'] 48 (0,0))):=h53 _ _ XA.out (by simp) (fun c fz e=>by cases e);have c50:=aC X5.out (i:=0) rfl;have c51:=aC X5.out (i:=1) rfl;have l5:=aA X5.out;obtain⟨q5,k5,rfl⟩:=aI h51;clear h51 h52 h53)
    have hs5:W0.heap.size<=w5.heap.size:=B5.out.size
    go_region_law first
     |(refine fV rfl _ _ 87 rfl W0.heap.size 21 t0 (.int .i32 0) 1 4 dV hi hz0 hz1 hz2 rfl (by decide) (.slice q5 M5.length k5) M5.length _ (by first | rfl | simp [Act.eval,Act.put]) (World.ownsRow.drew (World.ownsRow.alloc O5.out _)) ⟨w5.heap.size,0,none⟩ 1 1 (rns [45]) (by first | rfl | simp [Act.eval,Act.put]) rfl (wV _ _ _) (by simp [rns,Value.oneCell']) (by unfold maxLen;omega) (by omega) (by simp;omega) ?_;intro v' w6 hown' hgrow hblk;have O6:Hid (RO W0.heap.size w6 v' (M5 ++ [45])):=RO.of hown';have B6:Hid (Below W0.heap.size W0 w6):=((B5.out.alloc hs5 _).drew).trans (gS (World.ownsRow.drew (World.ownsRow.alloc O5.out _)) hgrow (by simp;omega));have K6:Hid (Kr w5 w6):=(((Lib.OthersKept.refl _ _ w5).alloc _).drew).grown hgrow (Lib.ownsRowF_kind (World.ownsRowF_of (World.ownsRow.drew (World.ownsRow.alloc O5.out _))));have X6:Hid (w6.heap[wr.heap.size]?=some (.cells #[.int .i64 lo,.int .i64 hi'] 48 (0,0))):=K6.out _ _ X5.out (by simp) (fun c fz e=>by cases e);have c60:=aC X6.out (i:=0) rfl;have c61:=aC X6.out (i:=1) rfl;obtain⟨q6,k6,rfl⟩:=aI hown';clear hown' hgrow hblk)
     |(go_simp;go_at_call 132;refine(lW hi' O6.out (by simp;omega) B6.out.size).mono ?_;rintro e w7 ⟨v7,rfl,h71,h72,h73⟩;have O7:Hid (RO W0.heap.size w7 v7 (M5 ++ [45] ++ bK hi')):=h71;have B7:Hid (Below W0.heap.size W0 w7):=B6.out.trans h72;clear h71 h72 h73)
    all_goals go_wp2
    all_goals
     refine⟨⟨k+1,by omega,by go_num,?_,B7.out⟩,by simp [intOf];omega⟩
     rw [NX.out,E.out]
     have:=O7.out
     rw [<- HM5.out] at this
     simpa using this
   ·have E:Hid (fY (lo,hi')=bK lo):=by show fY (lo,hi')=_;unfold fY;rw [if_neg hgt,List.append_nil]
    go_wp2_with (go_at_call 132;refine(lW lo OA.out (by omega) (by simp;omega)).mono ?_;rintro e w5 ⟨v5,rfl,h51,h52,h53⟩;rw [HM5.out] at h51;have O5:Hid (RO W0.heap.size w5 v5 M5):=h51;have B5:Hid (Below W0.heap.size W0 w5):=BA.out.trans h52;have X5:Hid (w5.heap[wr.heap.size]?=some (.cells #[.int .i64 lo,.int .i64 hi'] 48 (0,0))):=h53 _ _ XA.out (by simp) (fun c fz e=>by cases e);have c50:=aC X5.out (i:=0) rfl;have c51:=aC X5.out (i:=1) rfl;obtain⟨q5,k5,rfl⟩:=aI h51;clear h51 h52 h53)
    go_roundw
    case rel=>exact⟨k+1,by omega,by go_num,by rw [NX.out,E.out,HM5.out];exact O5.out,B5.out⟩
    case measure=>simp [intOf];omega
  ·obtain rfl:k=L.length:=by omega
   have i1:¬ (L.length:Int) < (L.length:Int):=by omega
   have NX:Hid (a ++ cI L=M):=by show a ++ cI L=M;rw [<- HM.out,List.take_length]
   go_wp2_with (at_builtin;refine wpList_append_own_at _ rfl _ _ 87 rfl W0.heap.size 21 t0 (.int .i32 0) 1 4 dV hi hz0 hz1 hz2 rfl (by decide) (.slice qr M.length cr) M.length (rns M) rfl (World.ownsRow.alloc O.out _) ⟨wr.heap.size,0,none⟩ 1 1 (rns [93]) rfl rfl (wV _ _ _) (by simp [rns,Value.oneCell']) (by unfold maxLen;omega) (by omega) (by simp;omega) ?_;intro v' w6 hown' hgrow _ hblk;have A6:Hid (RO W0.heap.size w6 v' (M ++ [93])):=RO.of hown';have B6:Hid (Below W0.heap.size W0 w6):=(B.out.alloc hsz _).trans (gS (World.ownsRow.alloc O.out _) hgrow (by simp;omega));obtain⟨q6,c6,rfl⟩:=aI hown';clear hown' hgrow hblk)
   go_ret
   exact⟨_,rfl,by first |(rw [NX.out];exact A6.out) |(rw [<- List.append_assoc,NX.out];exact A6.out),B6.out⟩
theorem iN:(Tryz.prog.info? 5).map (fun i=>(i.zero,i.size,i.bytes))=some (some (.int .u8 0),1,1):=by kernel_rfl
theorem gK:Tryz.prog.underlying 52=some (.slice 5):=by kernel_rfl
theorem nP:Tryz.prog.underlying 9=some .string:=by kernel_rfl
theorem rF:Tryz.prog.underlying 51=some (.pointer 54):=by kernel_rfl
theorem vR:Tryz.prog.underlying 172=some .unsafePointer:=by kernel_rfl
theorem wA:(Tryz.prog.info? 54).map (·.size)=some 2:=by kernel_rfl
def txt(l:List UInt8):ByteArray:=⟨l.toArray⟩
theorem aU(l:List UInt8):(txt l).size=l.length:=by simp [txt,ByteArray.size]
theorem uE(l:List UInt8):Lib.strCells (txt l)=Lib.byteCells l:=rfl
abbrev OB(base:Nat)(w:World)(v:Value)(l:List UInt8):Prop:=w.ownsRow base 5 1 v l.length (Lib.byteCells l)
structure BT(T:TypeId)(k:Nat):Prop where
 ne:T≠5
 lies:liesAt Tryz.prog Tryz.prog.depth T ((k+2) / Tryz.prog.cellsOf T) k 54 1=true
theorem bt0:BT 54 0:=⟨by decide,by kernel_rfl⟩
theorem bt2:BT 56 2:=⟨by decide,by kernel_rfl⟩
abbrev Oth(b:Nat)(w w':World):Prop:=Lib.OthersKept 5 (some b) w w'
def BL(T:TypeId)(base:Nat)(w:World)(b:Nat)(pre:List Value)(l:List UInt8):Prop:=
 ∃ p v,w.heap[b]?=some (.cells (pre ++ [p,v]).toArray T (0,0))/\(p=.pointer none\/p=.pointer (some ⟨b,pre.length,none⟩))/\OB base w v l/\(l=[]->v=.slice none 0 0)/\base<=b
theorem iB{w:World}{b:Nat}{T:TypeId}{pre:List Value}{p v:Value}(h:w.heap[b]?=some (.cells (pre ++ [p,v]).toArray T (0,0))) :
  w.cell? ⟨b,pre.length,none⟩=some p/\w.cell? ⟨b,pre.length+1,none⟩=some v/\∀ i,w.frozen? ⟨b,i,none⟩=false:=
 ⟨aC h (by simp),aC h (by simp),bM h⟩
theorem nZ{w:World}{b:Nat}{T:TypeId}{pre:List Value}{p v:Value}(h:w.heap[b]?=some (.cells (pre ++ [p,v]).toArray T (0,0)))(q:Value) :
  (w.setCell ⟨b,pre.length,none⟩ q).heap[b]?=some (.cells (pre ++ [q,v]).toArray T (0,0))/\(w.setCell ⟨b,pre.length+1,none⟩ q).heap[b]?=some (.cells (pre ++ [p,q]).toArray T (0,0)):=by
 refine⟨(bB h _ _).trans ?_,(bB h _ _).trans ?_⟩
 ·congr 2
  apply Array.ext'
  simp
 ·congr 2
  apply Array.ext'
  simp
theorem lE{base:Nat}{w:World}{v:Value}{l:List UInt8}{b:Nat}{cs:Array Value}{T:TypeId}(h:OB base w v l)(hb:w.heap[b]?=some (.cells cs T (0,0)))(hT:T≠5):v.ownBlock≠some b:=bL h hb hT
theorem rZ{base:Nat}{w:World}{v:Value}{l:List UInt8}{b:Nat}(h:OB base w v l)(hn:v.ownBlock≠some b)(i:Nat)(q:Value):OB base (w.setCell ⟨b,i,none⟩ q) v l:=
 bJ h ((Fr.refl (fun z=>z=b) w).setCell (p:=⟨b,i,none⟩) rfl q) (fun k hk e=>hn (by rw [hk,e]))
def aI4(T:TypeId)(base:Nat)(w:World)(b:Nat)(pre:List Value)(l:List UInt8)(e:Ending)(w':World):Prop:=
 e=.returned (.tuple #[])/\(∃ v,w'.heap[b]?=some (.cells (pre ++ [.pointer (some ⟨b,pre.length,none⟩),v]).toArray T (0,0))/\OB base w' v l/\(l=[]->v=.slice none 0 0)/\base<=b)/\Below base w w'/\Oth b w w'
theorem kG{T:TypeId}{base:Nat}{w:World}{b:Nat}{pre:List Value}{l:List UInt8}(hT:BT T pre.length)(h:BL T base w b pre l) :
  Calls Tryz.prog 81 #[.pointer (some ⟨b,pre.length,none⟩)] w (aI4 T base w b pre l):=by
 obtain⟨p,v,h1,h2,h3,h4,h5⟩:=h
 obtain⟨c0,c1,fz⟩:=iB h1
 obtain⟨j,hj,hjs⟩:=Option.map_eq_some_iff.1 wA
 have H:Hid (w.heap[b]?=some (.cells (pre ++ [p,v]).toArray T (0,0))/\OB base w v l/\(l=[]->v=.slice none 0 0)/\base<=b):=⟨h1,h3,h4,h5⟩
 have hsh:w.shape? b=some (T,pre.length+2):=by simp [World.shape?,h1]
 clear h1 h3 h4 h5
 obtain⟨k,hk⟩:∃ k,pre.length=k:=⟨_,rfl⟩
 have lies:=hT.lies
 have HK:Hid (pre.length=k):=hk
 rw [hk] at c0 c1 h2 hsh lies ⊢
 clear hk
 rcases h2 with rfl | rfl
 ·have fz0:=fz k
  go_enter Tryz.func81,Tryz.ntmps81
  go_wp2
  rw [Lib.run_to_unsafe w ⟨b,k,none⟩ rF vR hj (by rw [hjs];decide) hsh (by simp only;omega)]
  simp only [Result.andThen]
  rw [Oper.upon_value]
  go_wp2
  rw [run_callFunc_extern Tryz.func118 (by kernel_rfl) (by kernel_rfl) (by kernel_rfl) (e:=Extern.AbiNoEscape.same) (by kernel_rfl)]
  rw [Lib.run_noEscape]
  simp only [Result.andThen]
  rw [Oper.upon_value]
  go_wp2
  rw [Lib.run_from_unsafe w ⟨b,k,none⟩ vR rF hj hsh lies]
  simp only [Result.andThen]
  rw [Oper.upon_value]
  go_wp2
  go_end0
  rw [<- HK.out]
  refine⟨rfl,⟨v,(nZ H.out.1 _).1,rZ H.out.2.1 (lE H.out.2.1 H.out.1 hT.ne) _ _,H.out.2.2.1,H.out.2.2.2⟩,(Below.refl base w).setCell (p:=⟨b,_,none⟩) H.out.2.2.2 _,(Lib.OthersKept.refl _ _ w).setCell ⟨b,_,none⟩ rfl _⟩
 ·go_enter Tryz.func81,Tryz.ntmps81
  go_wp2
  rw [Lib.run_neq_ptr_same w _ rF hj]
  go_wp2
  go_end0
  exact⟨rfl,⟨v,by rw [HK.out];exact H.out.1,H.out.2⟩,Below.refl base _,Lib.OthersKept.refl _ _ _⟩
def jO(T:TypeId)(base:Nat)(w:World)(b:Nat)(pre:List Value)(l:List UInt8)(w':World):Prop:=BL T base w' b pre l/\Below base w w'/\Oth b w w'
theorem eP{T:TypeId}{base:Nat}{w:World}{b:Nat}{pre:List Value}{l:List UInt8}(hT:BT T pre.length)(h:BL T base w b pre l)(s:List UInt8)(hl:l.length+s.length<=140737488355328)(hb:base<=w.heap.size) :
  Calls Tryz.prog 36 #[.pointer (some ⟨b,pre.length,none⟩),.string (txt s)] w fun e w'=>e=.returned (.tuple #[.int .i64 (s.length:Int),.nilIface])/\jO T base w b pre (l ++ s) w':=by
 obtain⟨t0,hi,hz0,hz1,hz2⟩:=aV iN
 have HC:=kG hT h
 have hz:=aU s
 have HB:Hid (base<=w.heap.size):=hb
 obtain⟨k,hk⟩:∃ k,pre.length=k:=⟨_,rfl⟩
 have HK:Hid (pre.length=k):=hk
 rw [hk] at HC ⊢
 clear hk h
 go_enter Tryz.func36,Tryz.ntmps36
 go_wp2_with (go_at_call 81;(with_reducible refine HC.mono ?_))
 rintro e w1 ⟨rfl,⟨v,h1,h2,h3,h4⟩,h5,h6⟩
 obtain⟨c0,c1,fz⟩:=iB h1
 rw [HK.out] at c0 c1
 have X1:Hid (w1.heap[b]?=some (.cells (pre ++ [.pointer (some ⟨b,pre.length,none⟩),v]).toArray T (0,0))/\OB base w1 v l/\(l=[]->v=.slice none 0 0)/\base<=b/\Below base w w1/\Oth b w w1):=⟨h1,h2,h3,h4,h5,h6⟩
 have hs1:=h5.size
 clear h1 h2 h3 h4 h5 h6
 go_wp2_with (at_builtin;refine Lib.wpList_append_own_string _ rfl _ _ 52 9 rfl base 5 t0 gK nP hi hz0 hz1 hz2 _ _ _ rfl X1.out.2.1 (txt s) rfl ?c3 ?c4 ?c5 ?_)
 case c3=>rw [hz];unfold maxLen;omega
 case c4=>rw [hz];omega
 case c5=>omega
 intro v' w2 hown' hgrow hnil
 have hb2:w2.heap[b]?=some (.cells (pre ++ [.pointer (some ⟨b,pre.length,none⟩),v]).toArray T (0,0)):=by
  rw [hgrow.block b (aA X1.out.1) (fun e=>lE X1.out.2.1 X1.out.1 hT.ne e.symm)]
  exact X1.out.1
 obtain⟨d0,d1,fz2⟩:=iB hb2
 rw [HK.out] at d0 d1
 have f1:=fz2 (k+1)
 rw [uE] at hown'
 have X2:Hid (w2.heap[b]?=some (.cells (pre ++ [.pointer (some ⟨b,pre.length,none⟩),v]).toArray T (0,0))/\w2.ownsRow base 5 1 v' (l.length+s.length) (Lib.byteCells l ++ Lib.byteCells s)/\w1.grownBy w2 v.ownBlock):=⟨hb2,hown',hgrow⟩
 have N2:Hid _:=hnil
 obtain⟨q2,k2,rfl⟩:=aI hown'
 clear hb2 hown' hgrow hnil
 go_wp2
 go_ret2
 have hO:OB base w2 (.slice q2 (l.length+s.length) k2) (l ++ s):=by
  unfold OB
  rw [List.length_append,show Lib.byteCells (l ++ s)=Lib.byteCells l ++ Lib.byteCells s by simp [Lib.byteCells]]
  exact X2.out.2.1
 refine⟨by first | rfl | rw [hz],⟨_,_,(by rw [<- HK.out];exact(nZ X2.out.1 _).2),.inr rfl,?_,fun e=>?_,X1.out.2.2.2.1⟩,?_,?_⟩
 ·exact rZ hO (lE hO X2.out.1 hT.ne) _ _
 ·obtain⟨e1,e2⟩:=List.append_eq_nil_iff.1 e
  exact N2.out.2 ⟨X1.out.2.2.1 e1,by simp [e2]⟩
 ·exact(X1.out.2.2.2.2.1.trans ((Below.refl base w1).grown X2.out.2.2 (by omega) (fun k hk=>(aH X1.out.2.1 hk).1))).setCell (p:=⟨b,_,none⟩) X1.out.2.2.2.1 _
 ·exact(X1.out.2.2.2.2.2.grown X2.out.2.2 (Lib.ownsRowF_kind (World.ownsRowF_of X1.out.2.1))).setCell ⟨b,_,none⟩ rfl _
theorem aG1(W:World)(a:Value)(t:TypeId):∀ (j:Nat) (u:Value),[a][j]?=some u->(W.alloc (.cells #[a] t)).cell? ((⟨W.heap.size,0,none⟩:Addr).add j)=some u:=by
 intro j u h
 match j,h with
 | 0,h=>
  simp at h
  subst h
  have e:(⟨W.heap.size,0,none⟩:Addr).add 0=⟨W.heap.size,0,none⟩:=by simp [Addr.add]
  rw [e]
  exact aC (aE W _) rfl
theorem oV{T:TypeId}{base:Nat}{w:World}{b:Nat}{pre:List Value}{l:List UInt8}(hT:BT T pre.length)(h:BL T base w b pre l)(x:UInt8)(hl:l.length+1<=140737488355328)(hb:base<=w.heap.size) :
  Calls Tryz.prog 39 #[.pointer (some ⟨b,pre.length,none⟩),.int .u8 (x.toNat:Int)] w fun e w'=>e=.returned .nilIface/\jO T base w b pre (l ++ [x]) w':=by
 obtain⟨t0,hi,hz0,hz1,hz2⟩:=aV iN
 have HC:=kG hT h
 have HB:Hid (base<=w.heap.size):=hb
 obtain⟨k,hk⟩:∃ k,pre.length=k:=⟨_,rfl⟩
 have HK:Hid (pre.length=k):=hk
 rw [hk] at HC ⊢
 clear hk h
 go_enter Tryz.func39,Tryz.ntmps39
 go_wp2_with (go_at_call 81;(with_reducible refine HC.mono ?_))
 rintro e w1 ⟨rfl,⟨v,h1,h2,h3,h4⟩,h5,h6⟩
 obtain⟨c0,c1,fz⟩:=iB h1
 rw [HK.out] at c0 c1
 have X1:Hid (w1.heap[b]?=some (.cells (pre ++ [.pointer (some ⟨b,pre.length,none⟩),v]).toArray T (0,0))/\OB base w1 v l/\(l=[]->v=.slice none 0 0)/\base<=b/\Below base w w1/\Oth b w w1):=⟨h1,h2,h3,h4,h5,h6⟩
 have hs1:=h5.size
 clear h1 h2 h3 h4 h5 h6
 go_wp2_with (at_builtin;refine wpList_append_own_at _ rfl _ _ 52 rfl base 5 t0 (.int .u8 0) 1 1 gK hi hz0 hz1 hz2 rfl (by decide) _ _ _ rfl (World.ownsRow.alloc X1.out.2.1 _) ⟨w1.heap.size,0,none⟩ 1 1 (Lib.byteCells [x]) rfl rfl (aG1 _ _ _) (by simp [Lib.byteCells,Value.oneCell']) ?c3 ?c4 ?c5 ?_)
 case c3=>unfold maxLen;omega
 case c4=>omega
 case c5=>simp;omega
 intro v' w2 hown' hgrow _ hblk
 have hb1':(w1.alloc (.cells #[.int .u8 (x.toNat:Int)] 5)).heap[b]?=some (.cells (pre ++ [.pointer (some ⟨b,pre.length,none⟩),v]).toArray T (0,0)):=(Below.heap_alloc w1 _ b (aA X1.out.1)).trans X1.out.1
 have hb2:w2.heap[b]?=some (.cells (pre ++ [.pointer (some ⟨b,pre.length,none⟩),v]).toArray T (0,0)):=by
  rw [hgrow.block b (aA hb1') (fun e=>lE X1.out.2.1 X1.out.1 hT.ne e.symm)]
  exact hb1'
 obtain⟨d0,d1,fz2⟩:=iB hb2
 rw [HK.out] at d0 d1
 have f1:=fz2 (k+1)
 have X2:Hid (w2.heap[b]?=some (.cells (pre ++ [.pointer (some ⟨b,pre.length,none⟩),v]).toArray T (0,0))/\w2.ownsRow base 5 1 v' (l.length+1) (Lib.byteCells l ++ Lib.byteCells [x])/\(w1.alloc (.cells #[.int .u8 (x.toNat:Int)] 5)).grownBy w2 v.ownBlock):=⟨hb2,hown',hgrow⟩
 obtain⟨q2,k2,rfl⟩:=aI hown'
 clear hb2 hown' hgrow hblk hb1'
 go_wp2
 go_ret
 have hO:OB base w2 (.slice q2 (l.length+1) k2) (l ++ [x]):=by
  unfold OB
  rw [List.length_append,show Lib.byteCells (l ++ [x])=Lib.byteCells l ++ Lib.byteCells [x] by simp [Lib.byteCells]]
  exact X2.out.2.1
 refine⟨rfl,⟨_,_,(by rw [<- HK.out];exact(nZ X2.out.1 _).2),.inr rfl,rZ hO (lE hO X2.out.1 hT.ne) _ _,fun e=>(by simp at e),X1.out.2.2.2.1⟩,?_,?_⟩
 ·exact(X1.out.2.2.2.2.1.trans (((Below.refl base w1).alloc (by omega) _).grown X2.out.2.2 (by simp;omega) (fun k hk=>(aH X1.out.2.1 hk).1))).setCell (p:=⟨b,_,none⟩) X1.out.2.2.2.1 _
 ·exact((X1.out.2.2.2.2.2.alloc _).grown X2.out.2.2 (Lib.ownsRowF_kind (World.ownsRowF_of (World.ownsRow.alloc X1.out.2.1 _)))).setCell ⟨b,_,none⟩ rfl _
theorem zU{T:TypeId}{base:Nat}{w:World}{b:Nat}{pre:List Value}{l:List UInt8}(h:BL T base w b pre l) :
  Calls Tryz.prog 56 #[.pointer (some ⟨b,pre.length,none⟩)] w fun e w'=>e=.returned (.int .i64 (l.length:Int))/\w'=w:=by
 obtain⟨p,v,h1,h2,h3,h4,h5⟩:=h
 obtain⟨c0,c1,fz⟩:=iB h1
 obtain⟨q,c,rfl⟩:=aI h3
 clear h1 h2 h3 h4 h5
 obtain⟨k,hk⟩:∃ k,pre.length=k:=⟨_,rfl⟩
 rw [hk] at c0 c1 ⊢
 clear hk
 go_enter Tryz.func56,Tryz.ntmps56
 go_wp2
 go_ret
 exact⟨rfl,rfl⟩
theorem oZ{T:TypeId}{base:Nat}{w:World}{b:Nat}{pre:List Value}{l:List UInt8}(h:BL T base w b pre l) :
  Calls Tryz.prog 25 #[.pointer (some ⟨b,pre.length,none⟩)] w fun e w'=>e=.returned (.string (txt l))/\Below base w w'/\Oth b w w':=by
 obtain⟨p,v,h1,h2,h3,h4,h5⟩:=h
 obtain⟨c0,c1,fz⟩:=iB h1
 obtain⟨k,hk⟩:∃ k,pre.length=k:=⟨_,rfl⟩
 rw [hk] at c0 c1 ⊢
 clear hk h1 h2 h5
 have H3:Hid (OB base w v l):=h3
 by_cases h0:l=[]
 ·subst h0
  have hv:=h4 rfl
  subst hv
  have hUS:∀ W:World,(Builtin.unsafeString_ #[104,3] 9 #[.pointer none,.int .i64 0]).run Tryz.prog W=.ok (.string .empty) W:=fun W=>Lib.run_unsafeString_none W _ _ _ none
  have c1':w.drew.cell? ⟨b,k+1,none⟩=some (.slice none 0 0):=c1
  have hSD:(Builtin.unsafeSliceData_ #[52] 104 #[.slice none 0 0]).run Tryz.prog w.drew=.ok (.pointer none) w.drew:=rfl
  clear h3 h4
  go_enter Tryz.func25,Tryz.ntmps25
  go_wp2
  go_region
  all_goals (go_wp2;go_ret;exact⟨rfl,Below.drew (Below.refl base w),(Lib.OthersKept.refl _ _ w).drew⟩)
 ·have hl0:l.length≠0:=fun e=>h0 (List.eq_nil_of_length_eq_zero e)
  obtain⟨g,cap,cur,rfl,hbg,hg,hnc,hcm,hcs,htake⟩:∃ g cap cur,v=.slice (some ⟨g,0,none⟩) l.length cap/\base<=g/\w.heap[g]?=some (.cells cur 5 (0,0))/\l.length<=cap/\cap<=maxLen/\cur.size=cap * 1/\cur.toList.take (l.length * 1)=Lib.byteCells l:=by
   rcases h3.2 with⟨_,hz⟩ | ⟨g,cap,cur,hv,r⟩
   ·exact absurd hz hl0
   ·exact⟨g,cap,cur,hv,r⟩
  have c1':w.drew.cell? ⟨b,k+1,none⟩=some (.slice (some ⟨g,0,none⟩) l.length cap):=c1
  have hSD:(Builtin.unsafeSliceData_ #[52] 104 #[.slice (some ⟨g,0,none⟩) l.length cap]).run Tryz.prog w.drew=.ok (.pointer (some ⟨g,0,none⟩)) w.drew:=
   Lib.run_unsafeSliceData_row _ _ _ _ _ _ (by omega)
  have hUS:(Builtin.unsafeString_ #[104,3] 9 #[.pointer (some ⟨g,0,none⟩),.int .i64 (l.length:Int)]).run Tryz.prog w.drew=.ok (.string (txt l)) (w.drew.freeze ⟨g,0,none⟩ l.length):=by
   refine Lib.run_unsafeString_row w.drew 104 3 9 5 Tryz.underlying104 (by kernel_rfl) g cur.size (by have hg':w.drew.heap[g]?=some (.cells cur 5 (0,0)):=hg;simp [World.shape?,hg']) l h0 (by omega) (by unfold maxLen at hcm;omega) ?_
   intro j x hx
   exact H3.out.cells (g:=g) rfl j (.int .u8 x.toNat) (by simp [Lib.byteCells,hx])
  have HBG:Hid (base<=g/\w.heap[g]?=some (.cells cur 5 (0,0))):=⟨hbg,hg⟩
  clear h3 h4 hg hnc hcm hcs htake h0 hl0 hbg
  go_enter Tryz.func25,Tryz.ntmps25
  go_wp2
  go_region
  all_goals (go_wp2;go_ret;exact⟨rfl,Lib.below_freeze (Below.drew (Below.refl base w)) (p:=⟨g,0,none⟩) HBG.out.1 _,((Lib.OthersKept.refl _ _ w).drew).freeze ⟨g,0,none⟩ _ ⟨_,_,HBG.out.2⟩⟩)
theorem aH8{x:Int}(h:aJ true x):Utf8.encode x=txt (Lib.encodeRune x):=by
 obtain⟨h0,h1,h2⟩:=h
 have h3:=h2 rfl
 simp only [top,if_true] at h1
 have hv:Utf8.valid x=true:=by rw [validRune_eq];unfold validRune;exact decide_eq_true (by omega)
 have u:∀ n:Nat,∀ z:Int,z=(n:Int)->UInt8.ofNat n=z.toNat.toUInt8:=fun n z e=>by rw [e,Int.toNat_natCast]
 unfold Utf8.encode Lib.encodeRune txt
 simp only [hv,if_true]
 split
 ·rw [Lib.encodeRuneZ_one h0 (by omega)]
  rfl
 ·split
  ·rw [Lib.encodeRuneZ_two (by omega) (by omega)]
   simp only [List.map_cons,List.map_nil]
   rw [u _ (192+x / 64) (by omega),u _ (128+x % 64) (by omega)]
  ·split
   ·rw [Lib.encodeRuneZ_three (by omega)]
    simp only [List.map_cons,List.map_nil]
    rw [u _ (224+x / 4096) (by omega),u _ (128+x / 64 % 64) (by omega),u _ (128+x % 64) (by omega)]
   ·rw [Lib.encodeRuneZ_four (by omega) h1]
    simp only [List.map_cons,List.map_nil]
    rw [u _ (240+x / 262144) (by omega),u _ (128+x / 4096 % 64) (by omega),u _ (128+x / 64 % 64) (by omega),u _ (128+x % 64) (by omega)]
theorem dJ(a b:List UInt8):txt a ++ txt b=txt (a ++ b):=by
 unfold txt
 apply ByteArray.ext
 simp [ByteArray.data_append]
theorem uI:∀ (l:List Int),(∀ x∈l,aJ true x)->runesBytes l=txt (aR true l):=by
 have key:∀ (l:List Int) (a:List UInt8),(∀ x∈l,aJ true x)->l.foldl (fun r n=>r ++ Utf8.encode n) (txt a)=txt (a ++ aR true l):=by
  intro l
  induction l with
  | nil=>intro a _;simp [aR]
  | cons x l ih=>
   intro a h
   rw [List.foldl_cons,aH8 (h x (List.mem_cons_self ..)),dJ,ih _ (fun y hy=>h y (List.mem_cons_of_mem _ hy)),aO,List.append_assoc]
   rfl
 intro l h
 exact key l [] h
theorem wF{base:Nat}{w:World}{g c:Nat}{l:List Int}(h:RO base w (.slice (some ⟨g,0,none⟩) l.length c) l){j:Nat}{x:Int}(hx:l[j]?=some x):w.cell? ⟨g,j,none⟩=some (.int .i32 x):=bI h (by simp [rns,hx])
theorem sJ{base:Nat}{w:World}{v:Value}{l:List Int}(h:RO base w v l)(hl:∀ x∈l,aJ true x):(convert 87 9 v).run Tryz.prog w=.ok (.string (txt (aR true l))) w:=by
 rcases h.2 with⟨rfl,hn⟩ | ⟨g,cap,cur,rfl,hg,hc,h1,h2,h3,h4⟩
 ·rw [List.eq_nil_of_length_eq_zero hn]
  exact run_convert_runes_nil w _ _ 21 0 0 dV Tryz.underlying21 nP
 ·have:=run_convert_runes (P:=Tryz.prog) w 87 9 21 ⟨g,0,none⟩ l.length cap l lz9 dV Tryz.underlying21 nP (fun j hj=>by
   have e:(⟨g,0,none⟩:Addr).add j=⟨g,j,none⟩:=by unfold Addr.add;simp;omega
   rw [e]
   have:=wF h (List.getElem?_eq_getElem hj)
   rw [this,List.getD_eq_getElem?_getD,List.getElem?_eq_getElem hj]
   rfl)
  rw [List.take_length,uI l hl] at this
  exact this
theorem qQ{w:World}{base n:Nat}{v:Value}{l:List UInt8}(h:w.ownsRow base 5 1 v n (Lib.byteCells l)):(convert 52 9 v).run Tryz.prog w=.ok (.string (txt l)) w:=by
 have hl:l.length=n:=by have:=h.1;rw [Lib.byteCells_length] at this;omega
 subst hl
 rcases h.2 with⟨rfl,hn⟩ | ⟨g,cap,cur,rfl,hg,hc,h1,h2,h3,h4⟩
 ·have:l=[]:=List.eq_nil_of_length_eq_zero hn
  subst this
  exact run_convert_bytes_nil _ _ 5 Tryz.underlying52 Tryz.underlying5 0 0 _ Tryz.underlying9
 ·refine run_convert_bytes_back w _ _ 5 ⟨g,0,none⟩ cap l Tryz.underlying52 Tryz.underlying5 Tryz.underlying9 (fun j hj=>?_)
  have:=bI h (j:=j) (u:=.int .u8 (l[j].toNat:Int)) (by simp [Lib.byteCells,hj])
  have e:(⟨g,0,none⟩:Addr).add j=⟨g,j,none⟩:=by unfold Addr.add;simp;omega
  rw [e];exact this
theorem wY(n:Nat)(h:n<=140737488355328)(w:World) :
  (Instr.makeSlice 52 (.int .i64 (n:Int)) (.int .i64 (n:Int))).run Tryz.prog w=.ok (.slice (some ⟨w.heap.size,0,none⟩) n n) (w.alloc (.cells (Lib.byteCells (List.replicate n 0)).toArray 5)):=by
 obtain⟨i0,hi,hz0,hz1,hz2⟩:=aV iN
 have:=run_make (P:=Tryz.prog) w 52 5 i0 (.int .u8 0) gK hi hz0 .i64 .i64 (n:Int) (n:Int) (by omega) (by omega) (by rw [hz2];omega) (by omega)
 rw [hz1] at this
 have e:madeCells #[.int .u8 0] n=(Lib.byteCells (List.replicate n 0)).toArray:=by
  apply Array.ext
  ·simp [madeCells,Lib.byteCells]
  intro i h1 h2
  simp [madeCells,Lib.byteCells,Nat.mod_one]
 rw [<- e]
 simpa [Value.cells] using this
def gW(l:List Int)(k:Nat):List UInt8:=(aR false (l.take k)) ++ List.replicate (l.length - k) 0
theorem jX(l:List Int):aR false l=l.map fun x=>UInt8.ofNat x.toNat:=by
 induction l with
 | nil=>rfl
 | cons x l ih=>rw [aO,ih];rfl
theorem qU(l:List Int)(k:Nat)(h:k<=l.length):(gW l k).length=l.length:=by
 unfold gW
 rw [jX];simp;omega
theorem yK(l:List Int)(k:Nat)(h:k < l.length):(gW l k).set k (UInt8.ofNat (l[k]).toNat)=gW l (k+1):=by
 unfold gW
 rw [jX,jX,bY l k h]
 have e:(l.take k).length=k:=by simp;omega
 rw [List.set_append_right _ _ (by simp;omega)]
 rw [List.length_map,e,Nat.sub_self]
 obtain⟨d,hd⟩:∃ d,l.length - k=d+1:=⟨l.length - k - 1,by omega⟩
 rw [hd,List.replicate_succ,List.set_cons_zero,show l.length - (k+1)=d by omega,List.map_append,List.map_singleton,List.append_assoc]
 rfl
theorem aI5{x:Int}(h0:0<=x)(h1:x<=255):IntKind.wrap .u8 x=x:=by
 rw [IntKind.wrap_u8];omega
theorem mK{base:Nat}{w:World}{v:Value}{l:List Int}(c f:Bool)(h:RO base w v l)(hl:∀ x∈l,aJ c x)(hn:l.length<=100000000) :
  Calls Tryz.prog 41 #[v,.agg #[.bool c,.bool f]] w fun e w'=>e=.returned (.string (txt (aR c l)))/\Below w.heap.size w w':=by
 obtain⟨q,k0,rfl⟩:=aI h
 have H:Hid (RO base w (.slice q l.length k0) l):=h
 have HL:Hid (∀ x∈l,aJ c x):=hl
 clear h hl
 cases c with
 | true=>
  have hcv:=sJ (World.ownsRow.alloc H.out (.cells #[.bool true,.bool f] 27)) HL.out
  go_enter Tryz.func41,Tryz.ntmps41
  go_wp2
  go_ret
  exact⟨rfl,bz9⟩
 | false=>
  have hmk:=wY l.length (by omega)
  have hnew:∀ W:World,(W.alloc (.cells (Lib.byteCells (List.replicate l.length 0)).toArray 5)).heap[W.heap.size]?=some (.cells (Lib.byteCells (gW l 0)).toArray 5 (0,0)):=fun W=>by
   have e:gW l 0=List.replicate l.length 0:=by simp [gW,aR]
   rw [e];exact aE W _
  have HNEW:Hid _:=hnew
  clear hnew
  generalize (Lib.byteCells (List.replicate l.length 0)).toArray=Z at hmk HNEW
  go_enter Tryz.func41,Tryz.ntmps41
  go_wp2
  have N1:Hid (((w.alloc (.cells #[.bool false,.bool f] 27)).alloc (.cells Z 5)).heap[w.heap.size+1]?=some (.cells (Lib.byteCells (gW l 0)).toArray 5 (0,0))):=aB (by have:=HNEW.out (w.alloc (.cells #[.bool false,.bool f] 27));simpa using this)
  have B1:Hid (Below w.heap.size w ((w.alloc (.cells #[.bool false,.bool f] 27)).alloc (.cells Z 5))):=(bz9).alloc (by simp) _
  go_loopw [17] (fun i wr=>∃ k:Nat,k<=l.length/\i=.int .i64 (k:Int)/\wr.heap[w.heap.size+1]?=some (.cells (Lib.byteCells (gW l k)).toArray 5 (0,0))/\Below w.heap.size w wr) (fun i _=>l.length - (intOf i).toNat)
  case atStart=>exact⟨0,Nat.zero_le _,rfl,N1.out,B1.out⟩
  case round=>
   obtain⟨k,hk,rfl,hrow,hb⟩:=hrel
   have ROW:Hid (wr.heap[w.heap.size+1]?=some (.cells (Lib.byteCells (gW l k)).toArray 5 (0,0))):=hrow
   have B:Hid (Below w.heap.size w wr):=hb
   have hfz:=bM hrow k
   clear hrow hb
   by_cases hlt:k < l.length
   ·obtain⟨g,gc,hv⟩:=aY H.out (by omega)
    injection hv with hq hn2 hc2
    subst hq hc2
    obtain⟨x,hx⟩:∃ x,l[k]?=some x:=⟨_,List.getElem?_eq_getElem hlt⟩
    have hgw:=(aH H.out (g:=g) rfl).2.1
    have d1:=(B.out.cell (p:=⟨g,k,none⟩) hgw).trans (wF H.out hx)
    obtain⟨x0,x1,-⟩:=HL.out x (List.mem_of_getElem? hx)
    simp only [top,Bool.false_eq_true,if_false] at x1
    have hw8:=aI5 x0 x1
    have i0:(0:Int)<=(k:Int):=by omega
    have i1:(k:Int) < (l.length:Int):=by omega
    have hwr:IntKind.wrap .i64 ((k:Int)+1)=(k:Int)+1:=wrap_small _ (by omega) (by omega)
    have hcell:∃ u,wr.cell? ⟨w.heap.size+1,k,none⟩=some u:=by
     have:k < (Lib.byteCells (gW l k)).length:=by rw [Lib.byteCells_length,qU l k hk];exact hlt
     exact⟨(Lib.byteCells (gW l k))[k],aC ROW.out (by rw [List.getElem?_toArray,List.getElem?_eq_getElem this])⟩
    obtain⟨u,hu⟩:=hcell
    have SET:Hid ((wr.setCell ⟨w.heap.size+1,k,none⟩ (.int .u8 x)).heap[w.heap.size+1]?=some (.cells (Lib.byteCells (gW l (k+1))).toArray 5 (0,0))):=by
     refine(bB ROW.out _ _).trans ?_
     obtain⟨hk',rfl⟩:=List.getElem?_eq_some_iff.1 hx
     rw [<- yK l k hk']
     congr 2
     apply Array.ext'
     have:=fU x0 x1
     simp only [Array.toList_setIfInBounds,Lib.byteCells,List.map_set]
     rw [this]
    clear hx
    go_wp2
    go_roundw
    case rel=>exact⟨k+1,by omega,by go_num,SET.out,B.out.setCell (p:=⟨w.heap.size+1,k,none⟩) (by simp) _⟩
    case measure=>simp [intOf];omega
   ·obtain rfl:k=l.length:=by omega
    have i1:¬ (l.length:Int) < (l.length:Int):=by omega
    have e:gW l l.length=aR false l:=by unfold gW;simp
    have hln:(aR false l).length=l.length:=by rw [<- e];exact qU l _ lz9
    have hcv:(convert 52 9 (.slice (some ⟨w.heap.size+1,0,none⟩) l.length l.length)).run Tryz.prog wr=.ok (.string (txt (aR false l))) wr:=by
     refine qQ (base:=0) (n:=l.length) ⟨by rw [Lib.byteCells_length,hln];omega,.inr ⟨_,_,(Lib.byteCells (aR false l)).toArray,rfl,Nat.zero_le _,by rw [<- e];exact ROW.out,Nat.le_refl _,by unfold maxLen;omega,by simp [Lib.byteCells,hln],?_⟩⟩
     simp [Lib.byteCells,<- hln]
     exact List.take_of_length_le (by simp)
    clear e hln
    go_wp2
    go_ret
    exact⟨rfl,B.out⟩
end Go.Proofs.YticfnglebbakkaaGreatDoor
