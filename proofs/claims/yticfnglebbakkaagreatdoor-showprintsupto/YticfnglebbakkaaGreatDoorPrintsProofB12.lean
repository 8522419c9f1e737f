/-
  Parts of the proof.
-/
import Derived.Test.YticfnglebbakkaaGreatDoorPrintsProofB0
import Derived.Test.YticfnglebbakkaaGreatDoorPrintsProofB11
import Derived.Lib.OthersKept
import Derived.Lib.LaidTab
import Derived.Lib.ItoaNum
import Derived.Test.YticfnglebbakkaaGreatDoorPrintsProofB10
import Derived.Test.YticfnglebbakkaaGreatDoorPrintsProofB9
import Derived.OwnWalk
import Derived.Laws.MakeOwn
import Derived.Test.YticfnglebbakkaaGreatDoorPrintsProofB5
import Derived.Test.YticfnglebbakkaaGreatDoorPrintsProofB7
import Derived.Lib.Builder
import Derived.Lib.AppendStr
import Derived.Lib.UnsafeStr
import Derived.Lib.FrozenHead
import Derived.Laws.Externs
import Derived.Shelf.RegionOpenPlain
import Derived.Laws.Cover4
import Derived.Laws.IdiomStrings
import Derived.Laws.BytesArg
set_option maxRecDepth 100000
set_option maxHeartbeats 8000000
namespace Go.Proofs.YticfnglebbakkaaGreatDoor
open Go Go.RowKit
abbrev Tabs(w:World):Prop:=Lib.Utf8Tabs 2 3 w
theorem nA{w:World}{b o:Nat}{v:Value}(h:w.cell? ⟨b,o,none⟩=some v):b < w.heap.size:=by
 rcases Nat.lt_or_ge b w.heap.size with g | g
 ·exact g
 ·have:w.heap[b]?=none:=Array.getElem?_eq_none g
  simp [World.cell?,this] at h
theorem Tabs.blocks{w:World}(h:Tabs w):2 < w.heap.size/\3 < w.heap.size:=⟨nA (h.1 0 (by omega)),nA (h.2 0 (by omega)).1⟩
theorem Tabs.to{w w':World}(h:Tabs w)(h1:w'.heap[2]?=w.heap[2]?)(h2:w'.heap[3]?=w.heap[3]?):Tabs w':=by
 refine⟨fun c hc=>?_,fun i hi=>?_⟩
 ·have:=h.1 c hc
  simpa [World.cell?,h1] using this
 ·have:=h.2 i hi
  simpa [World.cell?,h2] using this
abbrev Tens (w : World) : Prop := Lib.TabIs Tryz.prog w "internal/strconv.uint64pow10" .u64 Lib.pow10Tab
theorem tW : Tryz.prog.globalNamed "internal/strconv.uint64pow10" = some 1 := by kernel_rfl
theorem Tens.to{w w':World}(h:Tens w)(h1:w'.heap[1]?=w.heap[1]?):Tens w':=by
 unfold Tens Lib.TabIs World.var? at *
 rw [tW] at *
 simpa [h1] using h
def Glb(w:World):Prop:=Tabs w/\(∃ m,w.cell? ⟨0,0,none⟩=some (.int .i64 m))/\Tens w
theorem Glb.size{w:World}(h:Glb w):3 < w.heap.size:=h.1.blocks.2
theorem Glb.to{w w':World}(h:Glb w)(h0:w'.heap[0]?=w.heap[0]?)(h1:w'.heap[1]?=w.heap[1]?)(h2:w'.heap[2]?=w.heap[2]?)(h3:w'.heap[3]?=w.heap[3]?):Glb w':=by
 obtain⟨k1,⟨m,k2⟩,k3⟩:=h
 refine⟨k1.to h2 h3,⟨m,?_⟩,k3.to h1⟩
 simpa [World.cell?,h0] using k2
theorem Glb.below{n:Nat}{w w':World}(h:Glb w)(hb:Below n w w')(hn:3 < n):Glb w':=h.to (hb.block 0 (by omega)) (hb.block 1 (by omega)) (hb.block 2 (by omega)) (hb.block 3 hn)
theorem Glb.kept{w w':World}(h:Glb w)(hb:Below w.heap.size w w'):Glb w':=h.below hb h.size
theorem rT(s:ByteArray)(p:Nat)(w:World)(hp:p < s.size) :
  Calls Tryz.prog 124 #[.string s,.int .i64 (p:Int),.int .i32 ((Utf8.decode s p).1:Int)] w fun e w'=>e=.returned (.bool (bad s p))/\w'=w:=by
 obtain⟨r,hr⟩:∃ r,(Utf8.decode s p).1=r:=⟨_,rfl⟩
 rw [hr]
 have h0:(0:Int)<=(p:Int):=by omega
 have h1:(p:Int)<=(s.size:Int):=by omega
 have h2:¬ s.size < p:=by omega
 by_cases h:r=65533
 ·subst h
  have hb:=aF1 s p hp hr
  rw [<- yW] at hb
  clear hr
  go_enter Tryz.func124,Tryz.ntmps124
  go_wp2_with (go_at_call 83;refine(Tryz.strings_HasPrefix _ _ _).mono ?_;rintro e w' ⟨rfl,rfl⟩)
  all_goals (go_ret;refine⟨?_,rfl⟩)
  all_goals simp_all
 ·have hb:bad s p=false:=by simp [bad];intro q;rw [q] at hr;exact h hr.symm
  have hz:((r:Int)==65533)=false:=by simp;omega
  clear hr
  go_enter Tryz.func124,Tryz.ntmps124
  go_wp2
  go_ret
  exact⟨by rw [hb];rfl,rfl⟩
theorem aC6(s:ByteArray)(p:Nat)(w:World)(hT:Tabs w)(hp:p < s.size)(hs:s.size<=maxLen) :
  Calls Tryz.prog 126 #[.string s,.int .i64 (p:Int)] w fun e w'=>e=.returned (.tuple #[.int .i64 (ch s p),.int .i64 (wd s p:Int)])/\Below w.heap.size w w':=by
 have HT:Hid (Tabs w):=hT
 have HS:Hid (s.size<=maxLen):=hs
 unfold maxLen at hs
 have hz:(s.extract p s.size).size=s.size - p:=by rw [ByteArray.size_extract];omega
 have hd:Lib.decodeGo (s.extract p s.size)=Utf8.decode s p:=by
  unfold Lib.decodeGo
  rw [if_neg (by rw [hz];omega),Lib.tail_decode];rfl
 have h0:¬ (p:Int) < 0:=by omega
 have h1:¬ (s.size:Int)<=(p:Int):=by omega
 have h2:(0:Int)<=(p:Int):=by omega
 have h3:(p:Int)<=(s.size:Int):=by omega
 have h4:¬ s.size < p:=by omega
 have HD:Hid (Utf8.decode s p=((Utf8.decode s p).1,(Utf8.decode s p).2)):=rfl
 have hc:=rT s p
 have hl:=zF s p
 rcases hb:bad s p with _ | _
 ·have e1:=iA hb
  clear hT hz
  go_enter Tryz.func126,Tryz.ntmps126
  go_wp2_with first
   |(go_at_call 153;(with_reducible refine(Tryz.utf8_DecodeRuneInString _ _ HT.out).mono ?_);rw [hd];rintro e w1 ⟨rfl,hb1⟩)
   |(go_at_call 124;(with_reducible refine(hc _ hp).mono ?_);rw [hb];rintro e w' ⟨rfl,rfl⟩)
  go_ret2
  rw [e1]
  refine⟨?_,hb1⟩
  simp only [wd]
  rfl
 ·have e1:Hid _:=mV hb
  clear hT hz
  go_enter Tryz.func126,Tryz.ntmps126
  go_wp2_with first
   |(go_at_call 153;(with_reducible refine(Tryz.utf8_DecodeRuneInString _ _ HT.out).mono ?_);rw [hd];rintro e w1 ⟨rfl,hb1⟩)
   |(go_at_call 124;(with_reducible refine(hc _ hp).mono ?_);rw [hb];rintro e w' ⟨rfl,rfl⟩)
  go_ret2
  rw [e1.out.1,e1.out.2.1]
  exact⟨rfl,hb1⟩
theorem tI{w wr:World}{k n:Nat}{s:ByteArray}(h:Below n w wr)(hk:n<=k)(p:Nat):Below n w (wr.iterAt k s p):=Lib.below_iterAt h hk s p
section
attribute [local go_sem] bC
def RD(w:World)(b:Nat)(s:ByteArray)(m:Md)(p:Nat)(tv:Value):Prop:=
 w.heap[b]?=some (.cells #[.string s,.bool m.c,.bool m.f,.int .i64 (p:Int),tv] 114 (0,0))
end
section
attribute [local go_sem] bC
def LK(w:World)(b:Nat)(tv:Value)(last:Nat):Prop:=
 (tv=.slice none 0 0/\last=0)\/∃ g n c,tv=.slice (some ⟨g,0,none⟩) (n+1) c/\g≠b/\g < w.heap.size/\n<=2000/\1<=last/\w.cell? ⟨g,n * 7,none⟩=some (.int .i64 (last:Int))
end
abbrev Dt:=Tp × Value × List (Int × Int)
def tc(d:Dt):List Value:=[.int .i64 (d.1.1.kind:Int),.int .i64 (d.1.2.1:Int),.int .i64 (d.1.2.2:Int),.int .i64 (d.1.1.n:Int),.int .i64 d.1.1.mn,.int .i64 d.1.1.mx,d.2.1]
def tcs(D:List Dt):List Value:=D.flatMap tc
structure TL(base:Nat)(w:World)(v:Value)(D:List Dt):Prop where
 own:w.ownsRow base 116 7 v D.length (tcs D)
 each:∀ d∈D,RR base w d.2.1 d.2.2/\IsC d.2.2 d.1.1.q
 apart:D.Pairwise (fun a b=>∀ k,a.2.1.ownBlock=some k->b.2.1.ownBlock≠some k)
noncomputable def left (D:List Dt) (p g:Nat):List Sgn:=aL0 g ((D.map Prod.fst).drop p)
theorem aL5(W:World)(a:Value)(t:TypeId):∀ (j:Nat) (u:Value),[a][j]?=some u->(W.alloc (.cells #[a] t)).cell? ((⟨W.heap.size,0,none⟩:Addr).add j)=some u:=by
 intro j u h
 match j,h with
 | 0,h=>simp at h;subst h;simp [Addr.add]
structure RI5(s:ByteArray)(w:World)(k pos:Nat)(e:TypeId)(v:Value)(n:Nat)(L:List Value)(wr:World):Prop where
 lo:w.heap.size<=k
 it:wr.heap[k]?=some (.stringIter s pos)
 own:wr.ownsRow w.heap.size e 1 v n L
 bel:Below w.heap.size w wr
theorem RI5.len{s:ByteArray}{w wr:World}{k pos n:Nat}{e:TypeId}{v:Value}{L:List Value}(h:RI5 s w k pos e v n L wr):w.heap.size<=wr.heap.size:=h.bel.size
theorem sZ{wr:World}{base k p p' n:Nat}{e:TypeId}{s:ByteArray}{v:Value}{L:List Value}(h:wr.ownsRow base e 1 v n L)(hk:wr.heap[k]?=some (.stringIter s p)):(wr.iterAt k s p').ownsRow base e 1 v n L:=by
 obtain⟨h1,h2 | ⟨g,cap,cur,q1,q2,q3,q4⟩⟩:=h
 ·exact⟨h1,.inl h2⟩
 ·refine⟨h1,.inr ⟨g,cap,cur,q1,q2,?_,q4⟩⟩
  rw [Lib.iterAt_other _ _ _ _ _ (fun q=>by rw [q,hk] at q3;cases q3)]
  exact q3
theorem RI5.next{s:ByteArray}{w wr:World}{k pos n:Nat}{e:TypeId}{v:Value}{L:List Value}(h:RI5 s w k pos e v n L wr)(p:Nat):RI5 s w k p e v n L (wr.iterAt k s p):=
 ⟨h.lo,Lib.iterAt_heap wr k s pos p h.it,sZ h.own h.it,tI h.bel h.lo p⟩
theorem RI5.app{s:ByteArray}{w wr w6:World}{k pos n m:Nat}{e:TypeId}{v v':Value}{L M:List Value}{o:Obj}(h:RI5 s w k pos e v n L wr)(hown:w6.ownsRow w.heap.size e 1 v' m M)(hg:(wr.alloc o).grownBy w6 v.ownBlock):RI5 s w k pos e v' m M w6:=by
 have hk:=aC h.it
 refine⟨h.lo,?_,hown,?_⟩
 ·rw [hg.block k (by simp;omega) ?_,Below.heap_alloc _ _ _ hk]
  ·exact h.it
  ·intro q
   obtain⟨_,_,cur,hc⟩:=aH h.own q.symm
   rw [h.it] at hc;cases hc
 ·exact cL h.bel (((Fr.refl (fun z=>v.ownBlock=some z) wr).alloc _).grown hg (fun z hz=>hz)) lz9 (fun z hz=>(aH h.own hz).1)
def aN9(f:Bool)(c:Int)(x:Int):Prop:=if f=true then iH [(c,c)] x else x=c
def EC(f:Bool)(c:Int)(E:Er):Prop:=∃ C,E=.mk 2 0 0 0 C []/\IsC C (aN9 f c)
def FR(N:Nat->Prop)(t:Tr):Prop:=bU (fun t=>∀ a,t.f.rq=some a->t.f.rs≠[]->N a.block) t
theorem mJ(W:World)(cs:Array Value)(t:TypeId):∀ (j:Nat) (u:Value),cs.toList[j]?=some u->(W.alloc (.cells cs t)).cell? ((⟨W.heap.size,0,none⟩:Addr).add j)=some u:=by
 intro j u h
 have hadd:(⟨W.heap.size,0,none⟩:Addr).add j=⟨W.heap.size,j,none⟩:=by unfold Addr.add;split <;> simp_all
 rw [hadd]
 exact aA (aF W _) (by simpa using h)
section
attribute [local go_sem] bC
abbrev aN5:Obj:=.cells #[.int .i64 0,.int .i64 0,.int .i64 0,.int .i64 0,.int .i64 0,.int .i64 0,.slice none 0 0] 116
def TZ(w:World)(g:Nat):Prop:=w.heap[g]?=some aN5
end
section
open Go
def sl(s:ByteArray)(p n:Nat):List UInt8:=(s.data.toList.drop p).take n
theorem aM6(s:ByteArray)(p:Nat):Lib.decodeL (s.data.toList.drop p)=Utf8.decode s p:=by
 rw [Lib.decodeL_N,Lib.decode_N,List.length_drop]
 simp only [List.getD_eq_getElem?_getD,List.getElem?_drop,Nat.add_zero]
theorem pO(s:ByteArray)(p:Nat)(hp:p < s.size)(hb:bad s p=false):Lib.encodeRune ((Utf8.decode s p).1:Int)=sl s p (wd s p):=by
 have hne:s.data.toList.drop p≠[]:=by
  intro e
  have:=congrArg List.length e
  rw [List.length_drop,bG] at this
  simp at this;omega
 have:=Lib.encode_decode (s.data.toList.drop p) hne (by
  rw [aM6]
  rintro ⟨h1,h2⟩
  have:bad s p=true:=by
   unfold bad
   rw [decide_eq_true_eq]
   exact Prod.ext h1 h2
  rw [hb] at this;cases this)
 rw [aM6] at this
 exact this
theorem kY(s:ByteArray)(p:Nat):Lib.validRune ((Utf8.decode s p).1:Int)=true:=by
 have q0:=iJ s p
 rw [fK]
 unfold Lib.validRune
 rw [decide_eq_true_eq]
 rcases fL (s.size - p) (bt s p) (bt s (p+1)) (bt s (p+2)) (bt s (p+3)) with k | ⟨_,k⟩ | ⟨_,_,_,_,k⟩ | ⟨_,_,_,_,_,_,k⟩ | ⟨_,_,_,_,_,_,_,k⟩
 all_goals (rw [k];simp only;omega)
theorem iG{s:ByteArray}{p n i:Nat}{l:List UInt8}(h:sl s p n=l)(hi:i < l.length):bt s (p+i)=(l[i]).toNat/\i < s.size - p:=by
 have hl:i < ((s.data.toList.drop p).take n).length:=by rw [show (s.data.toList.drop p).take n=l from h];exact hi
 have hl':=hl
 rw [List.length_take,List.length_drop,bG] at hl'
 have e:l[i]?=s.data.toList[p+i]?:=by
  rw [<- h,sl,List.getElem?_take_of_lt (by omega),List.getElem?_drop]
 rw [List.getElem?_eq_getElem hi] at e
 refine⟨?_,by omega⟩
 unfold bt
 rw [List.getD_eq_getElem?_getD,<- e]
 rfl
theorem iY{s:ByteArray}{p:Nat}{c:Int}(hc:0<=c/\c<=1114111/\(c < 55296\/57343 < c))(h:sl s p (Lib.encodeRune c).length=Lib.encodeRune c):((Utf8.decode s p).1:Int)=c/\wd s p=(Lib.encodeRune c).length/\bad s p=false:=by
 obtain⟨r0,r1,r2⟩:=hc
 have key:∀ (m:Nat),Utf8.decode s p=(c.toNat,m)->(c.toNat,m)≠((65533,1):Nat × Nat)->((Utf8.decode s p).1:Int)=c/\wd s p=m/\bad s p=false:=fun m e hne=>by
  refine⟨by rw [e];simp only;omega,by unfold wd;rw [e],?_⟩
  unfold bad
  rw [e]
  simpa using hne
 by_cases h1:c<=127
 ·have hE:Lib.encodeRune c=[c].map fun x=>x.toNat.toUInt8:=by rw [Lib.encodeRune,Lib.encodeRuneZ_one r0 h1]
  rw [hE] at h ⊢
  obtain⟨b0,s0⟩:=iG h (i:=0) (by simp)
  simp at b0
  refine key 1 ?_ (by simp;omega)
  rw [fK]
  have:bt s p=c.toNat:=by omega
  rw [this]
  unfold Lib.decodeN
  rw [if_pos (by omega)]
 by_cases h2:c<=2047
 ·have hE:Lib.encodeRune c=[192+c / 64,128+c % 64].map fun x=>x.toNat.toUInt8:=by rw [Lib.encodeRune,Lib.encodeRuneZ_two (by omega) h2]
  rw [hE] at h ⊢
  obtain⟨b0,s0⟩:=iG h (i:=0) (by simp)
  obtain⟨b1,s1⟩:=iG h (i:=1) (by simp)
  simp at b0 b1
  refine key 2 ?_ (by simp)
  rw [fK]
  have e0:bt s p=192+c.toNat / 64:=by omega
  have e1:bt s (p+1)=128+c.toNat % 64:=by omega
  have hl:c.toNat<=2047:=by omega
  have hg:128<=c.toNat:=by omega
  rw [e0,e1]
  generalize c.toNat=m at *
  unfold Lib.decodeN
  rw [if_neg (by omega),if_pos (by omega),if_pos (by omega)]
  apply Prod.ext <;> simp only <;> omega
 by_cases h3:c<=65535
 ·have hE:Lib.encodeRune c=[224+c / 4096,128+c / 64 % 64,128+c % 64].map fun x=>x.toNat.toUInt8:=by rw [Lib.encodeRune,Lib.encodeRuneZ_three (by omega)]
  rw [hE] at h ⊢
  obtain⟨b0,s0⟩:=iG h (i:=0) (by simp)
  obtain⟨b1,s1⟩:=iG h (i:=1) (by simp)
  obtain⟨b2,s2⟩:=iG h (i:=2) (by simp)
  simp at b0 b1 b2
  refine key 3 ?_ (by simp)
  rw [fK]
  have e0:bt s p=224+c.toNat / 4096:=by omega
  have e1:bt s (p+1)=128+c.toNat / 64 % 64:=by omega
  have e2:bt s (p+2)=128+c.toNat % 64:=by omega
  have hl:c.toNat<=65535:=by omega
  have hg:2048<=c.toNat:=by omega
  have hv:c.toNat < 55296\/57344<=c.toNat:=by omega
  rw [e0,e1,e2]
  generalize c.toNat=m at *
  unfold Lib.decodeN
  rw [if_neg (by omega),if_neg (by omega),if_pos (by omega),if_pos (by omega)]
  apply Prod.ext <;> simp only <;> omega
 ·have hE:Lib.encodeRune c=[240+c / 262144,128+c / 4096 % 64,128+c / 64 % 64,128+c % 64].map fun x=>x.toNat.toUInt8:=by rw [Lib.encodeRune,Lib.encodeRuneZ_four (by omega) (by omega)]
  rw [hE] at h ⊢
  obtain⟨b0,s0⟩:=iG h (i:=0) (by simp)
  obtain⟨b1,s1⟩:=iG h (i:=1) (by simp)
  obtain⟨b2,s2⟩:=iG h (i:=2) (by simp)
  obtain⟨b3,s3⟩:=iG h (i:=3) (by simp)
  simp at b0 b1 b2 b3
  refine key 4 ?_ (by simp)
  rw [fK]
  have e0:bt s p=240+c.toNat / 262144:=by omega
  have e1:bt s (p+1)=128+c.toNat / 4096 % 64:=by omega
  have e2:bt s (p+2)=128+c.toNat / 64 % 64:=by omega
  have e3:bt s (p+3)=128+c.toNat % 64:=by omega
  have hl:c.toNat<=1114111:=by omega
  have hg:65536<=c.toNat:=by omega
  rw [e0,e1,e2,e3]
  generalize c.toNat=m at *
  unfold Lib.decodeN
  rw [if_neg (by omega),if_neg (by omega),if_neg (by omega),if_pos (by omega),if_pos (by omega)]
  apply Prod.ext <;> simp only <;> omega
end
section
open Go
def bB(n:Nat):List UInt8:=if h:n < 10 then [UInt8.ofNat (48+n)] else bB (n / 10) ++ [UInt8.ofNat (48+n % 10)]
termination_by n
decreasing_by omega
theorem fH{n:Nat}(h:n < 10):bB n=[UInt8.ofNat (48+n)]:=by rw [bB];simp [h]
theorem qT{n:Nat}(h:¬ n < 10):bB n=bB (n / 10) ++ [UInt8.ofNat (48+n % 10)]:=by rw [bB];simp [h]
theorem mK:∀ (k n:Nat),n < 10 ^ k->1<=k->(bB n).length<=k
 | 0,n,h,h1=>by omega
 | k+1,n,h,_=>by
  by_cases h10:n < 10
  ·rw [fH h10];simp
  ·rw [qT h10,List.length_append,List.length_singleton]
   have h2:n / 10 < 10 ^ k:=by rw [Nat.pow_succ] at h;omega
   cases k with
   | zero=>simp at h2;omega
   | succ k=>have:=mK (k+1) (n / 10) h2 (by omega);omega
end
section
open Go
def spE(x:Int):Bool:=x==93 || x==91 || x==45 || x==94
def cU(x:Int):List Int:=if spE x then [91,46,x,46,93] else [x]
def eN(r:Int × Int):List Int:=cU r.1 ++ (if r.1 < r.2 then 45 :: cU r.2 else [])
def cF:List (Int × Int)->List Int
 | []=>[]
 | r :: l=>eN r ++ cF l
def cM(c:Bool):List (Int × Int):=if c then [(0,55295),(57344,1114111)] else [(0,255)]
def spA(x:Int):Bool:=x==46 || x==91 || x==42 || x==94 || x==36 || x==92
def dB(x:Int):List Int:=if spA x then [92,x] else [x]
def dQ(c:Bool)(L:List (Int × Int)):List Int:=
 if L=[] then [91,94] ++ cF (cM c) ++ [93]
 else if L=cM c then [46]
 else if L.length=1/\(L.headD (0,0)).1=(L.headD (0,0)).2 then dB (L.headD (0,0)).1
 else [91] ++ cF L ++ [93]
def eU(c:Bool)(x:Int):List UInt8:=if c then Lib.encodeRune x else [UInt8.ofNat x.toNat]
def aY(c:Bool)(l:List Int):List UInt8:=l.flatMap (eU c)
def dA(c:Bool)(L:List (Int × Int)):List UInt8:=aY c (dQ c L)
theorem fB(c:Bool)(a b:List Int):aY c (a ++ b)=aY c a ++ aY c b:=by simp [aY]
theorem hZ(c:Bool)(x:Int)(b:List Int):aY c (x :: b)=eU c x ++ aY c b:=by simp [aY]
theorem wQ{x:Int}(h0:0<=x)(h1:x<=255):((UInt8.ofNat x.toNat).toNat:Int)=x:=by
 rw [UInt8.toNat_ofNat']
 omega
theorem aE2(c:Bool)(x:Int):(eU c x).length<=4:=by
 unfold eU
 split
 ·have:=(Lib.runeCells_le x).2
  rwa [Lib.runeCells_length] at this
 ·simp
theorem gI(c:Bool)(l:List Int):(aY c l).length<=4 * l.length:=by
 induction l with
 | nil=>simp [aY]
 | cons x l ih=>rw [hZ,List.length_append,List.length_cons];have:=aE2 c x;omega
theorem vA{x:Int}(h:spE x=true):x=93\/x=91\/x=45\/x=94:=by
 simp only [spE,Bool.or_eq_true,beq_iff_eq] at h
 omega
def nF(c:Bool)(r:Int × Int):Prop:=aN c r.1/\aN c r.2/\r.1<=r.2
theorem nB(c:Bool):∀ r∈cM c,nF c r:=by
 intro r hr
 unfold nF aN
 cases c with
 | true=>
  simp only [cM,if_true,List.mem_cons,List.not_mem_nil,or_false,top] at hr ⊢
  rcases hr with rfl | rfl <;> simp
 | false=>
  simp only [cM,Bool.false_eq_true,if_false,List.mem_cons,List.not_mem_nil,or_false,top] at hr ⊢
  subst hr;simp
theorem aK4(c:Bool)(x:Int):In (cM c) x ↔ aN c x:=by
 unfold aN cM top
 cases c with
 | true=>simp only [if_true,bK,dN,or_false,true_imp_iff];omega
 | false=>simp only [Bool.false_eq_true,if_false,bK,dN,or_false,false_imp_iff,and_true]
theorem lC(c:Bool):IsC (cM c) (aN c):=by
 refine⟨?_,?_,aK4 c⟩
 ·cases c with
  | true=>exact⟨fun r hr=>(nB true r hr).2.2,by simp [cM]⟩
  | false=>exact⟨fun r hr=>(nB false r hr).2.2,by simp [cM]⟩
 ·intro r hr
  have:=nB c r hr
  unfold nF aN top at this
  cases c <;> simp only [if_true,Bool.false_eq_true,if_false] at this <;> omega
theorem iL{c f:Bool}{L:List (Int × Int)}(h:kN c f L):∀ r∈L,nF c r:=by
 intro r hr
 have hs:=h.1.cls.some r hr
 exact⟨((h.1.mem r.1).1 ⟨r,hr,Int.le_refl _,hs⟩).2,((h.1.mem r.2).1 ⟨r,hr,hs,Int.le_refl _⟩).2,hs⟩
end
theorem nW:(Tryz.prog.info? 21).map (fun i=>(i.zero,i.size,i.bytes))=some (some (.int .i32 0),1,4):=by kernel_rfl
theorem eG:Tryz.prog.underlying 87=some (.slice 21):=by kernel_rfl
def rns(l:List Int):List Value:=l.map (Value.int .i32)
theorem oY(l:List Int):(rns l).length=l.length:=by simp [rns]
theorem aB0(a b:List Int):rns (a ++ b)=rns a ++ rns b:=by simp [rns]
abbrev RO(base:Nat)(w:World)(v:Value)(l:List Int):Prop:=w.ownsRow base 21 1 v l.length (rns l)
theorem RO.of{base n:Nat}{w:World}{v:Value}{a b:List Int}(h:w.ownsRow base 21 1 v n (rns a ++ rns b)):RO base w v (a ++ b):=by
 have e:n=(a ++ b).length:=by have:=h.1;simp [oY] at this;simp;omega
 rw [e] at h
 unfold RO
 rw [aB0]
 exact h
theorem iC{base n size:Nat}{w w6:World}{v:Value}{xs:List Value}{t:TypeId}(ho:w.ownsRow base t size v n xs)(hg:w.grownBy w6 v.ownBlock)(hb:base<=w.heap.size):Below base w w6:=
 ((Fr.refl (blk v) w).grown hg fun _ hk=>hk).below hb (fun _ hk=>(aH ho hk).1)
abbrev Kr(w w':World):Prop:=Lib.OthersKept 21 none w w'
theorem yK{base n:Nat}{w w6:World}{v:Value}{xs:List Value}{o:Obj}(ho:w.ownsRow base 21 1 v n xs)(hg:(w.alloc o).grownBy w6 v.ownBlock):Kr w w6:=
 ((Lib.OthersKept.refl _ _ w).alloc o).grown hg (Lib.ownsRowF_kind (World.ownsRowF_of (World.ownsRow.alloc ho o)))
theorem gH(x:Int):(cU x).length<=5:=by unfold cU;split <;> simp
theorem nC{base:Nat}{w:World}{v:Value}{l:List Int}(x:Int)(h:RO base w v l)(hl:l.length<=1000000000000)(hb:base<=w.heap.size) :
  Calls Tryz.prog 132 #[v,.int .i32 x] w fun e w'=>∃ v',e=.returned v'/\RO base w' v' (l ++ cU x)/\Below base w w'/\Kr w w':=by
 obtain⟨t0,hi,hz0,hz1,hz2⟩:=aQ nW
 obtain⟨q,c,rfl⟩:=aL h
 have H:Hid (RO base w (.slice q l.length c) l):=h
 have HB:Hid (base<=w.heap.size):=hb
 clear h
 cases hs:spE x with
 | true=>
  have E:Hid (cU x=[91,46,x,46,93]):=by show cU x=_;unfold cU;rw [hs];rfl
  rcases vA hs with rfl | rfl | rfl | rfl
  all_goals
   clear hs
   go_enter Tryz.func132,Tryz.ntmps132
   go_wp2_with (at_builtin;refine wpList_append_own_at _ rfl _ _ 87 rfl base 21 t0 (.int .i32 0) 1 4 eG hi hz0 hz1 hz2 rfl (by decide) (.slice q l.length c) l.length (rns l) rfl (World.ownsRow.alloc H.out _) ⟨w.heap.size,0,none⟩ 5 5 (rns [91,46,_,46,93]) rfl rfl (mJ _ #[.int .i32 91,.int .i32 46,.int .i32 _,.int .i32 46,.int .i32 93] _) (by simp [rns,Value.oneCell']) (by unfold maxLen;omega) (by omega) (by simp;omega) ?_;intro v' w6 hown' hgrow _ hblk;have A6:Hid (RO base w6 v' (l ++ [91,46,_,46,93])):=RO.of hown';have B6:Hid (Below base w w6):=((Below.refl base w).alloc HB.out _).trans (iC (World.ownsRow.alloc H.out _) hgrow (by simp;omega));have K6:Hid (Kr w w6):=yK H.out hgrow;obtain⟨q6,c6,rfl⟩:=aL hown';clear hown' hgrow hblk)
   go_ret
   exact⟨_,rfl,by rw [E.out];exact A6.out,B6.out,K6.out⟩
 | false=>
  have E:Hid (cU x=[x]):=by show cU x=_;unfold cU;rw [hs];rfl
  simp only [spE,Bool.or_eq_false_iff] at hs
  obtain⟨⟨⟨h1,h2⟩,h3⟩,h4⟩:=hs
  go_enter Tryz.func132,Tryz.ntmps132
  go_wp2_with (at_builtin;refine wpList_append_own_at _ rfl _ _ 87 rfl base 21 t0 (.int .i32 0) 1 4 eG hi hz0 hz1 hz2 rfl (by decide) (.slice q l.length c) l.length (rns l) rfl (World.ownsRow.alloc H.out _) ⟨w.heap.size,0,none⟩ 1 1 (rns [x]) rfl rfl (mJ _ #[.int .i32 x] _) (by simp [rns,Value.oneCell']) (by unfold maxLen;omega) (by omega) (by simp;omega) ?_;intro v' w6 hown' hgrow _ hblk;have A6:Hid (RO base w6 v' (l ++ [x])):=RO.of hown';have B6:Hid (Below base w w6):=((Below.refl base w).alloc HB.out _).trans (iC (World.ownsRow.alloc H.out _) hgrow (by simp;omega));have K6:Hid (Kr w w6):=yK H.out hgrow;obtain⟨q6,c6,rfl⟩:=aL hown';clear hown' hgrow hblk)
  go_ret
  exact⟨_,rfl,by rw [E.out];exact A6.out,B6.out,K6.out⟩
theorem nZ(l:List (Int × Int))(r:Int × Int):cF (l ++ [r])=cF l ++ eN r:=by
 induction l with
 | nil=>simp [cF]
 | cons x l ih=>rw [List.cons_append,cF,cF,ih,List.append_assoc]
theorem xJ(r:Int × Int):(eN r).length<=11:=by
 unfold eN
 have:=gH r.1
 have:=gH r.2
 split <;> simp <;> omega
theorem jJ(l:List (Int × Int)):(cF l).length<=11 * l.length:=by
 induction l with
 | nil=>simp [cF]
 | cons x l ih=>rw [cF,List.length_append,List.length_cons];have:=xJ x;omega
theorem sB{x:Int}(h0:0<=x)(h1:x<=1114111):IntKind.wrap .i32 x=x:=by rw [IntKind.wrap_i32];omega
theorem yB(W:World)(a:Value)(t:TypeId):∀ (j:Nat) (u:Value),[a][j]?=some u->(W.alloc (.cells #[a] t)).cell? ((⟨W.heap.size,0,none⟩:Addr).add j)=some u:=mJ W #[a] t
theorem fR{W0 w:World}{v vL:Value}{a:List Int}{L:List (Int × Int)}(hA:ArgR W0 vL L)(hb:Below W0.heap.size W0 w)(h:RO W0.heap.size w v a)(hl:L.length<=600000)(ha:a.length<=10)(hF:∀ r∈L,0<=r.1/\r.1<=1114111/\0<=r.2/\r.2<=1114111) :
  Calls Tryz.prog 89 #[v,vL] w fun e w'=>∃ v',e=.returned v'/\RO W0.heap.size w' v' (a ++ cF L ++ [93])/\Below W0.heap.size W0 w':=by
 obtain⟨t0,hi,hz0,hz1,hz2⟩:=aQ nW
 obtain⟨q,cap,rfl,hlen,-,hcells⟩:=hA.slice
 have HC:Hid (∀ (i:Nat) (r:Int × Int),L[i]?=some r->∃ g off,q=some ⟨g,off,none⟩/\g < W0.heap.size/\W0.cell? ⟨g,off+2 * i,none⟩=some (.int .i64 r.1)/\W0.cell? ⟨g,off+2 * i+1,none⟩=some (.int .i64 r.2)):=hcells
 have HF:Hid (∀ r∈L,0<=r.1/\r.1<=1114111/\0<=r.2/\r.2<=1114111):=hF
 have H0:Hid (RO W0.heap.size w v a/\Below W0.heap.size W0 w):=⟨h,hb⟩
 obtain⟨q0,c0,rfl⟩:=aL h
 unfold maxLen at hlen
 clear hA hcells hF h hb
 go_enter Tryz.func89,Tryz.ntmps89
 go_wp2
 go_loopw [0,9] (fun t i wr=>∃ k:Nat,k<=L.length/\i=.int .i64 (k:Int)/\RO W0.heap.size wr t (a ++ cF (L.take k))/\Below W0.heap.size W0 wr) (fun _ i _=>L.length - (intOf i).toNat)
 case atStart=>exact⟨0,Nat.zero_le _,rfl,by simpa [cF] using H0.out.1,H0.out.2⟩
 case round=>
  obtain⟨k,hk,rfl,hO,hB⟩:=hrel
  obtain⟨qr,cr,rfl⟩:=aL hO
  have O:Hid _:=hO
  have B:Hid _:=hB
  have hsz:=hB.size
  obtain⟨N,hN⟩:∃ N,(a ++ cF (L.take k)).length=N:=⟨_,rfl⟩
  have hNl:N<=6600010:=by
   rw [<- hN,List.length_append]
   have:=jJ (L.take k)
   have:(L.take k).length<=L.length:=by simp;omega
   omega
  obtain⟨M,hM⟩:∃ M,a ++ cF (L.take k)=M:=⟨_,rfl⟩
  have HM:Hid (a ++ cF (L.take k)=M):=hM
  rw [hM] at O hN ⊢
  subst hN
  clear hO hB hM
  by_cases hlt:k < L.length
  ·obtain⟨r,hr⟩:∃ r,L[k]?=some r:=⟨_,List.getElem?_eq_getElem hlt⟩
   obtain⟨g,off,rfl,hg,x1,x2⟩:=HC.out k r hr
   have d1:=(B.out.cell (p:=⟨g,off+2 * k,none⟩) hg).trans x1
   have d2:=(B.out.cell (p:=⟨g,off+2 * k+1,none⟩) hg).trans x2
   rw [Nat.mul_comm] at d1 d2
   have hgr:g < wr.heap.size:=Nat.lt_of_lt_of_le hg hsz
   have NX:Hid (a ++ cF (L.take (k+1))=M ++ eN r):=by
    show a ++ cF (L.take (k+1))=M ++ eN r
    obtain⟨hk',rfl⟩:=List.getElem?_eq_some_iff.1 hr
    rw [bL L k hk',nZ,<- List.append_assoc,HM.out]
   obtain⟨f0,f1,f2,f3⟩:=HF.out r (List.mem_of_getElem? hr)
   have i0:(0:Int)<=(k:Int):=by omega
   have i1:(k:Int) < (L.length:Int):=by omega
   have hwr:IntKind.wrap .i64 ((k:Int)+1)=(k:Int)+1:=wrap_small _ (by omega) (by omega)
   clear x1 x2 hr
   obtain⟨lo,hi'⟩:=r
   dsimp only at d1 d2 f0 f1 f2 f3
   have w1:=sB f0 f1
   have w2:=sB f2 f3
   have OA:Hid (RO W0.heap.size (wr.alloc (.cells #[.int .i64 lo,.int .i64 hi'] 48)) (.slice qr M.length cr) M):=World.ownsRow.alloc O.out _
   have BA:Hid (Below W0.heap.size W0 (wr.alloc (.cells #[.int .i64 lo,.int .i64 hi'] 48))):=B.out.alloc hsz _
   have XA:Hid ((wr.alloc (.cells #[.int .i64 lo,.int .i64 hi'] 48)).heap[wr.heap.size]?=some (.cells #[.int .i64 lo,.int .i64 hi'] 48 (0,0))):=aF wr _
   obtain⟨M5,hM5⟩:∃ M5,M ++ cU lo=M5:=⟨_,rfl⟩
   have HM5:Hid (M ++ cU lo=M5):=hM5
   have hl5:M5.length<=6600015:=by rw [<- hM5,List.length_append];have:=gH lo;omega
   clear hM5
   by_cases hgt:lo < hi'
   ·have E:Hid (eN (lo,hi')=cU lo ++ 45 :: cU hi'):=by show eN (lo,hi')=_;unfold eN;rw [if_pos hgt]
    go_upto_region 6 with (go_at_call 132;refine(nC lo OA.out (by omega) (by simp;omega)).mono ?_;rintro e w5 ⟨v5,rfl,h51,h52,h53⟩;rw [HM5.out] at h51;have O5:Hid (RO W0.heap.size w5 v5 M5):=h51;have B5:Hid (Below W0.heap.size W0 w5):=BA.out.trans h52;have X5:Hid (w5.heap[wr.heap.size]?=some (.cells #[.int .i64 lo,.int .i64 hi'] 48 (0,0))):=h53 _ _ XA.out (by simp) (fun c fz e=>by cases e);have c50:=aA X5.out (i:=0) rfl;have c51:=aA X5.out (i:=1) rfl;have l5:=aC X5.out;obtain⟨q5,k5,rfl⟩:=aL h51;clear h51 h52 h53)
    have hs5:W0.heap.size<=w5.heap.size:=B5.out.size
    go_region_law first
     |(refine cO rfl _ _ 87 rfl W0.heap.size 21 t0 (.int .i32 0) 1 4 eG hi hz0 hz1 hz2 rfl (by decide) (.slice q5 M5.length k5) M5.length _ (by first | rfl | simp [Act.eval,Act.put]) (World.ownsRow.drew (World.ownsRow.alloc O5.out _)) ⟨w5.heap.size,0,none⟩ 1 1 (rns [45]) (by first | rfl | simp [Act.eval,Act.put]) rfl (yB _ _ _) (by simp [rns,Value.oneCell']) (by unfold maxLen;omega) (by omega) (by simp;omega) ?_;intro v' w6 hown' hgrow hblk;have O6:Hid (RO W0.heap.size w6 v' (M5 ++ [45])):=RO.of hown';have B6:Hid (Below W0.heap.size W0 w6):=((B5.out.alloc hs5 _).drew).trans (iC (World.ownsRow.drew (World.ownsRow.alloc O5.out _)) hgrow (by simp;omega));have K6:Hid (Kr w5 w6):=(((Lib.OthersKept.refl _ _ w5).alloc _).drew).grown hgrow (Lib.ownsRowF_kind (World.ownsRowF_of (World.ownsRow.drew (World.ownsRow.alloc O5.out _))));have X6:Hid (w6.heap[wr.heap.size]?=some (.cells #[.int .i64 lo,.int .i64 hi'] 48 (0,0))):=K6.out _ _ X5.out (by simp) (fun c fz e=>by cases e);have c60:=aA X6.out (i:=0) rfl;have c61:=aA X6.out (i:=1) rfl;obtain⟨q6,k6,rfl⟩:=aL hown';clear hown' hgrow hblk)
     |(go_simp;go_at_call 132;refine(nC hi' O6.out (by simp;omega) B6.out.size).mono ?_;rintro e w7 ⟨v7,rfl,h71,h72,h73⟩;have O7:Hid (RO W0.heap.size w7 v7 (M5 ++ [45] ++ cU hi')):=h71;have B7:Hid (Below W0.heap.size W0 w7):=B6.out.trans h72;clear h71 h72 h73)
    all_goals go_wp2
    all_goals
     refine⟨⟨k+1,by omega,by go_num,?_,B7.out⟩,by simp [intOf];omega⟩
     rw [NX.out,E.out]
     have:=O7.out
     rw [<- HM5.out] at this
     simpa using this
   ·have E:Hid (eN (lo,hi')=cU lo):=by show eN (lo,hi')=_;unfold eN;rw [if_neg hgt,List.append_nil]
    go_wp2_with (go_at_call 132;refine(nC lo OA.out (by omega) (by simp;omega)).mono ?_;rintro e w5 ⟨v5,rfl,h51,h52,h53⟩;rw [HM5.out] at h51;have O5:Hid (RO W0.heap.size w5 v5 M5):=h51;have B5:Hid (Below W0.heap.size W0 w5):=BA.out.trans h52;have X5:Hid (w5.heap[wr.heap.size]?=some (.cells #[.int .i64 lo,.int .i64 hi'] 48 (0,0))):=h53 _ _ XA.out (by simp) (fun c fz e=>by cases e);have c50:=aA X5.out (i:=0) rfl;have c51:=aA X5.out (i:=1) rfl;obtain⟨q5,k5,rfl⟩:=aL h51;clear h51 h52 h53)
    go_roundw
    case rel=>exact⟨k+1,by omega,by go_num,by rw [NX.out,E.out,HM5.out];exact O5.out,B5.out⟩
    case measure=>simp [intOf];omega
  ·obtain rfl:k=L.length:=by omega
   have i1:¬ (L.length:Int) < (L.length:Int):=by omega
   have NX:Hid (a ++ cF L=M):=by show a ++ cF L=M;rw [<- HM.out,List.take_length]
   go_wp2_with (at_builtin;refine wpList_append_own_at _ rfl _ _ 87 rfl W0.heap.size 21 t0 (.int .i32 0) 1 4 eG hi hz0 hz1 hz2 rfl (by decide) (.slice qr M.length cr) M.length (rns M) rfl (World.ownsRow.alloc O.out _) ⟨wr.heap.size,0,none⟩ 1 1 (rns [93]) rfl rfl (yB _ _ _) (by simp [rns,Value.oneCell']) (by unfold maxLen;omega) (by omega) (by simp;omega) ?_;intro v' w6 hown' hgrow _ hblk;have A6:Hid (RO W0.heap.size w6 v' (M ++ [93])):=RO.of hown';have B6:Hid (Below W0.heap.size W0 w6):=(B.out.alloc hsz _).trans (iC (World.ownsRow.alloc O.out _) hgrow (by simp;omega));obtain⟨q6,c6,rfl⟩:=aL hown';clear hown' hgrow hblk)
   go_ret
   exact⟨_,rfl,by first |(rw [NX.out];exact A6.out) |(rw [<- List.append_assoc,NX.out];exact A6.out),B6.out⟩
theorem jF:(Tryz.prog.info? 5).map (fun i=>(i.zero,i.size,i.bytes))=some (some (.int .u8 0),1,1):=by kernel_rfl
theorem gQ:Tryz.prog.underlying 52=some (.slice 5):=by kernel_rfl
theorem oR:Tryz.prog.underlying 9=some .string:=by kernel_rfl
theorem sE:Tryz.prog.underlying 51=some (.pointer 54):=by kernel_rfl
theorem wP:Tryz.prog.underlying 172=some .unsafePointer:=by kernel_rfl
theorem xA:(Tryz.prog.info? 54).map (·.size)=some 2:=by kernel_rfl
def txt(l:List UInt8):ByteArray:=⟨l.toArray⟩
theorem aD(l:List UInt8):(txt l).size=l.length:=by simp [txt,ByteArray.size]
theorem uX(l:List UInt8):Lib.strCells (txt l)=Lib.byteCells l:=rfl
abbrev OB(base:Nat)(w:World)(v:Value)(l:List UInt8):Prop:=w.ownsRow base 5 1 v l.length (Lib.byteCells l)
structure BT(T:TypeId)(k:Nat):Prop where
 ne:T≠5
 lies:liesAt Tryz.prog Tryz.prog.depth T ((k+2) / Tryz.prog.cellsOf T) k 54 1=true
theorem bt0:BT 54 0:=⟨by decide,by kernel_rfl⟩
theorem bt2:BT 56 2:=⟨by decide,by kernel_rfl⟩
abbrev Oth(b:Nat)(w w':World):Prop:=Lib.OthersKept 5 (some b) w w'
def BL(T:TypeId)(base:Nat)(w:World)(b:Nat)(pre:List Value)(l:List UInt8):Prop:=
 ∃ p v,w.heap[b]?=some (.cells (pre ++ [p,v]).toArray T (0,0))/\(p=.pointer none\/p=.pointer (some ⟨b,pre.length,none⟩))/\OB base w v l/\(l=[]->v=.slice none 0 0)/\base<=b
theorem iQ{w:World}{b:Nat}{T:TypeId}{pre:List Value}{p v:Value}(h:w.heap[b]?=some (.cells (pre ++ [p,v]).toArray T (0,0))) :
  w.cell? ⟨b,pre.length,none⟩=some p/\w.cell? ⟨b,pre.length+1,none⟩=some v/\∀ i,w.frozen? ⟨b,i,none⟩=false:=
 ⟨aA h (by simp),aA h (by simp),bE h⟩
theorem pC{w:World}{b:Nat}{T:TypeId}{pre:List Value}{p v:Value}(h:w.heap[b]?=some (.cells (pre ++ [p,v]).toArray T (0,0)))(q:Value) :
  (w.setCell ⟨b,pre.length,none⟩ q).heap[b]?=some (.cells (pre ++ [q,v]).toArray T (0,0))/\(w.setCell ⟨b,pre.length+1,none⟩ q).heap[b]?=some (.cells (pre ++ [p,q]).toArray T (0,0)):=by
 refine⟨(aU h _ _).trans ?_,(aU h _ _).trans ?_⟩
 ·congr 2
  apply Array.ext'
  simp
 ·congr 2
  apply Array.ext'
  simp
theorem mI{base:Nat}{w:World}{v:Value}{l:List UInt8}{b:Nat}{cs:Array Value}{T:TypeId}(h:OB base w v l)(hb:w.heap[b]?=some (.cells cs T (0,0)))(hT:T≠5):v.ownBlock≠some b:=bX h hb hT
theorem tF{base:Nat}{w:World}{v:Value}{l:List UInt8}{b:Nat}(h:OB base w v l)(hn:v.ownBlock≠some b)(i:Nat)(q:Value):OB base (w.setCell ⟨b,i,none⟩ q) v l:=
 aO h ((Fr.refl (fun z=>z=b) w).setCell (p:=⟨b,i,none⟩) rfl q) (fun k hk e=>hn (by rw [hk,e]))
def aK7(T:TypeId)(base:Nat)(w:World)(b:Nat)(pre:List Value)(l:List UInt8)(e:Ending)(w':World):Prop:=
 e=.returned (.tuple #[])/\(∃ v,w'.heap[b]?=some (.cells (pre ++ [.pointer (some ⟨b,pre.length,none⟩),v]).toArray T (0,0))/\OB base w' v l/\(l=[]->v=.slice none 0 0)/\base<=b)/\Below base w w'/\Oth b w w'
theorem lJ{T:TypeId}{base:Nat}{w:World}{b:Nat}{pre:List Value}{l:List UInt8}(hT:BT T pre.length)(h:BL T base w b pre l) :
  Calls Tryz.prog 81 #[.pointer (some ⟨b,pre.length,none⟩)] w (aK7 T base w b pre l):=by
 obtain⟨p,v,h1,h2,h3,h4,h5⟩:=h
 obtain⟨c0,c1,fz⟩:=iQ h1
 obtain⟨j,hj,hjs⟩:=Option.map_eq_some_iff.1 xA
 have H:Hid (w.heap[b]?=some (.cells (pre ++ [p,v]).toArray T (0,0))/\OB base w v l/\(l=[]->v=.slice none 0 0)/\base<=b):=⟨h1,h3,h4,h5⟩
 have hsh:w.shape? b=some (T,pre.length+2):=by simp [World.shape?,h1]
 clear h1 h3 h4 h5
 obtain⟨k,hk⟩:∃ k,pre.length=k:=⟨_,rfl⟩
 have lies:=hT.lies
 have HK:Hid (pre.length=k):=hk
 rw [hk] at c0 c1 h2 hsh lies ⊢
 clear hk
 rcases h2 with rfl | rfl
 ·have fz0:=fz k
  go_enter Tryz.func81,Tryz.ntmps81
  go_wp2
  rw [Lib.run_to_unsafe w ⟨b,k,none⟩ sE wP hj (by rw [hjs];decide) hsh (by simp only;omega)]
  simp only [Result.andThen]
  rw [Oper.upon_value]
  go_wp2
  rw [run_callFunc_extern Tryz.func118 (by kernel_rfl) (by kernel_rfl) (by kernel_rfl) (e:=Extern.AbiNoEscape.same) (by kernel_rfl)]
  rw [Lib.run_noEscape]
  simp only [Result.andThen]
  rw [Oper.upon_value]
  go_wp2
  rw [Lib.run_from_unsafe w ⟨b,k,none⟩ wP sE hj hsh lies]
  simp only [Result.andThen]
  rw [Oper.upon_value]
  go_wp2
  go_end0
  rw [<- HK.out]
  refine⟨rfl,⟨v,(pC H.out.1 _).1,tF H.out.2.1 (mI H.out.2.1 H.out.1 hT.ne) _ _,H.out.2.2.1,H.out.2.2.2⟩,(Below.refl base w).setCell (p:=⟨b,_,none⟩) H.out.2.2.2 _,(Lib.OthersKept.refl _ _ w).setCell ⟨b,_,none⟩ rfl _⟩
 ·go_enter Tryz.func81,Tryz.ntmps81
  go_wp2
  rw [Lib.run_neq_ptr_same w _ sE hj]
  go_wp2
  go_end0
  exact⟨rfl,⟨v,by rw [HK.out];exact H.out.1,H.out.2⟩,Below.refl base _,Lib.OthersKept.refl _ _ _⟩
def kF(T:TypeId)(base:Nat)(w:World)(b:Nat)(pre:List Value)(l:List UInt8)(w':World):Prop:=BL T base w' b pre l/\Below base w w'/\Oth b w w'
theorem eT{T:TypeId}{base:Nat}{w:World}{b:Nat}{pre:List Value}{l:List UInt8}(hT:BT T pre.length)(h:BL T base w b pre l)(s:List UInt8)(hl:l.length+s.length<=140737488355328)(hb:base<=w.heap.size) :
  Calls Tryz.prog 36 #[.pointer (some ⟨b,pre.length,none⟩),.string (txt s)] w fun e w'=>e=.returned (.tuple #[.int .i64 (s.length:Int),.nilIface])/\kF T base w b pre (l ++ s) w':=by
 obtain⟨t0,hi,hz0,hz1,hz2⟩:=aQ jF
 have HC:=lJ hT h
 have hz:=aD s
 have HB:Hid (base<=w.heap.size):=hb
 obtain⟨k,hk⟩:∃ k,pre.length=k:=⟨_,rfl⟩
 have HK:Hid (pre.length=k):=hk
 rw [hk] at HC ⊢
 clear hk h
 go_enter Tryz.func36,Tryz.ntmps36
 go_wp2_with (go_at_call 81;(with_reducible refine HC.mono ?_))
 rintro e w1 ⟨rfl,⟨v,h1,h2,h3,h4⟩,h5,h6⟩
 obtain⟨c0,c1,fz⟩:=iQ h1
 rw [HK.out] at c0 c1
 have X1:Hid (w1.heap[b]?=some (.cells (pre ++ [.pointer (some ⟨b,pre.length,none⟩),v]).toArray T (0,0))/\OB base w1 v l/\(l=[]->v=.slice none 0 0)/\base<=b/\Below base w w1/\Oth b w w1):=⟨h1,h2,h3,h4,h5,h6⟩
 have hs1:=h5.size
 clear h1 h2 h3 h4 h5 h6
 go_wp2_with (at_builtin;refine Lib.wpList_append_own_string _ rfl _ _ 52 9 rfl base 5 t0 gQ oR hi hz0 hz1 hz2 _ _ _ rfl X1.out.2.1 (txt s) rfl ?c3 ?c4 ?c5 ?_)
 case c3=>rw [hz];unfold maxLen;omega
 case c4=>rw [hz];omega
 case c5=>omega
 intro v' w2 hown' hgrow hnil
 have hb2:w2.heap[b]?=some (.cells (pre ++ [.pointer (some ⟨b,pre.length,none⟩),v]).toArray T (0,0)):=by
  rw [hgrow.block b (aC X1.out.1) (fun e=>mI X1.out.2.1 X1.out.1 hT.ne e.symm)]
  exact X1.out.1
 obtain⟨d0,d1,fz2⟩:=iQ hb2
 rw [HK.out] at d0 d1
 have f1:=fz2 (k+1)
 rw [uX] at hown'
 have X2:Hid (w2.heap[b]?=some (.cells (pre ++ [.pointer (some ⟨b,pre.length,none⟩),v]).toArray T (0,0))/\w2.ownsRow base 5 1 v' (l.length+s.length) (Lib.byteCells l ++ Lib.byteCells s)/\w1.grownBy w2 v.ownBlock):=⟨hb2,hown',hgrow⟩
 have N2:Hid _:=hnil
 obtain⟨q2,k2,rfl⟩:=aL hown'
 clear hb2 hown' hgrow hnil
 go_wp2
 go_ret2
 have hO:OB base w2 (.slice q2 (l.length+s.length) k2) (l ++ s):=by
  unfold OB
  rw [List.length_append,show Lib.byteCells (l ++ s)=Lib.byteCells l ++ Lib.byteCells s by simp [Lib.byteCells]]
  exact X2.out.2.1
 refine⟨by first | rfl | rw [hz],⟨_,_,(by rw [<- HK.out];exact(pC X2.out.1 _).2),.inr rfl,?_,fun e=>?_,X1.out.2.2.2.1⟩,?_,?_⟩
 ·exact tF hO (mI hO X2.out.1 hT.ne) _ _
 ·obtain⟨e1,e2⟩:=List.append_eq_nil_iff.1 e
  exact N2.out.2 ⟨X1.out.2.2.1 e1,by simp [e2]⟩
 ·exact(X1.out.2.2.2.2.1.trans ((Below.refl base w1).grown X2.out.2.2 (by omega) (fun k hk=>(aH X1.out.2.1 hk).1))).setCell (p:=⟨b,_,none⟩) X1.out.2.2.2.1 _
 ·exact(X1.out.2.2.2.2.2.grown X2.out.2.2 (Lib.ownsRowF_kind (World.ownsRowF_of X1.out.2.1))).setCell ⟨b,_,none⟩ rfl _
theorem aJ1(W:World)(a:Value)(t:TypeId):∀ (j:Nat) (u:Value),[a][j]?=some u->(W.alloc (.cells #[a] t)).cell? ((⟨W.heap.size,0,none⟩:Addr).add j)=some u:=by
 intro j u h
 match j,h with
 | 0,h=>
  simp at h
  subst h
  have e:(⟨W.heap.size,0,none⟩:Addr).add 0=⟨W.heap.size,0,none⟩:=by simp [Addr.add]
  rw [e]
  exact aA (aF W _) rfl
theorem pX{T:TypeId}{base:Nat}{w:World}{b:Nat}{pre:List Value}{l:List UInt8}(hT:BT T pre.length)(h:BL T base w b pre l)(x:UInt8)(hl:l.length+1<=140737488355328)(hb:base<=w.heap.size) :
  Calls Tryz.prog 39 #[.pointer (some ⟨b,pre.length,none⟩),.int .u8 (x.toNat:Int)] w fun e w'=>e=.returned .nilIface/\kF T base w b pre (l ++ [x]) w':=by
 obtain⟨t0,hi,hz0,hz1,hz2⟩:=aQ jF
 have HC:=lJ hT h
 have HB:Hid (base<=w.heap.size):=hb
 obtain⟨k,hk⟩:∃ k,pre.length=k:=⟨_,rfl⟩
 have HK:Hid (pre.length=k):=hk
 rw [hk] at HC ⊢
 clear hk h
 go_enter Tryz.func39,Tryz.ntmps39
 go_wp2_with (go_at_call 81;(with_reducible refine HC.mono ?_))
 rintro e w1 ⟨rfl,⟨v,h1,h2,h3,h4⟩,h5,h6⟩
 obtain⟨c0,c1,fz⟩:=iQ h1
 rw [HK.out] at c0 c1
 have X1:Hid (w1.heap[b]?=some (.cells (pre ++ [.pointer (some ⟨b,pre.length,none⟩),v]).toArray T (0,0))/\OB base w1 v l/\(l=[]->v=.slice none 0 0)/\base<=b/\Below base w w1/\Oth b w w1):=⟨h1,h2,h3,h4,h5,h6⟩
 have hs1:=h5.size
 clear h1 h2 h3 h4 h5 h6
 go_wp2_with (at_builtin;refine wpList_append_own_at _ rfl _ _ 52 rfl base 5 t0 (.int .u8 0) 1 1 gQ hi hz0 hz1 hz2 rfl (by decide) _ _ _ rfl (World.ownsRow.alloc X1.out.2.1 _) ⟨w1.heap.size,0,none⟩ 1 1 (Lib.byteCells [x]) rfl rfl (aJ1 _ _ _) (by simp [Lib.byteCells,Value.oneCell']) ?c3 ?c4 ?c5 ?_)
 case c3=>unfold maxLen;omega
 case c4=>omega
 case c5=>simp;omega
 intro v' w2 hown' hgrow _ hblk
 have hb1':(w1.alloc (.cells #[.int .u8 (x.toNat:Int)] 5)).heap[b]?=some (.cells (pre ++ [.pointer (some ⟨b,pre.length,none⟩),v]).toArray T (0,0)):=(Below.heap_alloc w1 _ b (aC X1.out.1)).trans X1.out.1
 have hb2:w2.heap[b]?=some (.cells (pre ++ [.pointer (some ⟨b,pre.length,none⟩),v]).toArray T (0,0)):=by
  rw [hgrow.block b (aC hb1') (fun e=>mI X1.out.2.1 X1.out.1 hT.ne e.symm)]
  exact hb1'
 obtain⟨d0,d1,fz2⟩:=iQ hb2
 rw [HK.out] at d0 d1
 have f1:=fz2 (k+1)
 have X2:Hid (w2.heap[b]?=some (.cells (pre ++ [.pointer (some ⟨b,pre.length,none⟩),v]).toArray T (0,0))/\w2.ownsRow base 5 1 v' (l.length+1) (Lib.byteCells l ++ Lib.byteCells [x])/\(w1.alloc (.cells #[.int .u8 (x.toNat:Int)] 5)).grownBy w2 v.ownBlock):=⟨hb2,hown',hgrow⟩
 obtain⟨q2,k2,rfl⟩:=aL hown'
 clear hb2 hown' hgrow hblk hb1'
 go_wp2
 go_ret
 have hO:OB base w2 (.slice q2 (l.length+1) k2) (l ++ [x]):=by
  unfold OB
  rw [List.length_append,show Lib.byteCells (l ++ [x])=Lib.byteCells l ++ Lib.byteCells [x] by simp [Lib.byteCells]]
  exact X2.out.2.1
 refine⟨rfl,⟨_,_,(by rw [<- HK.out];exact(pC X2.out.1 _).2),.inr rfl,tF hO (mI hO X2.out.1 hT.ne) _ _,fun e=>(by simp at e),X1.out.2.2.2.1⟩,?_,?_⟩
 ·exact(X1.out.2.2.2.2.1.trans (((Below.refl base w1).alloc (by omega) _).grown X2.out.2.2 (by simp;omega) (fun k hk=>(aH X1.out.2.1 hk).1))).setCell (p:=⟨b,_,none⟩) X1.out.2.2.2.1 _
 ·exact((X1.out.2.2.2.2.2.alloc _).grown X2.out.2.2 (Lib.ownsRowF_kind (World.ownsRowF_of (World.ownsRow.alloc X1.out.2.1 _)))).setCell ⟨b,_,none⟩ rfl _
theorem aD0{T:TypeId}{base:Nat}{w:World}{b:Nat}{pre:List Value}{l:List UInt8}(h:BL T base w b pre l) :
  Calls Tryz.prog 56 #[.pointer (some ⟨b,pre.length,none⟩)] w fun e w'=>e=.returned (.int .i64 (l.length:Int))/\w'=w:=by
 obtain⟨p,v,h1,h2,h3,h4,h5⟩:=h
 obtain⟨c0,c1,fz⟩:=iQ h1
 obtain⟨q,c,rfl⟩:=aL h3
 clear h1 h2 h3 h4 h5
 obtain⟨k,hk⟩:∃ k,pre.length=k:=⟨_,rfl⟩
 rw [hk] at c0 c1 ⊢
 clear hk
 go_enter Tryz.func56,Tryz.ntmps56
 go_wp2
 go_ret
 exact⟨rfl,rfl⟩
theorem qB{T:TypeId}{base:Nat}{w:World}{b:Nat}{pre:List Value}{l:List UInt8}(h:BL T base w b pre l) :
  Calls Tryz.prog 25 #[.pointer (some ⟨b,pre.length,none⟩)] w fun e w'=>e=.returned (.string (txt l))/\Below base w w'/\Oth b w w':=by
 obtain⟨p,v,h1,h2,h3,h4,h5⟩:=h
 obtain⟨c0,c1,fz⟩:=iQ h1
 obtain⟨k,hk⟩:∃ k,pre.length=k:=⟨_,rfl⟩
 rw [hk] at c0 c1 ⊢
 clear hk h1 h2 h5
 have H3:Hid (OB base w v l):=h3
 by_cases h0:l=[]
 ·subst h0
  have hv:=h4 rfl
  subst hv
  have hUS:∀ W:World,(Builtin.unsafeString_ #[104,3] 9 #[.pointer none,.int .i64 0]).run Tryz.prog W=.ok (.string .empty) W:=fun W=>Lib.run_unsafeString_none W _ _ _ none
  have c1':w.drew.cell? ⟨b,k+1,none⟩=some (.slice none 0 0):=c1
  have hSD:(Builtin.unsafeSliceData_ #[52] 104 #[.slice none 0 0]).run Tryz.prog w.drew=.ok (.pointer none) w.drew:=rfl
  clear h3 h4
  go_enter Tryz.func25,Tryz.ntmps25
  go_wp2
  go_region
  all_goals (go_wp2;go_ret;exact⟨rfl,Below.drew (Below.refl base w),(Lib.OthersKept.refl _ _ w).drew⟩)
 ·have hl0:l.length≠0:=fun e=>h0 (List.eq_nil_of_length_eq_zero e)
  obtain⟨g,cap,cur,rfl,hbg,hg,hnc,hcm,hcs,htake⟩:∃ g cap cur,v=.slice (some ⟨g,0,none⟩) l.length cap/\base<=g/\w.heap[g]?=some (.cells cur 5 (0,0))/\l.length<=cap/\cap<=maxLen/\cur.size=cap * 1/\cur.toList.take (l.length * 1)=Lib.byteCells l:=by
   rcases h3.2 with⟨_,hz⟩ | ⟨g,cap,cur,hv,r⟩
   ·exact absurd hz hl0
   ·exact⟨g,cap,cur,hv,r⟩
  have c1':w.drew.cell? ⟨b,k+1,none⟩=some (.slice (some ⟨g,0,none⟩) l.length cap):=c1
  have hSD:(Builtin.unsafeSliceData_ #[52] 104 #[.slice (some ⟨g,0,none⟩) l.length cap]).run Tryz.prog w.drew=.ok (.pointer (some ⟨g,0,none⟩)) w.drew:=
   Lib.run_unsafeSliceData_row _ _ _ _ _ _ (by omega)
  have hUS:(Builtin.unsafeString_ #[104,3] 9 #[.pointer (some ⟨g,0,none⟩),.int .i64 (l.length:Int)]).run Tryz.prog w.drew=.ok (.string (txt l)) (w.drew.freeze ⟨g,0,none⟩ l.length):=by
   refine Lib.run_unsafeString_row w.drew 104 3 9 5 Tryz.underlying104 (by kernel_rfl) g cur.size (by have hg':w.drew.heap[g]?=some (.cells cur 5 (0,0)):=hg;simp [World.shape?,hg']) l h0 (by omega) (by unfold maxLen at hcm;omega) ?_
   intro j x hx
   exact H3.out.cells (g:=g) rfl j (.int .u8 x.toNat) (by simp [Lib.byteCells,hx])
  have HBG:Hid (base<=g/\w.heap[g]?=some (.cells cur 5 (0,0))):=⟨hbg,hg⟩
  clear h3 h4 hg hnc hcm hcs htake h0 hl0 hbg
  go_enter Tryz.func25,Tryz.ntmps25
  go_wp2
  go_region
  all_goals (go_wp2;go_ret;exact⟨rfl,Lib.below_freeze (Below.drew (Below.refl base w)) (p:=⟨g,0,none⟩) HBG.out.1 _,((Lib.OthersKept.refl _ _ w).drew).freeze ⟨g,0,none⟩ _ ⟨_,_,HBG.out.2⟩⟩)
theorem aK0{x:Int}(h:aN true x):Utf8.encode x=txt (Lib.encodeRune x):=by
 obtain⟨h0,h1,h2⟩:=h
 have h3:=h2 rfl
 simp only [top,if_true] at h1
 have hv:Utf8.valid x=true:=by rw [validRune_eq];unfold validRune;exact decide_eq_true (by omega)
 have u:∀ n:Nat,∀ z:Int,z=(n:Int)->UInt8.ofNat n=z.toNat.toUInt8:=fun n z e=>by rw [e,Int.toNat_natCast]
 unfold Utf8.encode Lib.encodeRune txt
 simp only [hv,if_true]
 split
 ·rw [Lib.encodeRuneZ_one h0 (by omega)]
  rfl
 ·split
  ·rw [Lib.encodeRuneZ_two (by omega) (by omega)]
   simp only [List.map_cons,List.map_nil]
   rw [u _ (192+x / 64) (by omega),u _ (128+x % 64) (by omega)]
  ·split
   ·rw [Lib.encodeRuneZ_three (by omega)]
    simp only [List.map_cons,List.map_nil]
    rw [u _ (224+x / 4096) (by omega),u _ (128+x / 64 % 64) (by omega),u _ (128+x % 64) (by omega)]
   ·rw [Lib.encodeRuneZ_four (by omega) h1]
    simp only [List.map_cons,List.map_nil]
    rw [u _ (240+x / 262144) (by omega),u _ (128+x / 4096 % 64) (by omega),u _ (128+x / 64 % 64) (by omega),u _ (128+x % 64) (by omega)]
theorem aI(a b:List UInt8):txt a ++ txt b=txt (a ++ b):=by
 unfold txt
 apply ByteArray.ext
 simp [ByteArray.data_append]
theorem vE:∀ (l:List Int),(∀ x∈l,aN true x)->runesBytes l=txt (aY true l):=by
 have key:∀ (l:List Int) (a:List UInt8),(∀ x∈l,aN true x)->l.foldl (fun r n=>r ++ Utf8.encode n) (txt a)=txt (a ++ aY true l):=by
  intro l
  induction l with
  | nil=>intro a _;simp [aY]
  | cons x l ih=>
   intro a h
   rw [List.foldl_cons,aK0 (h x (List.mem_cons_self ..)),aI,ih _ (fun y hy=>h y (List.mem_cons_of_mem _ hy)),hZ,List.append_assoc]
   rfl
 intro l h
 exact key l [] h
theorem xI{base:Nat}{w:World}{g c:Nat}{l:List Int}(h:RO base w (.slice (some ⟨g,0,none⟩) l.length c) l){j:Nat}{x:Int}(hx:l[j]?=some x):w.cell? ⟨g,j,none⟩=some (.int .i32 x):=bA h (by simp [rns,hx])
theorem tL{base:Nat}{w:World}{v:Value}{l:List Int}(h:RO base w v l)(hl:∀ x∈l,aN true x):(convert 87 9 v).run Tryz.prog w=.ok (.string (txt (aY true l))) w:=by
 rcases h.2 with⟨rfl,hn⟩ | ⟨g,cap,cur,rfl,hg,hc,h1,h2,h3,h4⟩
 ·rw [List.eq_nil_of_length_eq_zero hn]
  exact run_convert_runes_nil w _ _ 21 0 0 eG Tryz.underlying21 oR
 ·have:=run_convert_runes (P:=Tryz.prog) w 87 9 21 ⟨g,0,none⟩ l.length cap l lz9 eG Tryz.underlying21 oR (fun j hj=>by
   have e:(⟨g,0,none⟩:Addr).add j=⟨g,j,none⟩:=by unfold Addr.add;simp;omega
   rw [e]
   have:=xI h (List.getElem?_eq_getElem hj)
   rw [this,List.getD_eq_getElem?_getD,List.getElem?_eq_getElem hj]
   rfl)
  rw [List.take_length,vE l hl] at this
  exact this
theorem rN{w:World}{base n:Nat}{v:Value}{l:List UInt8}(h:w.ownsRow base 5 1 v n (Lib.byteCells l)):(convert 52 9 v).run Tryz.prog w=.ok (.string (txt l)) w:=by
 have hl:l.length=n:=by have:=h.1;rw [Lib.byteCells_length] at this;omega
 subst hl
 rcases h.2 with⟨rfl,hn⟩ | ⟨g,cap,cur,rfl,hg,hc,h1,h2,h3,h4⟩
 ·have:l=[]:=List.eq_nil_of_length_eq_zero hn
  subst this
  exact run_convert_bytes_nil _ _ 5 Tryz.underlying52 Tryz.underlying5 0 0 _ Tryz.underlying9
 ·refine run_convert_bytes_back w _ _ 5 ⟨g,0,none⟩ cap l Tryz.underlying52 Tryz.underlying5 Tryz.underlying9 (fun j hj=>?_)
  have:=bA h (j:=j) (u:=.int .u8 (l[j].toNat:Int)) (by simp [Lib.byteCells,hj])
  have e:(⟨g,0,none⟩:Addr).add j=⟨g,j,none⟩:=by unfold Addr.add;simp;omega
  rw [e];exact this
theorem yE(n:Nat)(h:n<=140737488355328)(w:World) :
  (Instr.makeSlice 52 (.int .i64 (n:Int)) (.int .i64 (n:Int))).run Tryz.prog w=.ok (.slice (some ⟨w.heap.size,0,none⟩) n n) (w.alloc (.cells (Lib.byteCells (List.replicate n 0)).toArray 5)):=by
 obtain⟨i0,hi,hz0,hz1,hz2⟩:=aQ jF
 have:=run_make (P:=Tryz.prog) w 52 5 i0 (.int .u8 0) gQ hi hz0 .i64 .i64 (n:Int) (n:Int) (by omega) (by omega) (by rw [hz2];omega) (by omega)
 rw [hz1] at this
 have e:madeCells #[.int .u8 0] n=(Lib.byteCells (List.replicate n 0)).toArray:=by
  apply Array.ext
  ·simp [madeCells,Lib.byteCells]
  intro i h1 h2
  simp [madeCells,Lib.byteCells,Nat.mod_one]
 rw [<- e]
 simpa [Value.cells] using this
def iF(l:List Int)(k:Nat):List UInt8:=(aY false (l.take k)) ++ List.replicate (l.length - k) 0
theorem kX(l:List Int):aY false l=l.map fun x=>UInt8.ofNat x.toNat:=by
 induction l with
 | nil=>rfl
 | cons x l ih=>rw [hZ,ih];rfl
theorem rS(l:List Int)(k:Nat)(h:k<=l.length):(iF l k).length=l.length:=by
 unfold iF
 rw [kX];simp;omega
theorem zN(l:List Int)(k:Nat)(h:k < l.length):(iF l k).set k (UInt8.ofNat (l[k]).toNat)=iF l (k+1):=by
 unfold iF
 rw [kX,kX,bL l k h]
 have e:(l.take k).length=k:=by simp;omega
 rw [List.set_append_right _ _ (by simp;omega)]
 rw [List.length_map,e,Nat.sub_self]
 obtain⟨d,hd⟩:∃ d,l.length - k=d+1:=⟨l.length - k - 1,by omega⟩
 rw [hd,List.replicate_succ,List.set_cons_zero,show l.length - (k+1)=d by omega,List.map_append,List.map_singleton,List.append_assoc]
 rfl
theorem aK8{x:Int}(h0:0<=x)(h1:x<=255):IntKind.wrap .u8 x=x:=by
 rw [IntKind.wrap_u8];omega
theorem nS{base:Nat}{w:World}{v:Value}{l:List Int}(c f:Bool)(h:RO base w v l)(hl:∀ x∈l,aN c x)(hn:l.length<=100000000) :
  Calls Tryz.prog 41 #[v,.agg #[.bool c,.bool f]] w fun e w'=>e=.returned (.string (txt (aY c l)))/\Below w.heap.size w w':=by
 obtain⟨q,k0,rfl⟩:=aL h
 have H:Hid (RO base w (.slice q l.length k0) l):=h
 have HL:Hid (∀ x∈l,aN c x):=hl
 clear h hl
 cases c with
 | true=>
  have hcv:=tL (World.ownsRow.alloc H.out (.cells #[.bool true,.bool f] 27)) HL.out
  go_enter Tryz.func41,Tryz.ntmps41
  go_wp2
  go_ret
  exact⟨rfl,bz9⟩
 | false=>
  have hmk:=yE l.length (by omega)
  have hnew:∀ W:World,(W.alloc (.cells (Lib.byteCells (List.replicate l.length 0)).toArray 5)).heap[W.heap.size]?=some (.cells (Lib.byteCells (iF l 0)).toArray 5 (0,0)):=fun W=>by
   have e:iF l 0=List.replicate l.length 0:=by simp [iF,aY]
   rw [e];exact aF W _
  have HNEW:Hid _:=hnew
  clear hnew
  generalize (Lib.byteCells (List.replicate l.length 0)).toArray=Z at hmk HNEW
  go_enter Tryz.func41,Tryz.ntmps41
  go_wp2
  have N1:Hid (((w.alloc (.cells #[.bool false,.bool f] 27)).alloc (.cells Z 5)).heap[w.heap.size+1]?=some (.cells (Lib.byteCells (iF l 0)).toArray 5 (0,0))):=aB (by have:=HNEW.out (w.alloc (.cells #[.bool false,.bool f] 27));simpa using this)
  have B1:Hid (Below w.heap.size w ((w.alloc (.cells #[.bool false,.bool f] 27)).alloc (.cells Z 5))):=(bz9).alloc (by simp) _
  go_loopw [17] (fun i wr=>∃ k:Nat,k<=l.length/\i=.int .i64 (k:Int)/\wr.heap[w.heap.size+1]?=some (.cells (Lib.byteCells (iF l k)).toArray 5 (0,0))/\Below w.heap.size w wr) (fun i _=>l.length - (intOf i).toNat)
  case atStart=>exact⟨0,Nat.zero_le _,rfl,N1.out,B1.out⟩
  case round=>
   obtain⟨k,hk,rfl,hrow,hb⟩:=hrel
   have ROW:Hid (wr.heap[w.heap.size+1]?=some (.cells (Lib.byteCells (iF l k)).toArray 5 (0,0))):=hrow
   have B:Hid (Below w.heap.size w wr):=hb
   have hfz:=bE hrow k
   clear hrow hb
   by_cases hlt:k < l.length
   ·obtain⟨g,gc,hv⟩:=aJ H.out (by omega)
    injection hv with hq hn2 hc2
    subst hq hc2
    obtain⟨x,hx⟩:∃ x,l[k]?=some x:=⟨_,List.getElem?_eq_getElem hlt⟩
    have hgw:=(aH H.out (g:=g) rfl).2.1
    have d1:=(B.out.cell (p:=⟨g,k,none⟩) hgw).trans (xI H.out hx)
    obtain⟨x0,x1,-⟩:=HL.out x (List.mem_of_getElem? hx)
    simp only [top,Bool.false_eq_true,if_false] at x1
    have hw8:=aK8 x0 x1
    have i0:(0:Int)<=(k:Int):=by omega
    have i1:(k:Int) < (l.length:Int):=by omega
    have hwr:IntKind.wrap .i64 ((k:Int)+1)=(k:Int)+1:=wrap_small _ (by omega) (by omega)
    have hcell:∃ u,wr.cell? ⟨w.heap.size+1,k,none⟩=some u:=by
     have:k < (Lib.byteCells (iF l k)).length:=by rw [Lib.byteCells_length,rS l k hk];exact hlt
     exact⟨(Lib.byteCells (iF l k))[k],aA ROW.out (by rw [List.getElem?_toArray,List.getElem?_eq_getElem this])⟩
    obtain⟨u,hu⟩:=hcell
    have SET:Hid ((wr.setCell ⟨w.heap.size+1,k,none⟩ (.int .u8 x)).heap[w.heap.size+1]?=some (.cells (Lib.byteCells (iF l (k+1))).toArray 5 (0,0))):=by
     refine(aU ROW.out _ _).trans ?_
     obtain⟨hk',rfl⟩:=List.getElem?_eq_some_iff.1 hx
     rw [<- zN l k hk']
     congr 2
     apply Array.ext'
     have:=wQ x0 x1
     simp only [Array.toList_setIfInBounds,Lib.byteCells,List.map_set]
     rw [this]
    clear hx
    go_wp2
    go_roundw
    case rel=>exact⟨k+1,by omega,by go_num,SET.out,B.out.setCell (p:=⟨w.heap.size+1,k,none⟩) (by simp) _⟩
    case measure=>simp [intOf];omega
   ·obtain rfl:k=l.length:=by omega
    have i1:¬ (l.length:Int) < (l.length:Int):=by omega
    have e:iF l l.length=aY false l:=by unfold iF;simp
    have hln:(aY false l).length=l.length:=by rw [<- e];exact rS l _ lz9
    have hcv:(convert 52 9 (.slice (some ⟨w.heap.size+1,0,none⟩) l.length l.length)).run Tryz.prog wr=.ok (.string (txt (aY false l))) wr:=by
     refine rN (base:=0) (n:=l.length) ⟨by rw [Lib.byteCells_length,hln];omega,.inr ⟨_,_,(Lib.byteCells (aY false l)).toArray,rfl,Nat.zero_le _,by rw [<- e];exact ROW.out,Nat.le_refl _,by unfold maxLen;omega,by simp [Lib.byteCells,hln],?_⟩⟩
     simp [Lib.byteCells,<- hln]
     exact List.take_of_length_le (by simp)
    clear e hln
    go_wp2
    go_ret
    exact⟨rfl,B.out⟩
section
attribute [local go_sem] bC
theorem kO(w:World)(l:List Int)(hl:l.length<=1000):RO w.heap.size (w.alloc (.cells (rns l).toArray 21)) (.slice (some ⟨w.heap.size,0,none⟩) l.length l.length) l:=
 ⟨by rw [oY];omega,.inr ⟨w.heap.size,_,_,rfl,Nat.le_refl _,aF w _,Nat.le_refl _,by unfold maxLen;omega,by simp [oY],by simp [rns,List.take_of_length_le]⟩⟩
theorem aF4(x:Int)(w:World):Calls Tryz.prog 91 #[.int .i32 x] w fun e w'=>∃ v,e=.returned v/\RO w.heap.size w' v (dB x)/\Below w.heap.size w w':=by
 cases hs:spA x with
 | true=>
  have E:Hid (dB x=[92,x]):=by show dB x=_;unfold dB;rw [hs];rfl
  have hx:x=46\/x=91\/x=42\/x=94\/x=36\/x=92:=by simp only [spA,Bool.or_eq_true,beq_iff_eq] at hs;omega
  clear hs
  rcases hx with rfl | rfl | rfl | rfl | rfl | rfl
  all_goals
   go_enter Tryz.func91,Tryz.ntmps91
   go_wp2
   go_ret
   exact⟨_,rfl,by rw [E.out];exact kO w [92,_] (by simp),bz9⟩
 | false=>
  have E:Hid (dB x=[x]):=by show dB x=_;unfold dB;rw [hs];rfl
  simp only [spA,Bool.or_eq_false_iff] at hs
  obtain⟨⟨⟨⟨⟨h1,h2⟩,h3⟩,h4⟩,h5⟩,h6⟩:=hs
  go_enter Tryz.func91,Tryz.ntmps91
  go_wp2
  go_ret
  exact⟨_,rfl,by rw [E.out];exact kO w [x] (by simp),bz9⟩
theorem jM{w:World}(c:Bool):Calls Tryz.prog 88 #[.slice none 0 0,.bool c] w fun e w'=>∃ v,e=.returned v/\RR w.heap.size w' v (cM c)/\Below w.heap.size w w':=by
 refine(aL3 (w:=w) (L:=[]) (m:=c) (.inl ⟨none,0,rfl,rfl,fun _=>rfl⟩) (fun r hr=>by cases hr) (by simp)).mono ?_
 rintro e w' ⟨v,C,rfl,h1,h2,h3,h4⟩
 have:C=cM c:=h2.one (lC c) (fun x=>⟨fun q=>q.1,fun q=>⟨q,dN x⟩⟩)
 subst this
 exact⟨v,rfl,h1,h4⟩
theorem uU(c:Bool):(cM c).length<=2/\cM c≠[]:=by cases c <;> simp [cM]
theorem lZ{c:Bool}{r:Int × Int}(h:nF c r):0<=r.1/\r.1<=1114111/\0<=r.2/\r.2<=1114111:=by
 obtain⟨⟨a,b,-⟩,⟨d,e,-⟩,-⟩:=h
 unfold top at b e
 cases c <;> simp only [if_true,Bool.false_eq_true,if_false] at b e <;> omega
theorem oN{w:World}{v:Value}{L:List (Int × Int)}(c f:Bool)(h:ArgR w v L)(hS:IsC L (fun x=>In L x/\aN c x)) :
  Calls Tryz.prog 42 #[v,.agg #[.bool c,.bool f]] w fun e w'=>∃ v',e=.returned v'/\RO w.heap.size w' v' (dQ c L)/\Below w.heap.size w w':=by
 have hlen:L.length<=600000:=fX hS
 have hbd:∀ r∈L,0<=r.1/\r.1<=1114111/\0<=r.2/\r.2<=1114111:=fun r hr=>lZ (iL (f:=false) ⟨hS,fun q=>by cases q⟩ r hr)
 have HS:Hid (IsC L (fun x=>In L x/\aN c x)):=hS
 have HBD:Hid (∀ r∈L,0<=r.1/\r.1<=1114111/\0<=r.2/\r.2<=1114111):=hbd
 have HA:Hid (ArgR w v L):=h
 have hal:=uU c
 obtain⟨q,cap,rfl,-,-,hcells⟩:=h.slice
 have HC:Hid (∀ (i:Nat) (r:Int × Int),L[i]?=some r->∃ g off,q=some ⟨g,off,none⟩/\g < w.heap.size/\w.cell? ⟨g,off+2 * i,none⟩=some (.int .i64 r.1)/\w.cell? ⟨g,off+2 * i+1,none⟩=some (.int .i64 r.2)):=hcells
 have FitL:Hid (Fit L):=hS.fit
 clear h hS hbd hcells
 by_cases c1:L=[]
 ·subst c1
  have E:Hid (dQ c []=[91,94] ++ cF (cM c) ++ [93]):=by show dQ c []=_;unfold dQ;rw [if_pos rfl]
  go_enter Tryz.func42,Tryz.ntmps42
  go_wp2_with first
   |(go_at_call 88;(with_reducible refine(jM c).mono ?_);rintro e w2 ⟨va,rfl,h21,h22⟩;have A2:Hid (ArgR w2 va (cM c)):=h21.arg;have B2:Hid (Below w.heap.size w w2):=aG (bz9) h22 lz9;clear h21 h22)
   |(go_at_call 89;refine(fR (W0:=w2) (L:=cM c) (a:=[91,94]) A2.out (bz9) (kO w2 [91,94] (by simp)) (by omega) (by simp) (fun r hr=>lZ (nB c r hr))).mono ?_;rintro e w3 ⟨v3,rfl,h31,h32⟩;have O3:Hid (RO w.heap.size w3 v3 ([91,94] ++ cF (cM c) ++ [93])):=bV h31 B2.out.size;have B3:Hid (Below w.heap.size w w3):=aG B2.out h32 lz9;clear h31 h32)
  go_ret
  exact⟨_,rfl,by rw [E.out];exact O3.out,B3.out⟩
 have hpos:0 < L.length:=List.length_pos_iff.2 c1
 have n0:((L.length:Int)==0)=false:=by rw [beq_eq_false_iff_ne];omega
 have z0:(L.length==0)=false:=by rw [beq_eq_false_iff_ne];omega
 by_cases c2:L=cM c
 ·have E:Hid (dQ c L=[46]):=by show dQ c L=_;unfold dQ;rw [if_neg c1,if_pos c2]
  have HQ:Hid (∀ x,In L x ↔ In (cM c) x):=by show ∀ x,In L x ↔ In (cM c) x;rw [c2];exact fun _=>Iff.rfl
  clear c2 c1
  go_enter Tryz.func42,Tryz.ntmps42
  go_wp2_with first
   |(go_at_call 88;(with_reducible refine(jM c).mono ?_);rintro e w2 ⟨va,rfl,h21,h22⟩;have A2:Hid (ArgR w2 va (cM c)):=h21.arg;have B2:Hid (Below w.heap.size w w2):=aG (bz9) h22 lz9;clear h21 h22)
   |(go_at_call 90;refine(vD (HA.out.kept B2.out) A2.out FitL.out (lC c).fit (by omega) (by omega) HQ.out).mono ?_;rintro e w3 ⟨rfl,h3⟩;have B3:Hid (Below w.heap.size w w3):=aG B2.out h3 lz9;clear h3)
  go_ret
  exact⟨_,rfl,by rw [E.out];exact bV (kO w3 [46] (by simp)) B3.out.size,B3.out.alloc B3.out.size _⟩
 have HQ:Hid (¬ ∀ x,In L x ↔ In (cM c) x):=fun q=>c2 (jA _ _ HS.out.cls (lC c).cls q)
 by_cases c3:L.length=1/\(L.headD (0,0)).1=(L.headD (0,0)).2
 ·have E:Hid (dQ c L=dB (L.headD (0,0)).1):=by show dQ c L=_;unfold dQ;rw [if_neg c1,if_neg c2,if_pos c3]
  obtain⟨⟨x,y⟩,rfl⟩:∃ r,L=[r]:=by
   match L,c3.1 with
   | [r],_=>exact⟨r,rfl⟩
  obtain rfl:x=y:=c3.2
  obtain⟨g,off,rfl,hg,d1,d2⟩:=HC.out 0 (x,x) rfl
  obtain⟨b0,b1,-⟩:=HBD.out (x,x) (by simp)
  have hw32:=sB b0 b1
  simp only [Nat.mul_zero,Nat.add_zero] at d1 d2
  clear c1 c2 c3 HC b0 b1
  go_enter Tryz.func42,Tryz.ntmps42
  go_upto_region 6 with first
   |(go_at_call 88;(with_reducible refine(jM c).mono ?_);rintro e w2 ⟨va,rfl,h21,h22⟩;have A2:Hid (ArgR w2 va (cM c)):=h21.arg;have B2:Hid (Below w.heap.size w w2):=aG (bz9) h22 lz9;clear h21 h22)
   |(go_at_call 90;refine(iM (HA.out.kept B2.out) A2.out FitL.out (lC c).fit (by omega) (by omega) HQ.out).mono ?_;rintro e w3 ⟨rfl,h3⟩;have B3:Hid (Below w.heap.size w w3):=aG B2.out h3 lz9;clear h3)
  have k1:=(B3.out.cell (p:=⟨g,off,none⟩) hg).trans d1
  have k2:=(B3.out.cell (p:=⟨g,off+1,none⟩) hg).trans d2
  have hg3:g < w3.heap.size:=Nat.lt_of_lt_of_le hg B3.out.size
  refine wx9 ?_
  repeat (go_big_quiet_step (first | exact rfl))
  refine wpQuiet_nil ?_
  intro w4 hw
  have k3:=((aM hw).cell (p:=⟨g,off,none⟩) hg3).trans k1
  have hg4:g < w4.heap.size:=Nat.lt_of_lt_of_le hg3 (aM hw).size
  have B4:Hid (Below w.heap.size w w4):=aG B3.out (aM hw) lz9
  clear hw k1 k2 d1 d2
  go_wp2_with (go_at_call 91;(with_reducible refine(aF4 _ _).mono ?_);rintro e w5 ⟨v5,rfl,h51,h52⟩;have O5:Hid (RO w.heap.size w5 v5 (dB x)):=bV h51 B4.out.size;have B5:Hid (Below w.heap.size w w5):=aG B4.out h52 lz9;clear h51 h52)
  go_ret
  exact⟨_,rfl,by rw [E.out];exact O5.out,B5.out⟩
 ·have E:Hid (dQ c L=[91] ++ cF L ++ [93]):=by show dQ c L=_;unfold dQ;rw [if_neg c1,if_neg c2,if_neg c3]
  by_cases c4:L.length=1
  ·obtain⟨⟨x,y⟩,rfl⟩:∃ r,L=[r]:=by
    match L,c4 with
    | [r],_=>exact⟨r,rfl⟩
   have hxy:(x==y)=false:=by rw [beq_eq_false_iff_ne];exact fun e=>c3 ⟨rfl,e⟩
   obtain⟨g,off,rfl,hg,d1,d2⟩:=HC.out 0 (x,y) rfl
   simp only [Nat.mul_zero,Nat.add_zero] at d1 d2
   clear c1 c2 c3 c4 HC
   go_enter Tryz.func42,Tryz.ntmps42
   go_upto_region 6 with first
    |(go_at_call 88;(with_reducible refine(jM c).mono ?_);rintro e w2 ⟨va,rfl,h21,h22⟩;have A2:Hid (ArgR w2 va (cM c)):=h21.arg;have B2:Hid (Below w.heap.size w w2):=aG (bz9) h22 lz9;clear h21 h22)
    |(go_at_call 90;refine(iM (HA.out.kept B2.out) A2.out FitL.out (lC c).fit (by omega) (by omega) HQ.out).mono ?_;rintro e w3 ⟨rfl,h3⟩;have B3:Hid (Below w.heap.size w w3):=aG B2.out h3 lz9;clear h3)
   have k1:=(B3.out.cell (p:=⟨g,off,none⟩) hg).trans d1
   have k2:=(B3.out.cell (p:=⟨g,off+1,none⟩) hg).trans d2
   have hg3:g < w3.heap.size:=Nat.lt_of_lt_of_le hg B3.out.size
   refine wx9 ?_
   repeat (go_big_quiet_step (first | exact rfl))
   refine wpQuiet_nil ?_
   intro w4 hw
   have B4:Hid (Below w.heap.size w w4):=aG B3.out (aM hw) lz9
   clear hw k1 k2 d1 d2
   go_wp2_with (go_at_call 89;refine(fR (W0:=w4) (L:=[(x,y)]) (a:=[91]) (HA.out.kept B4.out) (bz9) (kO w4 [91] (by simp)) hlen (by simp) HBD.out).mono ?_;rintro e w5 ⟨v5,rfl,h51,h52⟩;have O5:Hid (RO w.heap.size w5 v5 ([91] ++ cF [(x,y)] ++ [93])):=bV h51 B4.out.size;have B5:Hid (Below w.heap.size w w5):=aG B4.out h52 lz9;clear h51 h52)
   go_ret
   exact⟨_,rfl,by rw [E.out];exact O5.out,B5.out⟩
  ·have n1:((L.length:Int)==1)=false:=by rw [beq_eq_false_iff_ne];omega
   have z1:(L.length==1)=false:=by rw [beq_eq_false_iff_ne];omega
   clear c1 c2 c3 c4 HC
   go_enter Tryz.func42,Tryz.ntmps42
   go_upto_region 6 with first
    |(go_at_call 88;(with_reducible refine(jM c).mono ?_);rintro e w2 ⟨va,rfl,h21,h22⟩;have A2:Hid (ArgR w2 va (cM c)):=h21.arg;have B2:Hid (Below w.heap.size w w2):=aG (bz9) h22 lz9;clear h21 h22)
    |(go_at_call 90;refine(iM (HA.out.kept B2.out) A2.out FitL.out (lC c).fit (by omega) (by omega) HQ.out).mono ?_;rintro e w3 ⟨rfl,h3⟩;have B3:Hid (Below w.heap.size w w3):=aG B2.out h3 lz9;clear h3)
   refine wx9 ?_
   repeat (go_big_quiet_step (first | exact rfl))
   refine wpQuiet_nil ?_
   intro w4 hw
   have B4:Hid (Below w.heap.size w w4):=aG B3.out (aM hw) lz9
   clear hw
   go_wp2_with (go_at_call 89;refine(fR (W0:=w4) (L:=L) (a:=[91]) (HA.out.kept B4.out) (bz9) (kO w4 [91] (by simp)) hlen (by simp) HBD.out).mono ?_;rintro e w5 ⟨v5,rfl,h51,h52⟩;have O5:Hid (RO w.heap.size w5 v5 ([91] ++ cF L ++ [93])):=bV h51 B4.out.size;have B5:Hid (Below w.heap.size w w5):=aG B4.out h52 lz9;clear h51 h52)
   go_ret
   exact⟨_,rfl,by rw [E.out];exact O5.out,B5.out⟩
theorem jB{c:Bool}{L:List (Int × Int)}(hS:IsC L (fun x=>In L x/\aN c x)):(∀ x∈dQ c L,aN c x)/\(dQ c L).length<=7000000:=by
 have hlen:L.length<=600000:=fX hS
 have low:∀ x:Int,0<=x->x < 128->aN c x:=fun x h0 h1=>by unfold aN top;cases c <;> simp <;> omega
 have hr:=iL (f:=false) ⟨hS,fun q=>by cases q⟩
 have he:∀ y,aN c y->∀ x∈cU y,aN c x:=by
  intro y hy x hx
  unfold cU at hx
  split at hx
  ·simp only [List.mem_cons,List.not_mem_nil,or_false] at hx
   rcases hx with rfl | rfl | rfl | rfl | rfl
   ·exact low _ (by decide) (by decide)
   ·exact low _ (by decide) (by decide)
   ·exact hy
   ·exact low _ (by decide) (by decide)
   ·exact low _ (by decide) (by decide)
  ·rw [List.mem_singleton] at hx;subst hx;exact hy
 have ho:∀ r,nF c r->∀ x∈eN r,aN c x:=by
  intro r h x hx
  unfold eN at hx
  rcases List.mem_append.1 hx with q | q
  ·exact he _ h.1 x q
  ·split at q
   ·rcases List.mem_cons.1 q with rfl | q
    ·exact low _ (by decide) (by decide)
    ·exact he _ h.2.1 x q
   ·cases q
 have hR:∀ (l:List (Int × Int)),(∀ r∈l,nF c r)->∀ x∈cF l,aN c x:=by
  intro l
  induction l with
  | nil=>intro _ x hx;rw [cF] at hx;cases hx
  | cons r l ih=>
   intro h x hx
   rw [cF] at hx
   rcases List.mem_append.1 hx with q | q
   ·exact ho r (h r (List.mem_cons_self ..)) x q
   ·exact ih (fun y hy=>h y (List.mem_cons_of_mem _ hy)) x q
 have ha:=uU c
 have la:=jJ (cM c)
 have ll:=jJ L
 unfold dQ
 split
 ·refine⟨fun x hx=>?_,by simp;omega⟩
  simp only [List.append_assoc,List.mem_append,List.mem_cons,List.not_mem_nil,or_false] at hx
  rcases hx with (rfl | rfl) | q | rfl
  ·exact low _ (by decide) (by decide)
  ·exact low _ (by decide) (by decide)
  ·exact hR _ (nB c) x q
  ·exact low _ (by decide) (by decide)
 split
 ·refine⟨fun x hx=>?_,by simp⟩
  rw [List.mem_singleton] at hx;subst hx
  exact low _ (by decide) (by decide)
 split
 ·rename_i h1 h2 h3
  obtain⟨r,rfl⟩:∃ r,L=[r]:=by
   match L,h3.1 with
   | [r],_=>exact⟨r,rfl⟩
  have hc:=(hr r (by simp)).1
  show (∀ x∈dB r.1,aN c x)/\(dB r.1).length<=7000000
  unfold dB
  split
  ·refine⟨fun x hx=>?_,by simp⟩
   simp only [List.mem_cons,List.not_mem_nil,or_false] at hx
   rcases hx with rfl | rfl
   ·exact low _ (by decide) (by decide)
   ·exact hc
  ·refine⟨fun x hx=>?_,by simp⟩
   rw [List.mem_singleton] at hx;subst hx
   exact hc
 ·refine⟨fun x hx=>?_,by simp;omega⟩
  simp only [List.append_assoc,List.mem_append,List.mem_cons,List.not_mem_nil,or_false] at hx
  rcases hx with rfl | q | rfl
  ·exact low _ (by decide) (by decide)
  ·exact hR _ hr x q
  ·exact low _ (by decide) (by decide)
theorem gM{c:Bool}{L:List (Int × Int)}(hS:IsC L (fun x=>In L x/\aN c x)):(dA c L).length<=28000000:=by
 have:=gI c (dQ c L)
 have:=(jB hS).2
 unfold dA
 omega
theorem tM{w:World}{v:Value}{L:List (Int × Int)}(c f:Bool)(h:ArgR w v L)(hF:Fit L)(hl:L.length+3<=8796093022208)(hS:¬ IsC L (fun x=>In L x/\aN c x)) :
  Calls Tryz.prog 15 #[v,.agg #[.bool c,.bool f]] w fun e w'=>e=.returned (.tuple #[.string (txt []),.int .i64 50])/\Below w.heap.size w w':=by
 have HA:Hid (ArgR w v L/\Fit L):=⟨h,hF⟩
 have HS:Hid (¬ IsC L (fun x=>In L x/\aN c x)):=hS
 clear h hF hS
 go_enter Tryz.func15,Tryz.ntmps15
 go_wp2_with (go_at_call 40;refine(lO (m:=c) (HA.out.1.kept (bz9)) HA.out.2 hl).mono ?_;rintro e w2 ⟨b,rfl,h21,h22⟩;obtain rfl:b=false:=(by cases b with | false=>rfl | true=>exact absurd (h21.1 rfl) HS.out);have B2:Hid (Below w.heap.size w w2):=aG (bz9) h22 lz9;clear h21 h22)
 go_ret2
 exact⟨rfl,B2.out⟩
theorem oM{w:World}{v:Value}{L:List (Int × Int)}(c f:Bool)(h:ArgR w v L)(hS:IsC L (fun x=>In L x/\aN c x)) :
  Calls Tryz.prog 15 #[v,.agg #[.bool c,.bool f]] w fun e w'=>e=.returned (.tuple #[.string (txt (dA c L)),.int .i64 0])/\Below w.heap.size w w':=by
 have HA:Hid (ArgR w v L):=h
 have HS:Hid (IsC L (fun x=>In L x/\aN c x)):=hS
 have hlen:L.length<=600000:=fX hS
 have HR:Hid ((∀ x∈dQ c L,aN c x)/\(dQ c L).length<=7000000):=jB hS
 have E:Hid (aY c (dQ c L)=dA c L):=rfl
 obtain⟨qv,cv,rfl,-⟩:=h.slice
 clear h hS
 go_enter Tryz.func15,Tryz.ntmps15
 go_upto_region 3 with (go_at_call 40;refine(lO (m:=c) (HA.out.kept (bz9)) HS.out.fit (by omega)).mono ?_;rintro e w2 ⟨b,rfl,h21,h22⟩;obtain rfl:b=true:=h21.2 HS.out;have B2:Hid (Below w.heap.size w w2):=aG (bz9) h22 lz9;have X2:Hid (w2.heap[w.heap.size]?=some (.cells #[.bool c,.bool f] 27 (0,0))):=(h22.block _ (by simp)).trans (aF w _);clear h21 h22)
 have a0:=aA X2.out (i:=0) rfl
 have a1:=aA X2.out (i:=1) rfl
 have hl2:=aC X2.out
 go_region_with first
  |(go_at_call 42;refine(oN c f (HA.out.kept (B2.out.drew)) HS.out).mono ?_;rintro e w3 ⟨v3,rfl,h31,h32⟩;have O3:Hid (RO w2.heap.size w3 v3 (dQ c L)):=h31;have B3:Hid (Below w.heap.size w w3):=aG B2.out.drew h32 lz9;have X3:Hid (w3.heap[w.heap.size]?=some (.cells #[.bool c,.bool f] 27 (0,0))):=(h32.block _ hl2).trans X2.out;have a30:=aA X3.out (i:=0) rfl;have a31:=aA X3.out (i:=1) rfl;obtain⟨q3,k3,rfl⟩:=aL h31;clear h31 h32)
  |(go_at_call 41;refine(nS c f O3.out HR.out.1 (Nat.le_trans HR.out.2 (by decide))).mono ?_;rintro e w4 ⟨rfl,h4⟩;have B4:Hid (Below w.heap.size w w4):=aG B3.out h4 lz9;clear h4)
 all_goals go_wp2
 all_goals (go_ret2;exact⟨rfl,B4.out⟩)
end
section
open Go
def cD(a b:Int):List UInt8:=
 if a=0/\b=-1 then [42] else if a=1/\b=-1 then [92,43] else if a=0/\b=1 then [92,63]
 else [92,123] ++ bB a.toNat ++ (if b=a then [] else if b=-1 then [44] else 44 :: bB b.toNat) ++ [92,125]
end
end Go.Proofs.YticfnglebbakkaaGreatDoor
