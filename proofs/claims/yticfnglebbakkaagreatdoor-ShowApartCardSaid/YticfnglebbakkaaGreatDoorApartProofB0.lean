/-
  Parts of the proof.
-/
import Derived.Lib.MapLaws
import Derived.Lib.RuneCountTail
import Derived.Lib.Strings
import Derived.Test.YticfnglebbakkaaGreatDoorRows
import Derived.WalkKit
import Derived.WalkSpells
import Derived.WalkLawsBesides
import Derived.Below
import Derived.Laws.AppendOwn
import Derived.Laws.MakeOwn
import Derived.Laws.CopyOwn
import Derived.BigQuiet
import Derived.ProofKit
import Derived.OpenShut
import Derived.Stop.Joined
import Derived.ChangeOld
import Derived.ChangeSlices
import Derived.Carry
import Derived.Maps.AppendAt
import Derived.OwnWalk
import Derived.Deep.RegionLaw
import Derived.Deep.RegionWith
import Derived.Deep.DeepCutAuto
import Derived.Laws.OwnMore
import Derived.Lib.IndexMore
import Derived.RangeFuncNested
import Derived.RangeFuncBound
import Derived.RangeFuncCalls
import Derived.RangeFuncLeaves
import Derived.RangeFuncBox
import Derived.Shelf.Abstract
import Derived.Shelf.RegionOpen
import Derived.OwnWalkIn
import Derived.TacticsInMore
import Derived.LoopNIn
import Derived.LoopIn
namespace Go.Proofs.YticfnglebbakkaaGreatDoor
open Go Go.RowKit
section
open Go
def wd(s:ByteArray)(p:Nat):Nat:=(Utf8.decode s p).2
def bad(s:ByteArray)(p:Nat):Bool:=decide (Utf8.decode s p=(65533,1))
def ch(s:ByteArray)(p:Nat):Int:=if bad s p then -1 else (Utf8.decode s p).1
def bt(s:ByteArray)(i:Nat):Nat:=(s.data.toList.getD i 0).toNat
theorem uA(s:ByteArray)(i:Nat):bt s i < 256:=UInt8.toNat_lt _
theorem aS(s:ByteArray):s.data.toList.length=s.size:=(Lib.size_eq s).symm
theorem iH(s:ByteArray)(p:Nat):Utf8.decode s p=Lib.decodeN (s.size - p) (bt s p) (bt s (p+1)) (bt s (p+2)) (bt s (p+3)):=by
 rw [Lib.decode_N,aS];rfl
theorem nO(s:ByteArray)(p:Nat):1<=wd s p:=Lib.width_pos s p
theorem yC(s:ByteArray)(p:Nat):(Utf8.decode s p).1<=1114111:=Lib.rune_le s p
theorem iI(n b0 b1 b2 b3:Nat):Lib.decodeN n b0 b1 b2 b3=(65533,1)\/(b0 < 128/\Lib.decodeN n b0 b1 b2 b3=(b0,1)) \/
  (1 < n/\b0 / 32=6/\b1 / 64=2/\128<=b0 % 32 * 64+b1 % 64/\Lib.decodeN n b0 b1 b2 b3=(b0 % 32 * 64+b1 % 64,2)) \/
  (2 < n/\b0 / 16=14/\b1 / 64=2/\b2 / 64=2/\2048<=b0 % 16 * 4096+b1 % 64 * 64+b2 % 64/\(b0 % 16 * 4096+b1 % 64 * 64+b2 % 64 < 55296\/57344<=b0 % 16 * 4096+b1 % 64 * 64+b2 % 64)/\Lib.decodeN n b0 b1 b2 b3=(b0 % 16 * 4096+b1 % 64 * 64+b2 % 64,3)) \/
  (3 < n/\b0 / 8=30/\b1 / 64=2/\b2 / 64=2/\b3 / 64=2/\65536<=b0 % 8 * 262144+b1 % 64 * 4096+b2 % 64 * 64+b3 % 64/\b0 % 8 * 262144+b1 % 64 * 4096+b2 % 64 * 64+b3 % 64<=1114111/\Lib.decodeN n b0 b1 b2 b3=(b0 % 8 * 262144+b1 % 64 * 4096+b2 % 64 * 64+b3 % 64,4)):=by
 unfold Lib.decodeN
 by_cases h0:b0 < 128
 ·rw [if_pos h0];exact .inr (.inl ⟨h0,rfl⟩)
 rw [if_neg h0]
 split
 ·rename_i h
  split
  ·rename_i g
   exact .inr (.inr (.inl ⟨h.2.1,h.1,h.2.2,g,rfl⟩))
  ·exact .inl rfl
 split
 ·rename_i h
  split
  ·rename_i g
   exact .inr (.inr (.inr (.inl ⟨h.2.2.1,h.1,h.2.1.2,h.2.2.2,g.1,by omega,rfl⟩)))
  ·exact .inl rfl
 split
 ·rename_i h
  split
  ·rename_i g
   exact .inr (.inr (.inr (.inr ⟨h.2.2.2.1,h.1,h.2.1.2,h.2.2.1.2,h.2.2.2.2,g.1,by omega,rfl⟩)))
  ·exact .inl rfl
 exact .inl rfl
theorem mL(s:ByteArray)(p:Nat)(h:p < s.size):wd s p<=4/\p+wd s p<=s.size:=by
 unfold wd
 rw [iH]
 rcases iI (s.size - p) (bt s p) (bt s (p+1)) (bt s (p+2)) (bt s (p+3)) with e | ⟨_,e⟩ | ⟨_,_,_,_,e⟩ | ⟨_,_,_,_,_,_,e⟩ | ⟨_,_,_,_,_,_,_,e⟩
 all_goals (rw [e];simp only;omega)
theorem sM{s:ByteArray}{p:Nat}(h:bad s p=true):ch s p=-1/\wd s p=1/\(Utf8.decode s p).1=65533:=by
 have e:Utf8.decode s p=(65533,1):=by simpa [bad] using h
 simp [ch,h,wd,e]
theorem oQ{s:ByteArray}{p:Nat}(h:bad s p=false):ch s p=(Utf8.decode s p).1:=by simp [ch,h]
theorem zI(l:List UInt8)(a b c:UInt8):Lib.hasPrefix l [a,b,c]=(decide (2 < l.length) && l.getD 0 0==a && l.getD 1 0==b && l.getD 2 0==c):=by
 unfold Lib.hasPrefix
 match l with
 | []=>simp [List.isPrefixOf]
 | [x]=>simp [List.isPrefixOf]
 | [x,y]=>simp [List.isPrefixOf]
 | x :: y :: z :: t=>
  rw [Bool.eq_iff_iff]
  simp [List.isPrefixOf]
  grind
theorem xS(s:ByteArray)(p:Nat):(s.extract p s.size).data.toList=s.data.toList.drop p:=by
 rw [ByteArray.data_extract,Array.toList_extract,List.extract_eq_take_drop,List.take_of_length_le (by rw [List.length_drop,aS];omega)]
theorem aC3(s:ByteArray)(p:Nat)(h:p < s.size)(hr:(Utf8.decode s p).1=65533):Lib.hasPrefix (s.data.toList.drop p) [239,191,189]=!bad s p:=by
 rw [zI]
 have g0:(s.data.toList.drop p).getD 0 0=s.data.toList.getD p 0:=by simp [List.getD_eq_getElem?_getD]
 have g1:(s.data.toList.drop p).getD 1 0=s.data.toList.getD (p+1) 0:=by simp [List.getD_eq_getElem?_getD]
 have g2:(s.data.toList.drop p).getD 2 0=s.data.toList.getD (p+2) 0:=by simp [List.getD_eq_getElem?_getD]
 rw [g0,g1,g2]
 have toN:∀ (i:Nat) (k:UInt8),(s.data.toList.getD i 0==k)=decide (bt s i=k.toNat):=fun i k=>by
  unfold bt
  rw [Bool.eq_iff_iff]
  simp [UInt8.toNat_inj]
 rw [toN,toN,toN]
 have hl:(s.data.toList.drop p).length=s.size - p:=by rw [List.length_drop,aS]
 rw [hl]
 have e:=iH s p
 rw [e] at hr
 unfold bad
 rw [e]
 have q0:=uA s p
 have q1:=uA s (p+1)
 have q2:=uA s (p+2)
 have q3:=uA s (p+3)
 rw [Bool.eq_iff_iff]
 simp only [Bool.and_eq_true,decide_eq_true_eq,Bool.not_eq_true',decide_eq_false_iff_not]
 show (((2 < s.size - p/\bt s p=239)/\bt s (p+1)=191)/\bt s (p+2)=189) ↔ _
 rcases iI (s.size - p) (bt s p) (bt s (p+1)) (bt s (p+2)) (bt s (p+3)) with k | ⟨_,k⟩ | ⟨_,_,_,_,k⟩ | ⟨_,_,_,_,_,_,k⟩ | ⟨_,_,_,_,_,_,_,k⟩
 ·rw [k]
  simp only [not_true,iff_false]
  rintro ⟨⟨⟨h1,h2⟩,h3⟩,h4⟩
  rw [h2,h3,h4] at k
  unfold Lib.decodeN at k
  simp at k
  omega
 ·rw [k] at hr ⊢
  simp only at hr
  omega
 ·rw [k] at hr ⊢
  simp only at hr
  omega
 ·rw [k] at hr ⊢
  simp only at hr
  simp
  omega
 ·rw [k] at hr ⊢
  simp only at hr
  omega
def cM(s:ByteArray):Nat->Nat->List (Nat × Int)
 | 0,_=>[]
 | f+1,p=>if p < s.size then (p,ch s p) :: cM s f (p+wd s p) else []
def us(s:ByteArray):List (Nat × Int):=cM s s.size 0
theorem eU(s:ByteArray)(f p:Nat)(h:¬ p < s.size):cM s f p=[]:=by cases f <;> simp [cM,h]
theorem fE(s:ByteArray)(f p:Nat)(h:p < s.size):cM s (f+1) p=(p,ch s p) :: cM s f (p+wd s p):=by simp [cM,h]
end
theorem lz9{n:Nat}:n<=n:=Nat.le_refl n
theorem bz9{w:World}{o:Obj}:Below w.heap.size w (w.alloc o):=(Below.refl w.heap.size w).alloc (Nat.le_refl w.heap.size) o
def iE(l:List Int):List Value:=l.map (Value.int .i64)
structure Fr(S:Nat->Prop)(w w':World):Prop where
 os:w'.os=w.os
 tape:w'.tape=w.tape
 output:w'.output=w.output
 size:w.heap.size<=w'.heap.size
 block:∀ k,k < w.heap.size->¬ S k->w'.heap[k]?=w.heap[k]?
theorem Fr.refl(S:Nat->Prop)(w:World):Fr S w w:=⟨rfl,rfl,rfl,Nat.le_refl _,fun _ _ _=>rfl⟩
theorem Fr.trans{S:Nat->Prop}{a b c:World}(h:Fr S a b)(k:Fr S b c):Fr S a c:=
 ⟨k.os.trans h.os,k.tape.trans h.tape,k.output.trans h.output,Nat.le_trans h.size k.size,fun i hi hs=>(k.block i (Nat.lt_of_lt_of_le hi h.size) hs).trans (h.block i hi hs)⟩
theorem Fr.mono{S T:Nat->Prop}{a b:World}(h:Fr S a b)(hst:∀ k,S k->T k):Fr T a b:=⟨h.os,h.tape,h.output,h.size,fun i hi hs=>h.block i hi (fun q=>hs (hst i q))⟩
theorem Fr.below{S:Nat->Prop}{a b:World}{n:Nat}(h:Fr S a b)(hn:n<=a.heap.size)(hs:∀ k,S k->n<=k):Below n a b:=
 ⟨h.os,h.tape,h.output,h.size,fun i hi=>h.block i (Nat.lt_of_lt_of_le hi hn) (fun q=>by have:=hs i q;omega)⟩
theorem Fr.of_below{S:Nat->Prop}{a b:World}(h:Below a.heap.size a b):Fr S a b:=⟨h.os,h.tape,h.output,h.size,fun i hi _=>h.block i hi⟩
theorem Fr.alloc{S:Nat->Prop}{a w:World}(h:Fr S a w)(o:Obj):Fr S a (w.alloc o):=h.trans (Fr.of_below ((Below.refl _ _).alloc lz9 o))
theorem Fr.drew{S:Nat->Prop}{a w:World}(h:Fr S a w):Fr S a w.drew:=h.trans (Fr.of_below (Below.refl _ _).drew)
theorem Fr.setCell{S:Nat->Prop}{a w:World}(h:Fr S a w){p:Addr}(hp:S p.block)(u:Value):Fr S a (w.setCell p u):=
 h.trans ⟨rfl,rfl,rfl,by simp [World.setCell],fun k _ hk=>Below.heap_setCell _ _ _ _ (fun e=>hk (e ▸ hp))⟩
theorem Fr.grown{S:Nat->Prop}{a w w':World}{row:Option Nat}(h:Fr S a w)(hg:w.grownBy w' row)(hr:∀ k,row=some k->S k):Fr S a w':=
 h.trans ⟨hg.os,hg.tape,hg.output,hg.size,fun k hk hs=>hg.block k hk (fun e=>hs (hr k e.symm))⟩
theorem aA{w:World}{k:Nat}{o:Obj}(h:w.heap[k]?=some o):k < w.heap.size:=(Array.getElem?_eq_some_iff.1 h).1
theorem bB{w:World}{k:Nat}{cur:Array Value}{t:TypeId}{fr:Nat × Nat}(h:w.heap[k]?=some (.cells cur t fr))(j:Nat)(v:Value):(w.setCell ⟨k,j,none⟩ v).heap[k]?=some (.cells (cur.setIfInBounds j v) t fr):=by
 simp [World.setCell,Array.getElem?_modify,h]
theorem zQ{W:World}{x y:Nat}{c c':Array Value}{t t':TypeId}{f f':Nat × Nat}(h:W.heap[x]?=some (.cells c t f))(h':W.heap[y]?=some (.cells c' t' f'))(ht:t≠t'):x≠y:=fun e=>by
 rw [e,h'] at h
 injection h with h
 injection h with _ h _
 exact ht h.symm
theorem aC{W:World}{wb:Nat}{c:Array Value}{t:TypeId}(h:W.heap[wb]?=some (.cells c t (0,0))){i:Nat}{v:Value}(hi:c[i]?=some v):W.cell? ⟨wb,i,none⟩=some v:=by simp [World.cell?,h,hi]
theorem bM{W:World}{wb:Nat}{c:Array Value}{t:TypeId}(h:W.heap[wb]?=some (.cells c t (0,0)))(i:Nat):W.frozen? ⟨wb,i,none⟩=false:=by simp [World.frozen?,h]
theorem aF{n:Nat}{a b c:World}(h:Below n a b)(k:Below b.heap.size b c)(hn:n<=a.heap.size):Below n a c:=h.trans (k.mono (Nat.le_trans hn h.size))
theorem dQ{n:Nat}{a b c:World}{S:Nat->Prop}(h:Below n a b)(k:Fr S b c)(hn:n<=a.heap.size)(hs:∀ k,S k->n<=k):Below n a c:=h.trans (k.below (Nat.le_trans hn h.size) hs)
theorem bY{α:Type}(l:List α)(k:Nat)(h:k < l.length):l.take (k+1)=l.take k ++ [l[k]]:=by simp
def Ext(W:World):Type:={ w:World // Below W.heap.size W w }
theorem lZ{P:Program}{id:Nat}{Q:Exit->Act->World->Prop}{a:Act}{w:World}{l:List Oper}(hm:P.follows .mixedOrders=true)(hB:Region.lexB .any l.toArray=true)
  (h:wpQuiet P l.toArray (fun w'=>∃ x:Ext w,w'=x.val) (fun a'=>∀ w',(∃ x:Ext w,w'=x.val)->Q .normal a' w') l a):(Code.region id l.toArray true).wp P Q a w:=
 wp_region_quiet (C:=fun w'=>∃ x:Ext w,w'=x.val) hm hB ⟨⟨w.drew,(Below.refl _ _).drew⟩,rfl⟩ (by simpa using h)
theorem wx9{P:Program}{id:Nat}{Q:Exit->Act->World->Prop}{a:Act}{w:World}{l:List Oper}(h:wpQuiet P l.toArray (fun w'=>∃ x:Ext w,w'=x.val) (fun a'=>∀ w',(∃ x:Ext w,w'=x.val)->Q .normal a' w') l a)(hm:P.follows .mixedOrders=true:=by kernel_rfl)(hB:Region.lexB .any l.toArray=true:=by kernel_rfl):(Code.region id l.toArray true).wp P Q a w:=lZ hm hB h
theorem gF{P:Program}{f:FuncId}{args:Array Value}{W:World}{x:Ext W}{v:Value}
  (h:Calls P f args x.val fun e w'=>e=.returned v/\Below x.val.heap.size x.val w'):Calls P f args x.val fun e w''=>e=.returned v/\∃ y:Ext W,w''=y.val:=
 h.mono fun _ w' ⟨he,hb⟩=>⟨he,⟨w',x.2.trans (hb.mono x.2.size)⟩,rfl⟩
theorem bD{W:World}(x:Ext W)(b o:Nat)(h:b < W.heap.size):x.val.cell? ⟨b,o,none⟩=W.cell? ⟨b,o,none⟩:=x.2.cell (p:=⟨b,o,none⟩) h
theorem gP{W:World}(x:Ext W):Below W.heap.size W x.val:=x.2
theorem aW{W w1:World}(h:∃ x:Ext W,w1=x.val):Below W.heap.size W w1:=by
 obtain⟨x,rfl⟩:=h
 exact x.2
section
section
variable {P:Program} {l:List Oper} {o:Oper} {Q:Exit->Act->World->Prop}
def Q1(P:Program)(l:List Oper)(o:Oper)(Q:Exit->Act->World->Prop):Exit->Act->World->Prop
 | .normal,a,w=>wpList P (l ++ [o]).toArray Q [o] a w
 | e,a,w=>Q e a w
end
end
section
open Go Go.ChangeShapes Go.WideShapes Go.ChangeAt Go.RowKit
theorem own:ownKnob Tryz.prog.godebug=none:=by kernel_rfl
theorem oG:laidOutB Tryz.prog=true:=by kernel_rfl
theorem jY:Tryz.prog.cellsOf 3=1:=by kernel_rfl
end
theorem vZ:(Tryz.prog.info? 3).map (fun i=>(i.zero,i.size,i.bytes))=some (some (.int .i64 0),1,8):=by kernel_rfl
theorem vS:Tryz.prog.underlying 158=some (.slice 3):=by kernel_rfl
theorem aV{P:Program}{t:TypeId}{z:Value}{s b:Nat}(h:(P.info? t).map (fun i=>(i.zero,i.size,i.bytes))=some (some z,s,b)):∃ i,P.info? t=some i/\i.zero=some z/\i.size=s/\i.bytes=b:=by
 cases hi:P.info? t with
 | none=>rw [hi] at h;cases h
 | some i=>
  rw [hi] at h
  simp at h
  exact⟨i,rfl,h.1,h.2.1,h.2.2⟩
theorem bJ{S:Nat->Prop}{w w':World}{base:Nat}{t:TypeId}{size n:Nat}{v:Value}{xs:List Value}(h:w.ownsRow base t size v n xs)(hf:Fr S w w')(hs:∀ k,v.ownBlock=some k->¬ S k):w'.ownsRow base t size v n xs:=by
 obtain⟨h1,h2 | ⟨g,cap,cur,q1,q2,q3,q4⟩⟩:=h
 ·exact⟨h1,.inl h2⟩
 ·exact⟨h1,.inr ⟨g,cap,cur,q1,q2,(hf.block _ (aA q3) (hs g (by rw [q1];rfl))).trans q3,q4⟩⟩
theorem bH{w:World}{base base':Nat}{t:TypeId}{size n:Nat}{v:Value}{xs:List Value}(h:w.ownsRow base t size v n xs)(hb:base'<=base):w.ownsRow base' t size v n xs:=by
 obtain⟨h1,h2 | ⟨g',cap',cur,q1,q2,q4⟩⟩:=h
 ·exact⟨h1,.inl h2⟩
 ·exact⟨h1,.inr ⟨g',cap',cur,q1,Nat.le_trans hb q2,q4⟩⟩
theorem aI{w:World}{base:Nat}{e:TypeId}{size n:Nat}{v:Value}{xs:List Value}(h:w.ownsRow base e size v n xs):∃ q c,v=.slice q n c:=by
 rcases h.2 with⟨rfl,rfl⟩ | ⟨g,cap,cur,rfl,_⟩
 ·exact⟨_,_,rfl⟩
 ·exact⟨_,_,rfl⟩
theorem aH{w:World}{base:Nat}{e:TypeId}{size n:Nat}{v:Value}{xs:List Value}(h:w.ownsRow base e size v n xs){g:Nat}(hg:v.ownBlock=some g):base<=g/\g < w.heap.size/\∃ cur,w.heap[g]?=some (.cells cur e (0,0)):=by
 rcases h.2 with⟨rfl,rfl⟩ | ⟨g',cap,cur,rfl,h1,h2,_⟩
 ·cases hg
 ·cases hg;exact⟨h1,aA h2,cur,h2⟩
theorem bL{w:World}{base:Nat}{e t:TypeId}{size n:Nat}{v:Value}{xs:List Value}(h:w.ownsRow base e size v n xs){b:Nat}{cs:Array Value}(hb:w.heap[b]?=some (.cells cs t (0,0)))(ht:t≠e):v.ownBlock≠some b:=fun q=>by
 obtain⟨_,_,cur,hc⟩:=aH h q
 exact zQ hb hc ht rfl
theorem bI{w:World}{base:Nat}{e:TypeId}{size n g c:Nat}{xs:List Value}(h:w.ownsRow base e size (.slice (some ⟨g,0,none⟩) n c) n xs){j:Nat}{u:Value}(hj:xs[j]?=some u):w.cell? ⟨g,j,none⟩=some u:=by
 rcases h.2 with⟨q,_⟩ | ⟨g',cap,cur,q1,_,q3,_,_,q6,q7⟩
 ·cases q
 ·cases q1
  have:cur[j]?=some u:=by
   rw [<- q7,List.getElem?_take] at hj
   split at hj
   ·simpa using hj
   ·cases hj
  simp [World.cell?,q3,this]
theorem aY{w:World}{base:Nat}{e:TypeId}{size n:Nat}{v:Value}{xs:List Value}(h:w.ownsRow base e size v n xs)(hn:0 < n):∃ g c,v=.slice (some ⟨g,0,none⟩) n c:=by
 rcases h.2 with⟨_,q⟩ | ⟨g,cap,cur,rfl,_⟩
 ·omega
 ·exact⟨_,_,rfl⟩
def moved(v v':Value)(n:Nat):Prop:=v'.ownBlock=v.ownBlock\/v'.ownBlock=none\/∃ g,n<=g/\v'.ownBlock=some g
theorem moved.refl(v:Value)(n:Nat):moved v v n:=.inl rfl
theorem moved.trans{v v' v'':Value}{n m:Nat}(h:moved v v' n)(k:moved v' v'' m)(hm:n<=m):moved v v'' n:=by
 rcases k with k | k | ⟨g,k1,k2⟩
 ·rcases h with h | h | ⟨g,h1,h2⟩
  ·exact .inl (k.trans h)
  ·exact .inr (.inl (k.trans h))
  ·exact .inr (.inr ⟨g,h1,k.trans h2⟩)
 ·exact .inr (.inl k)
 ·exact .inr (.inr ⟨g,by omega,k2⟩)
theorem wX{v v':Value}{n k:Nat}(h:moved v v' n)(hk:k < n)(hv:v'.ownBlock=some k):v.ownBlock=some k:=by
 rcases h with h | h | ⟨g,h1,h2⟩
 ·exact h ▸ hv
 ·rw [h] at hv;cases hv
 ·rw [h2] at hv;cases hv;omega
theorem fV{P:Program}{ops:Array Oper}{o:Oper}{a:Act}{w:World}{K:Act->World->Prop}{Q:Exit->Act->World->Prop}{E:Prop}(hgd:o.guard=none)(s x:Operand)(t:TypeId)
  (ho:o.op=.call { callee:=.builtin .append,args:=#[s,x],argTypes:=#[t,t] })
  (base:Nat) (e:TypeId) (i:TypeInfo) (z:Value) (size bytes:Nat) (ht:P.underlying t=some (.slice e)) (hi:P.info? e=some i) (hz:i.zero=some z)
  (hsize:i.size=size) (hby:i.bytes=bytes) (hzs:z.cells.size=size) (hsz:0 < size)
  (v:Value) (n:Nat) (xs:List Value) (hs:a.eval s=v) (hown:w.ownsRow base e size v n xs)
  (ad:Addr) (m c:Nat) (news:List Value) (hx:a.eval x=.slice (some ad) m c) (hl:news.length=m * size) (hnews:∀ j u,news[j]?=some u->w.cell? (ad.add j)=some u) (h1:∀ u∈news,u.oneCell'=true)
  (h63:n+m<=maxLen) (hbytes:(n+m) * bytes<=140737488355328) (hbase:base<=w.heap.size)
  (h:∀ v' w',w'.ownsRow base e size v' (n+m) (xs ++ news)->w.grownBy w' v.ownBlock->(v'.ownBlock=v.ownBlock\/v'.ownBlock=some w.heap.size)->K (a.put o.dst v') w') :
  if Region.wanted o (yielded ops a.tmps)=true then Oper.wp P o a w K Q else E:=by
 have hw:Region.wanted o (yielded ops a.tmps)=true:=by simp [Region.wanted,hgd]
 rw [if_pos hw]
 obtain⟨v',w',hrun,h2,h3,_,h5⟩:=run_append_own_at (P:=P) w base t o.type e i z size bytes ht hi hz hsize hby hzs hsz v n xs hown ad m c news hl hnews h1 h63 hbytes hbase
 unfold Oper.wp
 simp [execOp,ho,resolve,invoke,builtin,hs,hx,hrun,Result.andThen]
 exact h v' w' h2 h3 h5
theorem mY(W:World)(a b:Value)(t:TypeId):∀ (j:Nat) (u:Value),[a,b][j]?=some u->(W.alloc (.cells #[a,b] t)).cell? ((⟨W.heap.size,0,none⟩:Addr).add j)=some u:=by
 intro j u h
 match j,h with
 | 0,h=>simp at h;subst h;simp [Addr.add]
 | 1,h=>simp at h;subst h;simp [Addr.add]
theorem aE(w:World)(o:Obj):(w.alloc o).heap[w.heap.size]?=some o:=by unfold World.alloc;simp
def In(L:List (Int × Int))(c:Int):Prop:=∃ r∈L,r.1<=c/\c<=r.2
structure Cls(L:List (Int × Int)):Prop where
 some:∀ r∈L,r.1<=r.2
 apart:L.Pairwise (fun a b=>a.2+1 < b.1)
theorem dG(c:Int):¬ In [] c:=fun⟨_,h,_⟩=>by cases h
theorem bA(r:Int × Int)(L:List (Int × Int))(c:Int):In (r :: L) c ↔ (r.1<=c/\c<=r.2)\/In L c:=by
 simp [In]
theorem cJ(A B:List (Int × Int))(c:Int):In (A ++ B) c ↔ In A c\/In B c:=by
 constructor
 ·rintro ⟨r,h,q⟩
  rcases List.mem_append.1 h with h | h
  ·exact .inl ⟨r,h,q⟩
  ·exact .inr ⟨r,h,q⟩
 ·rintro (⟨r,h,q⟩ | ⟨r,h,q⟩)
  ·exact⟨r,List.mem_append.2 (.inl h),q⟩
  ·exact⟨r,List.mem_append.2 (.inr h),q⟩
theorem eG(r:Int × Int)(c:Int):In [r] c ↔ r.1<=c/\c<=r.2:=by simp [In]
theorem oP:Cls []:=⟨fun _ h=>(by cases h),List.Pairwise.nil⟩
theorem gG{r:Int × Int}{L:List (Int × Int)}(h:Cls (r :: L)):Cls L:=⟨fun x hx=>h.some x (List.mem_cons_of_mem _ hx),(List.pairwise_cons.1 h.apart).2⟩
theorem dC{r:Int × Int}{L:List (Int × Int)}(h:Cls (r :: L)):r.1<=r.2:=h.some r List.mem_cons_self
theorem gH{r x:Int × Int}{L:List (Int × Int)}(h:Cls (r :: L))(hx:x∈L):r.2+1 < x.1:=(List.pairwise_cons.1 h.apart).1 x hx
theorem bZ{r:Int × Int}{L:List (Int × Int)}(h:Cls (r :: L)){c:Int}(hc:In L c):r.2+1 < c:=by
 obtain⟨x,hx,h1,h2⟩:=hc
 have:=gH h hx
 omega
theorem iJ:∀ (A B:List (Int × Int)),Cls A->Cls B->(∀ c,In A c ↔ In B c)->A=B
 | [],[],_,_,_=>rfl
 | [],b :: B,_,hB,h=>absurd ((h b.1).2 ⟨b,List.mem_cons_self,Int.le_refl _,dC hB⟩) (dG _)
 | a :: A,[],hA,_,h=>absurd ((h a.1).1 ⟨a,List.mem_cons_self,Int.le_refl _,dC hA⟩) (dG _)
 | a :: A,b :: B,hA,hB,h=>by
  have ha:=dC hA
  have hb:=dC hB
  have h1:a.1=b.1:=by
   have p:=(h a.1).1 ((bA ..).2 (.inl ⟨Int.le_refl _,ha⟩))
   have q:=(h b.1).2 ((bA ..).2 (.inl ⟨Int.le_refl _,hb⟩))
   rcases (bA ..).1 p with p | p
   ·rcases (bA ..).1 q with q | q
    ·omega
    ·have:=bZ hA q;omega
   ·have:=bZ hB p
    rcases (bA ..).1 q with q | q
    ·omega
    ·have:=bZ hA q;omega
  have h2:a.2=b.2:=by
   rcases Int.lt_trichotomy a.2 b.2 with q | q | q
   ·have p:=(h (a.2+1)).2 ((bA ..).2 (.inl ⟨by omega,by omega⟩))
    rcases (bA ..).1 p with p | p
    ·omega
    ·have:=bZ hA p;omega
   ·exact q
   ·have p:=(h (b.2+1)).1 ((bA ..).2 (.inl ⟨by omega,by omega⟩))
    rcases (bA ..).1 p with p | p
    ·omega
    ·have:=bZ hB p;omega
  have e:a=b:=Prod.ext h1 h2
  subst e
  rw [iJ A B (gG hA) (gG hB) fun c=>?_]
  constructor
  ·intro p
   have:=bZ hA p
   rcases (bA ..).1 ((h c).1 ((bA ..).2 (.inr p))) with q | q
   ·omega
   ·exact q
  ·intro p
   have:=bZ hB p
   rcases (bA ..).1 ((h c).2 ((bA ..).2 (.inr p))) with q | q
   ·omega
   ·exact q
def bN(C:List (Int × Int))(r:Int × Int):List (Int × Int):=
 if r.2 < r.1 then C else
  match C.getLast? with
  | none=>[r]
  | some x=>if x.2+1 < r.1 then C ++ [r] else C.dropLast ++ [(x.1,max x.2 r.2)]
theorem fP{C:List (Int × Int)}{r:Int × Int}(h:r.2 < r.1):bN C r=C:=if_pos h
theorem jL{r:Int × Int}(h:¬ r.2 < r.1):bN [] r=[r]:=by unfold bN;rw [if_neg h];rfl
theorem jM{C:List (Int × Int)}{x r:Int × Int}(h:¬ r.2 < r.1)(hf:x.2+1 < r.1):bN (C ++ [x]) r=C ++ [x] ++ [r]:=by
 unfold bN
 rw [if_neg h]
 simp [hf]
theorem gT{C:List (Int × Int)}{x r:Int × Int}(h:¬ r.2 < r.1)(hf:¬ x.2+1 < r.1):bN (C ++ [x]) r=C ++ [(x.1,max x.2 r.2)]:=by
 unfold bN
 rw [if_neg h]
 simp [hf]
theorem fJ{α:Type}(C:List α):C=[]\/∃ D x,C=D ++ [x]:=by
 rcases List.eq_nil_or_concat C with h | ⟨D,x,h⟩
 ·exact .inl h
 ·exact .inr ⟨D,x,by rw [h,List.concat_eq_append]⟩
theorem fL{A:List (Int × Int)}{r:Int × Int}(hA:Cls A)(hr:r.1<=r.2)(h:∀ x∈A,x.2+1 < r.1):Cls (A ++ [r]):=
 ⟨fun x hx=>by
  rcases List.mem_append.1 hx with q | q
  ·exact hA.some x q
  ·simp at q;subst q;exact hr,
  List.pairwise_append.2 ⟨hA.apart,List.pairwise_singleton _ _,fun x hx y hy=>by simp at hy;subst hy;exact h x hx⟩⟩
theorem yE{A:List (Int × Int)}{x:Int × Int}(h:Cls (A ++ [x])):Cls A/\x.1<=x.2/\∀ y∈A,y.2+1 < x.1:=
 ⟨⟨fun y hy=>h.some y (List.mem_append.2 (.inl hy)),(List.pairwise_append.1 h.apart).1⟩,h.some x (by simp),fun y hy=>(List.pairwise_append.1 h.apart).2.2 y hy x (by simp)⟩
theorem nN{C:List (Int × Int)}{r:Int × Int}(hC:Cls C)(hl:r.1<=r.2->∀ x∈C,x.1<=r.1) :
  Cls (bN C r)/\(∀ c,In (bN C r) c ↔ In C c\/(r.1<=c/\c<=r.2))/\(∀ m,(r.1<=r.2->r.1<=m)->(∀ x∈C,x.1<=m)->∀ x∈bN C r,x.1<=m):=by
 by_cases h:r.2 < r.1
 ·rw [fP h]
  exact⟨hC,fun c=>⟨.inl,fun q=>q.elim id fun q=>by omega⟩,fun m _ q=>q⟩
 ·have hr:r.1<=r.2:=by omega
  have hl:=hl hr
  rcases fJ C with rfl | ⟨D,x,rfl⟩
  ·rw [jL h]
   refine⟨⟨fun y hy=>by simp at hy;subst hy;exact hr,List.pairwise_singleton _ _⟩,fun c=>?_,fun m hm _ y hy=>by simp at hy;subst hy;exact hm hr⟩
   rw [eG]
   exact⟨.inr,fun q=>q.elim (fun q=>absurd q (dG _)) id⟩
  ·obtain⟨hD,hx,hDx⟩:=yE hC
   have hxr:=hl x (by simp)
   by_cases hf:x.2+1 < r.1
   ·rw [jM h hf]
    refine⟨fL hC hr fun y hy=>?_,fun c=>by rw [cJ,eG],fun m hm q y hy=>?_⟩
    ·rcases List.mem_append.1 hy with q | q
     ·have:=hDx y q;omega
     ·simp at q;subst q;exact hf
    ·rcases List.mem_append.1 hy with p | p
     ·exact q y p
     ·simp at p;subst p;exact hm hr
   ·rw [gT h hf]
    refine⟨fL hD (by simp only;omega) hDx,fun c=>?_,fun m hm q y hy=>?_⟩
    ·rw [cJ,cJ,eG,eG]
     constructor
     ·rintro (p | ⟨p1,p2⟩)
      ·exact .inl (.inl p)
      ·simp only at p1 p2
       by_cases hc:c<=x.2
       ·exact .inl (.inr ⟨p1,hc⟩)
       ·exact .inr ⟨by omega,by omega⟩
     ·rintro ((p | ⟨p1,p2⟩) | ⟨p1,p2⟩)
      ·exact .inl p
      ·exact .inr ⟨p1,by simp only;omega⟩
      ·exact .inr ⟨by simp only;omega,by simp only;omega⟩
    ·rcases List.mem_append.1 hy with p | p
     ·exact q y (List.mem_append.2 (.inl p))
     ·simp at p;subst p;exact q x (by simp)
def Fit(L:List (Int × Int)):Prop:=∀ r∈L,(-9223372036854775808<=r.1/\r.1<=9223372036854775807)/\(-9223372036854775808<=r.2/\r.2<=9223372036854775807)
theorem jA:Fit []:=fun _ h=>by cases h
theorem dH{A B:List (Int × Int)}(hA:Fit A)(hB:Fit B):Fit (A ++ B):=fun r hr=>(List.mem_append.1 hr).elim (hA r) (hB r)
theorem iZ{a b:Int}(h:(-9223372036854775808<=a/\a<=9223372036854775807)/\(-9223372036854775808<=b/\b<=9223372036854775807)):Fit [(a,b)]:=fun r hr=>by simp at hr;subst hr;exact h
theorem iY{A B:List (Int × Int)}(hA:Fit A)(h:∀ x∈B,x∈A):Fit B:=fun r hr=>hA r (h r hr)
theorem qG{C:List (Int × Int)}{r:Int × Int}(hC:Fit C)(hr:Fit [r]):Fit (bN C r):=by
 have q:=hr r (by simp)
 by_cases h:r.2 < r.1
 ·rw [fP h];exact hC
 ·rcases fJ C with rfl | ⟨D,x,rfl⟩
  ·rw [jL h];exact hr
  ·have hx:=hC x (by simp)
   by_cases hf:x.2+1 < r.1
   ·rw [jM h hf];exact dH hC hr
   ·rw [gT h hf]
    exact dH (iY hC fun y hy=>List.mem_append.2 (.inl hy)) (iZ ⟨hx.1,by omega,by omega⟩)
theorem gI(C:List (Int × Int))(r:Int × Int):(bN C r).length<=C.length+1:=by
 by_cases h:r.2 < r.1
 ·rw [fP h];omega
 ·rcases fJ C with rfl | ⟨D,x,rfl⟩
  ·rw [jL h];simp
  ·by_cases hf:x.2+1 < r.1
   ·rw [jM h hf];simp
   ·rw [gT h hf];simp
theorem zZ{A B:List (Int × Int)}(h:A.Perm B)(c:Int):In A c ↔ In B c:=
 ⟨fun⟨r,q,p⟩=>⟨r,h.mem_iff.1 q,p⟩,fun⟨r,q,p⟩=>⟨r,h.mem_iff.2 q,p⟩⟩
theorem vJ{a b:Int × Int}{A B:List (Int × Int)}(hb:Cls (b :: B))(h:a.2 < b.2)(c:Int) :
  (In (a :: A) c/\In (b :: B) c) ↔ (max a.1 b.1<=c/\c<=min a.2 b.2)\/(In A c/\In (b :: B) c):=by
 rw [bA,bA]
 constructor
 ·rintro ⟨p | p,q | q⟩
  ·exact .inl ⟨by omega,by omega⟩
  ·have:=bZ hb q;omega
  ·exact .inr ⟨p,.inl q⟩
  ·exact .inr ⟨p,.inr q⟩
 ·rintro (⟨p,q⟩ | ⟨p,q⟩)
  ·exact⟨.inl ⟨by omega,by omega⟩,.inl ⟨by omega,by omega⟩⟩
  ·exact⟨.inr p,q⟩
theorem sS{a b:Int × Int}{A B:List (Int × Int)}(ha:Cls (a :: A))(h:b.2<=a.2)(c:Int) :
  (In (a :: A) c/\In (b :: B) c) ↔ (max a.1 b.1<=c/\c<=min a.2 b.2)\/(In (a :: A) c/\In B c):=by
 rw [bA,bA]
 constructor
 ·rintro ⟨p | p,q | q⟩
  ·exact .inl ⟨by omega,by omega⟩
  ·exact .inr ⟨.inl p,q⟩
  ·have:=bZ ha p;omega
  ·exact .inr ⟨.inr p,q⟩
 ·rintro (⟨p,q⟩ | ⟨p,q⟩)
  ·exact⟨.inl ⟨by omega,by omega⟩,.inl ⟨by omega,by omega⟩⟩
  ·exact⟨p,.inr q⟩
def aK(L:List (Int × Int)):List Go.Value:=L.flatMap fun r=>[.int .i64 r.1,.int .i64 r.2]
theorem cR(L:List (Int × Int)):(aK L).length=L.length * 2:=by
 induction L with
 | nil=>rfl
 | cons r L ih=>simp [aK] at ih ⊢;omega
theorem eS(A B:List (Int × Int)):aK (A ++ B)=aK A ++ aK B:=by simp [aK]
theorem lT(L:List (Int × Int)):∀ v∈aK L,v.oneCell'=true:=fun v hv=>by
 simp [aK] at hv
 obtain⟨a,b,_,rfl | rfl⟩:=hv <;> rfl
theorem eI:∀ (L:List (Int × Int)) (i:Nat) (r:Int × Int),L[i]?=some r->(aK L)[2 * i]?=some (.int .i64 r.1)/\(aK L)[2 * i+1]?=some (.int .i64 r.2)
 | [],i,r,h=>by cases h
 | x :: L,0,r,h=>by
  simp at h
  subst h
  simp [aK]
 | x :: L,i+1,r,h=>by
  have:=eI L i r (by simpa using h)
  simp only [aK,List.flatMap_cons] at this ⊢
  rw [show 2 * (i+1)=2 * i+2 from by omega]
  simpa using this
theorem lS:∀ (L:List (Int × Int)) (i:Nat) (a b:Int),((aK L).set (i * 2) (.int .i64 a)).set (i * 2+1) (.int .i64 b)=aK (L.set i (a,b))
 | [],i,a,b=>by simp [aK]
 | x :: L,0,a,b=>by simp [aK]
 | x :: L,i+1,a,b=>by
  have:=lS L i a b
  simp only [aK,List.flatMap_cons,List.set_cons_succ] at this ⊢
  rw [show (i+1) * 2=i * 2+2 from by omega]
  simpa using this
theorem jH:∀ (L:List (Int × Int)) (i:Nat) (r:Int × Int) (b:Int),L[i]?=some r->(aK L).set (i * 2+1) (.int .i64 b)=aK (L.set i (r.1,b))
 | [],i,r,b,h=>by cases h
 | x :: L,0,r,b,h=>by simp at h;subst h;simp [aK]
 | x :: L,i+1,r,b,h=>by
  have:=jH L i r b (by simpa using h)
  simp only [aK,List.flatMap_cons,List.set_cons_succ] at this ⊢
  rw [show (i+1) * 2=i * 2+2 from by omega]
  simpa using this
theorem aB{p:Prop}(h:p):Hid p:=h
theorem oW{x:Int}(h:(Lit.int .i64 x).wf=true):-9223372036854775808<=x/\x<=9223372036854775807:=by
 simp [Lit.wf,IntKind.min,IntKind.max,IntKind.signed,IntKind.bits] at h
 omega
theorem dF:(Tryz.prog.info? 48).map (fun i=>(i.zero,i.size,i.bytes))=some (some (.agg #[.int .i64 0,.int .i64 0]),2,16):=by kernel_rfl
theorem bS:Tryz.prog.underlying 22=some (.slice 48):=by kernel_rfl
theorem oF(P:Program)(t:Array TypeId)(ty:TypeId)(w:World)(x y:Int):(Builtin.max_ t ty #[.int .i64 x,.int .i64 y]).run P w=.ok (.int .i64 (max x y)) w:=by
 have e:max x y=if y > x then y else x:=by split <;> omega
 rw [e]
 rfl
theorem zS(P:Program)(t:Array TypeId)(ty:TypeId)(w:World)(x y:Int):(Builtin.min_ t ty #[.int .i64 x,.int .i64 y]).run P w=.ok (.int .i64 (min x y)) w:=by
 have e:min x y=if y < x then y else x:=by split <;> omega
 rw [e]
 rfl
def ArgR(W:World)(v:Value)(L:List (Int × Int)):Prop:=
 (∃ p cap,v=.slice p 0 cap/\L=[]/\(p=none->cap=0))\/∃ g off cap,v=.slice (some ⟨g,off,none⟩) L.length cap/\g < W.heap.size/\L.length<=cap/\cap<=maxLen/\∀ (i:Nat) (r:Int × Int),L[i]?=some r->W.cell? ⟨g,off+2 * i,none⟩=some (.int .i64 r.1)/\W.cell? ⟨g,off+2 * i+1,none⟩=some (.int .i64 r.2)
theorem ArgR.kept{W W':World}{v:Value}{L:List (Int × Int)}(h:ArgR W v L)(hb:Below W.heap.size W W'):ArgR W' v L:=by
 rcases h with h | ⟨g,off,cap,h1,h2,h3,h4,h5⟩
 ·exact .inl h
 ·exact .inr ⟨g,off,cap,h1,Nat.lt_of_lt_of_le h2 hb.size,h3,h4,fun i x hx=>⟨(hb.cell (p:=⟨g,off+2 * i,none⟩) h2).trans (h5 i x hx).1,(hb.cell (p:=⟨g,off+2 * i+1,none⟩) h2).trans (h5 i x hx).2⟩⟩
theorem ArgR.slice{W:World}{v:Value}{L:List (Int × Int)}(h:ArgR W v L):∃ q cap,v=.slice q L.length cap/\L.length<=maxLen/\L.length<=cap /\
  (∀ (i:Nat) (r:Int × Int),L[i]?=some r->∃ g off,q=some ⟨g,off,none⟩/\g < W.heap.size/\W.cell? ⟨g,off+2 * i,none⟩=some (.int .i64 r.1)/\W.cell? ⟨g,off+2 * i+1,none⟩=some (.int .i64 r.2)):=by
 rcases h with⟨p,cap,rfl,rfl,-⟩ | ⟨g,off,cap,rfl,h2,h3,h4,h5⟩
 ·exact⟨p,cap,rfl,Nat.zero_le _,Nat.zero_le _,fun i x hx=>by simp at hx⟩
 ·exact⟨_,cap,rfl,Nat.le_trans h3 h4,h3,fun i x hx=>⟨g,off,rfl,h2,h5 i x hx⟩⟩
theorem ArgR.news{W:World}{ad:Addr}{n c:Nat}{L:List (Int × Int)}(h:ArgR W (.slice (some ad) n c) L):∀ j u,(aK L)[j]?=some u->W.cell? (ad.add j)=some u:=by
 intro j u hj
 have hjl:j < L.length * 2:=by have:=(List.getElem?_eq_some_iff.1 hj).1;rwa [cR] at this
 rcases h with⟨p,cap,e,rfl,-⟩ | ⟨g,off,cap,e,h2,h3,h4,h5⟩
 ·simp at hjl
 ·cases e
  obtain⟨q1,q2⟩:=h5 (j / 2) _ (List.getElem?_eq_getElem (by omega))
  obtain⟨r1,r2⟩:=eI L (j / 2) _ (List.getElem?_eq_getElem (by omega))
  have hadd:(⟨g,off,none⟩:Addr).add j=⟨g,off+j,none⟩:=by unfold Addr.add;split <;> simp_all
  rw [hadd]
  rcases Nat.mod_two_eq_zero_or_one j with e | e
  ·rw [show 2 * (j / 2)=j by omega] at q1 r1
   rw [q1,<- r1,hj]
  ·rw [show off+2 * (j / 2)+1=off+j by omega] at q2
   rw [show 2 * (j / 2)+1=j by omega] at r2
   rw [q2,<- r2,hj]
def RR(base:Nat)(w:World)(v:Value)(L:List (Int × Int)):Prop:=w.ownsRow base 48 2 v L.length (aK L)
theorem RR.arg{base:Nat}{w:World}{v:Value}{L:List (Int × Int)}(h:RR base w v L):ArgR w v L:=by
 have h':=h
 rcases h.2 with⟨rfl,hn⟩ | ⟨g,cap,cur,rfl,hg,hc,h1,h2,h3,h4⟩
 ·exact .inl ⟨none,0,rfl,List.eq_nil_of_length_eq_zero hn,fun _=>rfl⟩
 ·exact .inr ⟨g,0,cap,rfl,aA hc,h1,h2,fun i x hx=>by
   obtain⟨p1,p2⟩:=eI L i x hx
   rw [Nat.zero_add]
   exact⟨bI h' p1,bI h' p2⟩⟩
theorem RR.nil(base:Nat)(w:World):RR base w (.slice none 0 0) []:=⟨rfl,.inl ⟨rfl,rfl⟩⟩
theorem RR.fr{base:Nat}{w w':World}{v:Value}{L:List (Int × Int)}{S:Nat->Prop}(h:RR base w v L)(hf:Fr S w w')(hs:∀ k,v.ownBlock=some k->¬ S k):RR base w' v L:=bJ h hf hs
theorem RR.kept{base:Nat}{w w':World}{v:Value}{L:List (Int × Int)}(h:RR base w v L)(hb:Below w.heap.size w w'):RR base w' v L:=h.fr (S:=fun _=>False) (Fr.of_below hb) (fun _ _ q=>q)
theorem RR.mono{base base':Nat}{w:World}{v:Value}{L:List (Int × Int)}(h:RR base w v L)(hb:base'<=base):RR base' w v L:=bH h hb
theorem RR.shape{base:Nat}{w:World}{v:Value}{L:List (Int × Int)}(h:RR base w v L):∃ q c,v=.slice q L.length c:=aI h
structure IsC(C:List (Int × Int))(p:Int->Prop):Prop where
 cls:Cls C
 fit:Fit C
 mem:∀ c,In C c ↔ p c
theorem IsC.one{C D:List (Int × Int)}{p q:Int->Prop}(h:IsC C p)(k:IsC D q)(e:∀ c,p c ↔ q c):C=D:=
 iJ C D h.cls k.cls fun c=>(h.mem c).trans ((e c).trans (k.mem c).symm)
theorem IsC.to{C:List (Int × Int)}{p q:Int->Prop}(h:IsC C p)(e:∀ c,p c ↔ q c):IsC C q:=⟨h.cls,h.fit,fun c=>(h.mem c).trans (e c)⟩
def sV(w:World)(p:Int->Prop)(n:Nat)(e:Ending)(w':World):Prop:=∃ v C,e=.returned v/\RR w.heap.size w' v C/\IsC C p/\C.length<=n/\Below w.heap.size w w'
def top(m:Bool):Int:=if m then 1114111 else 255
def aJ(m:Bool)(c:Int):Prop:=0<=c/\c<=top m/\(m=true->c < 55296\/57343 < c)
def cB(m:Bool):List (Int × Int):=if m then [(0,55295),(57344,1114111)] else [(0,255)]
theorem eA(m:Bool):IsC (cB m) (aJ m):=by
 cases m with
 | true=>
  refine⟨⟨by simp [cB],by simp [cB]⟩,fun r hr=>?_,fun c=>?_⟩
  ·simp [cB] at hr
   rcases hr with rfl | rfl <;> simp
  ·simp [cB,In,aJ,top]
   omega
 | false=>
  refine⟨⟨by simp [cB],by simp [cB]⟩,fun r hr=>?_,fun c=>?_⟩
  ·simp [cB] at hr
   subst hr;simp
  ·simp [cB,In,aJ,top]
theorem dK(m:Bool):(cB m).length<=2:=by cases m <;> simp [cB]
theorem aD1(m:Bool)(w:World):Calls Tryz.prog 156 #[.bool m] w fun e w'=>e=.returned (.int .i64 (top m))/\w'=w:=by
 cases m with
 | true=>
  go_enter Tryz.func156,Tryz.ntmps156
  go_wp2
  go_ret
  exact⟨rfl,rfl⟩
 | false=>
  go_enter Tryz.func156,Tryz.ntmps156
  go_wp2
  go_ret
  exact⟨rfl,rfl⟩
theorem tZ(m:Bool)(w:World):Calls Tryz.prog 130 #[.bool m] w fun e w'=>∃ v,e=.returned v/\RR w.heap.size w' v (cB m)/\Below w.heap.size w w':=by
 cases m with
 | true=>
  go_enter Tryz.func130,Tryz.ntmps130
  go_wp2_with (go_at_call 156;refine(aD1 _ _).mono ?_;rintro e w5 ⟨rfl,h5⟩;subst w5)
  go_ret
  exact⟨_,rfl,World.ownsRow_lit w #[.int .i64 0,.int .i64 55295,.int .i64 57344,.int .i64 1114111] 2 lz9 (by unfold maxLen;omega) rfl,bz9⟩
 | false=>
  go_enter Tryz.func130,Tryz.ntmps130
  go_wp2_with (go_at_call 156;refine(aD1 _ _).mono ?_;rintro e w5 ⟨rfl,h5⟩;subst w5)
  go_ret
  exact⟨_,rfl,World.ownsRow_lit w #[.int .i64 0,.int .i64 255] 1 lz9 (by unfold maxLen;omega) rfl,bz9⟩
section
open Go
structure Md where
 c:Bool
 f:Bool
abbrev Rs(α:Type):=Except (Nat × Nat) α
def aX(s:ByteArray)(p:Nat)(t:List UInt8):Bool:=Lib.hasPrefix (s.data.toList.drop p) t
def un(m:Md)(s:ByteArray)(p:Nat):Int × Nat:=if m.c then (ch s p,wd s p) else ((bt s p:Int),1)
def chr(m:Md)(s:ByteArray)(p:Nat):Rs (Int × Nat):=if (un m s p).1 < 0 then .error (20,p) else .ok ((un m s p).1,p+(un m s p).2)
def fnd(s:ByteArray)(t:List UInt8)(k:Nat):Option Nat:=
 if Lib.index (s.data.toList.drop k) t < 0 then none else some (k+(Lib.index (s.data.toList.drop k) t).toNat)
def wit(s:ByteArray)(o p k:Nat):Rs Nat:=
 match fnd s [UInt8.ofNat (bt s (p+1)),93] (p+2+min k (s.size - (p+2))) with
 | none=>.error (33,o)
 | some e=>.ok e
def xZ(m:Md)(s:ByteArray)(o p:Nat):Rs (Int × Nat):=
 match wit s o p 1 with
 | .error e=>.error e
 | .ok e=>if (un m (s.extract (p+2) e) 0).1 < 0\/(un m (s.extract (p+2) e) 0).2 < e - (p+2) then .error (35,p) else .ok ((un m (s.extract (p+2) e) 0).1,e+2)
def vD(m:Md)(s:ByteArray)(o p:Nat):Rs (Int × Nat):=
 if p=s.size then .error (33,o) else if aX s p [91,46] then xZ m s o p else chr m s p
def spn(m:Md)(s:ByteArray)(o p:Nat):Rs (List (Int × Int) × Nat):=
 match vD m s o p with
 | .error e=>.error e
 | .ok (lo,q)=>
  if aX s q [45,93] || !aX s q [45] then .ok ([(lo,lo)],q)
  else if aX s (q+1) [91,58] || aX s (q+1) [91,61] then .error (34,p)
  else match vD m s o (q+1) with
   | .error e=>.error e
   | .ok (hi,r)=>if hi < lo then .error (34,p) else .ok ([(lo,hi)],r)
def nmd(s:ByteArray):Bool × List (Int × Int):=
 if s.toList==[97,108,110,117,109] then (true,[(48,57),(65,90),(97,122)])
 else if s.toList==[97,108,112,104,97] then (true,[(65,90),(97,122)])
 else if s.toList==[98,108,97,110,107] then (true,[(9,9),(32,32)])
 else if s.toList==[99,110,116,114,108] then (true,[(0,31),(127,127)])
 else if s.toList==[100,105,103,105,116] then (true,[(48,57)])
 else if s.toList==[103,114,97,112,104] then (true,[(33,126)])
 else if s.toList==[108,111,119,101,114] then (true,[(97,122)])
 else if s.toList==[112,114,105,110,116] then (true,[(32,126)])
 else if s.toList==[112,117,110,99,116] then (true,[(33,47),(58,64),(91,96),(123,126)])
 else if s.toList==[115,112,97,99,101] then (true,[(9,13),(32,32)])
 else if s.toList==[117,112,112,101,114] then (true,[(65,90)])
 else if s.toList==[120,100,105,103,105,116] then (true,[(48,57),(65,70),(97,102)])
 else (false,[])
def nam(s:ByteArray)(o p:Nat):Rs (List (Int × Int) × Nat):=
 match wit s o p 0 with
 | .error e=>.error e
 | .ok e=>if (nmd (s.extract (p+2) e)).1 then .ok ((nmd (s.extract (p+2) e)).2,e+2) else .error (35,p)
def sgl(m:Md)(s:ByteArray)(o p:Nat):Rs (List (Int × Int) × Nat):=
 if aX s p [91,58] then nam s o p
 else if aX s p [91,61] then (match xZ m s o p with
  | .error e=>.error e
  | .ok (c,q)=>.ok ([(c,c)],q))
 else spn m s o p
def itm(m:Md)(s:ByteArray)(o p:Nat):Rs (List (Int × Int) × Nat):=
 if !aX s p [45] || aX s p [45,93] then sgl m s o p else if p+1=s.size then .error (33,o) else .error (34,p)
def its(m:Md)(s:ByteArray)(o:Nat):Nat->Nat->List (Int × Int)->Rs (List (Int × Int) × Nat)
 | 0,_,_=>.error (33,o)
 | f+1,p,l=>if aX s p [93] then .ok (l,p+1) else match itm m s o p with
  | .error e=>.error e
  | .ok (l',q)=>its m s o f q (l ++ l')
structure Tk where
 kind:Nat
 n:Nat
 mn:Int
 mx:Int
 q:Int->Prop
def tT(Q:Int->Prop)(c:Int):Prop:=Q c\/(Q (c - 32)/\65<=c - 32/\c - 32<=90)\/(Q (c+32)/\97<=c+32/\c+32<=122)
def nW(m:Md)(L:List (Int × Int))(t:Bool)(c:Int):Prop:=
 aJ m.c c/\(if t then ¬ (if m.f then tT (In L) c else In L c) else if m.f then tT (In L) c else In L c)
def kJ(m:Md)(L:List (Int × Int))(t:Bool):Tk:=⟨1,0,0,0,nW m L t⟩
def kT(k:Nat):Tk:=⟨k,0,0,0,fun _=>False⟩
def gU(a b:Int):Tk:=⟨2,0,a,b,fun _=>False⟩
def nL(n:Nat):Tk:=⟨6,n,0,0,fun _=>False⟩
def brk(m:Md)(s:ByteArray)(p:Nat):Rs (Tk × Nat):=
 match sgl m s p (if aX s (p+1) [94] then p+2 else p+1) with
 | .error e=>.error e
 | .ok (l,r)=>match its m s p (s.size+1) r l with
  | .error e=>.error e
  | .ok (l2,r2)=>.ok (kJ m l2 (aX s (p+1) [94]),r2)
def dig(b:UInt8):Bool:=48<=b && b<=57
def jD(s:ByteArray)(p:Nat):List UInt8:=(s.data.toList.drop p).takeWhile dig
def kK(l:List UInt8):Nat:=l.foldl (fun n d=>min (10 * n+(d.toNat - 48)) 256) 0
def ivQ(s:ByteArray)(p:Nat):Nat:=p+2+(jD s (p+2)).length
def ivB(s:ByteArray)(p:Nat):Int:=if aX s (ivQ s p) [44] then (if (jD s (ivQ s p+1)).length=0 then -1 else (kK (jD s (ivQ s p+1)):Int)) else (kK (jD s (p+2)):Int)
def ivR(s:ByteArray)(p:Nat):Nat:=if aX s (ivQ s p) [44] then ivQ s p+1+(jD s (ivQ s p+1)).length else ivQ s p
def lH(s:ByteArray)(p:Nat):Rs (Tk × Nat):=
 if (jD s (p+2)).length=0\/aX s (ivR s p) [92,125]=false then .error (36,p)
 else if 255 < kK (jD s (p+2))\/255 < ivB s p\/(ivB s p≠-1/\ivB s p < kK (jD s (p+2))) then .error (37,p)
 else .ok (gU (kK (jD s (p+2))) (ivB s p),ivR s p+2)
def jJ(last:Nat):Bool:=last==0 || last==3 || last==5 || last==7
def esc(m:Md)(s:ByteArray)(p last:Nat):Rs (Tk × Nat):=
 if p+1=s.size then .error (31,p)
 else if bt s (p+1)=40 then .ok (kT 3,p+2)
 else if bt s (p+1)=41 then .ok (kT 4,p+2)
 else if bt s (p+1)=124 then .ok (kT 5,p+2)
 else if 49<=bt s (p+1)/\bt s (p+1)<=57 then .ok (nL (bt s (p+1) - 48),p+2)
 else if bt s (p+1)=43\/bt s (p+1)=63\/bt s (p+1)=123 then
  if jJ last then .error (38,p)
  else if bt s (p+1)=43 then .ok (gU 1 (-1),p+2)
  else if bt s (p+1)=63 then .ok (gU 0 1,p+2)
  else lH s p
 else if bt s (p+1)=46\/bt s (p+1)=91\/bt s (p+1)=93\/bt s (p+1)=42\/bt s (p+1)=94\/bt s (p+1)=36\/bt s (p+1)=92\/bt s (p+1)=47 then
  .ok (kJ m [((bt s (p+1):Int),(bt s (p+1):Int))] false,p+2)
 else .error (32,p)
def qK(s:ByteArray)(p:Nat):Bool:=decide (p+1=s.size) || aX s (p+1) [92,41] || aX s (p+1) [92,124]
def tok(m:Md)(s:ByteArray)(p last:Nat):Rs (Tk × Nat):=
 if aX s p [92] then esc m s p last
 else if aX s p [42] && !jJ last then .ok (gU 0 (-1),p+1)
 else if aX s p [94] && (p==0 || last==3 || last==5) then .ok (kT 7,p+1)
 else if aX s p [36] && qK s p then .ok (kT 8,p+1)
 else if aX s p [46] then .ok (kJ m [] true,p+1)
 else if aX s p [91] then brk m s p
 else match chr m s p with
  | .error e=>.error e
  | .ok (c,q)=>.ok (kJ m [(c,c)] false,q)
abbrev Tp:=Tk × Nat × Nat
def cW(T:List Tp):Nat:=match T.getLast? with
 | none=>0
 | some t=>t.1.kind
def lx(m:Md)(s:ByteArray):Nat->Nat->List Tp->Rs (List Tp)
 | 0,_,_=>.error (30,0)
 | f+1,p,T=>
  if p < s.size then (match tok m s p (cW T) with
   | .error e=>.error e
   | .ok (t,q)=>lx m s f q (T ++ [(t,p,q)]))
  else .ok T
def uX(m:Md)(s:ByteArray):Rs (List Tp):=if 2000 < s.size then .error (30,0) else lx m s (s.size+1) 0 []
theorem eV{s:ByteArray}{p:Nat}{t:List UInt8}(h:aX s p t=true)(ht:t≠[]):p+t.length<=s.size:=by
 have:=(List.isPrefixOf_iff_prefix.1 h).length_le
 rw [List.length_drop,aS] at this
 have:0 < t.length:=List.length_pos_iff.2 ht
 omega
theorem pF{s:ByteArray}{p:Nat}{t:List UInt8}:aX s p t=true ↔ ∀ i x,t[i]?=some x->s.data.toList[p+i]?=some x:=by
 unfold aX Lib.hasPrefix
 rw [List.isPrefixOf_iff_prefix,List.prefix_iff_getElem?]
 constructor
 ·intro h i x hx
  have:=h i (List.getElem?_eq_some_iff.1 hx).1
  rw [List.getElem?_drop] at this
  rw [this]
  exact congrArg some (List.getElem?_eq_some_iff.1 hx).2
 ·intro h i hi
  rw [List.getElem?_drop]
  exact h i _ (List.getElem?_eq_getElem hi)
theorem eJ{s:ByteArray}{p:Nat}{x:UInt8}:s.data.toList[p]?=some x ↔ p < s.size/\bt s p=x.toNat:=by
 rw [<- aS]
 constructor
 ·intro h
  obtain⟨h1,h2⟩:=List.getElem?_eq_some_iff.1 h
  refine⟨h1,?_⟩
  unfold bt
  rw [List.getD_eq_getElem?_getD,h];rfl
 ·rintro ⟨h1,h2⟩
  rw [List.getElem?_eq_getElem h1]
  unfold bt at h2
  rw [List.getD_eq_getElem?_getD,List.getElem?_eq_getElem h1] at h2
  exact congrArg some (UInt8.toNat_inj.1 h2)
theorem fW{s:ByteArray}{p:Nat}{x:UInt8}:aX s p [x]=true ↔ p < s.size/\bt s p=x.toNat:=by
 rw [pF]
 constructor
 ·intro h;exact eJ.1 (h 0 x rfl)
 ·intro h i y hy
  match i,hy with
  | 0,hy=>cases hy;exact eJ.2 h
  | i+1,hy=>simp at hy
theorem eE{s:ByteArray}{p:Nat}{x y:UInt8}:aX s p [x,y]=true ↔ p+1 < s.size/\bt s p=x.toNat/\bt s (p+1)=y.toNat:=by
 rw [pF]
 constructor
 ·intro h
  have h0:=eJ.1 (h 0 x rfl)
  have h1:=eJ.1 (h 1 y rfl)
  exact⟨h1.1,h0.2,h1.2⟩
 ·intro h i z hz
  match i,hz with
  | 0,hz=>cases hz;exact eJ.2 ⟨by omega,h.2.1⟩
  | 1,hz=>cases hz;exact eJ.2 ⟨h.1,h.2.2⟩
  | i+2,hz=>simp at hz
theorem lD(s:ByteArray)(t:List UInt8)(k j:Nat):Lib.occAt (s.data.toList.drop k) t j=aX s (k+j) t:=by
 unfold Lib.occAt aX Lib.hasPrefix
 rw [List.drop_drop]
theorem qF{s:ByteArray}{t:List UInt8}{k e:Nat}(h:fnd s t k=some e):k<=e/\aX s e t=true/\∀ j,k<=j->j < e->aX s j t=false:=by
 unfold fnd at h
 split at h
 ·cases h
 ·rename_i hn
  cases h
  rcases Lib.index_spec (s.data.toList.drop k) t with⟨h1,-⟩ | ⟨i,h1,h2,h3,h4⟩
  ·rw [h1] at hn;omega
  ·rw [h1,Int.toNat_natCast]
   rw [lD] at h3
   refine⟨by omega,h3,fun j hj1 hj2=>?_⟩
   have:=h4 (j - k) (by omega)
   rw [lD,show k+(j - k)=j by omega] at this
   exact this
theorem xP{s:ByteArray}{t:List UInt8}{k:Nat}(h:fnd s t k=none)(ht:t≠[]):∀ j,k<=j->aX s j t=false:=by
 unfold fnd at h
 split at h
 ·rename_i hn
  rcases Lib.index_spec (s.data.toList.drop k) t with⟨-,h1⟩ | ⟨i,h1,h2,h3,h4⟩
  ·intro j hj
   rcases Nat.lt_or_ge j (s.size+1) with g | g
   ·have:=h1 (j - k) (by rw [List.length_drop,aS];omega)
    rw [lD,show k+(j - k)=j by omega] at this
    exact this
   ·cases hs:aX s j t with
    | false=>rfl
    | true=>have:=eV hs ht;omega
  ·rw [h1] at hn;omega
 ·cases h
theorem aH2{s:ByteArray}{t:List UInt8}{k e:Nat}(ht:t≠[])(h1:k<=e)(h2:aX s e t=true)(h3:∀ j,k<=j->j < e->aX s j t=false):fnd s t k=some e:=by
 cases h:fnd s t k with
 | none=>rw [xP h ht e h1] at h2;cases h2
 | some x=>
  obtain⟨q1,q2,q3⟩:=qF h
  rcases Nat.lt_trichotomy x e with g | g | g
  ·rw [h3 x q1 g] at q2;cases q2
  ·rw [g]
  ·rw [q3 e h1 g] at h2;cases h2
theorem aI6(m:Md)(s:ByteArray)(p:Nat)(h:p < s.size):1<=(un m s p).2/\p+(un m s p).2<=s.size:=by
 unfold un
 split
 ·exact⟨nO s p,(mL s p h).2⟩
 ·simp only;omega
def Rng{α:Type}(s:ByteArray)(p:Nat)(f:α->Nat)(r:Rs α):Prop:=match r with
 | .error (c,a)=>(c=20\/30<=c/\c<=38)/\a<=s.size
 | .ok x=>p < f x/\f x<=s.size
theorem tY(m:Md)(s:ByteArray)(p:Nat)(h:p < s.size):Rng s p Prod.snd (chr m s p):=by
 unfold chr
 have:=aI6 m s p h
 split
 ·exact⟨.inl rfl,by omega⟩
 ·exact⟨by simp only;omega,by simp only;omega⟩
theorem aE1{s:ByteArray}{o p k e:Nat}(h:wit s o p k=.ok e):p+2+min k (s.size - (p+2))<=e/\e+2<=s.size:=by
 unfold wit at h
 split at h
 ·cases h
 ·rename_i x hx
  cases h
  obtain⟨h1,h2,-⟩:=qF hx
  have:=eV h2 (by simp)
  simp at this
  omega
theorem sW(s:ByteArray)(o p k:Nat)(ho:o<=s.size):Rng s p (fun e=>e+2) (wit s o p k):=by
 cases h:wit s o p k with
 | error e=>
  unfold wit at h
  split at h
  ·cases h;exact⟨.inr (by omega),ho⟩
  ·cases h
 | ok e=>have:=aE1 h;exact⟨by simp only;omega,by simp only;omega⟩
theorem qM(m:Md)(s:ByteArray)(o p:Nat)(ho:o<=s.size)(hp:p<=s.size):Rng s p Prod.snd (xZ m s o p):=by
 have:=sW s o p 1 ho
 unfold xZ
 split
 ·rename_i e he;rw [he] at this;exact this
 ·rename_i e he
  rw [he] at this
  split
  ·exact⟨.inr (by omega),hp⟩
  ·exact⟨this.1,this.2⟩
theorem qL(m:Md)(s:ByteArray)(o p:Nat)(ho:o<=s.size)(hp:p<=s.size):Rng s p Prod.snd (vD m s o p):=by
 unfold vD
 split
 ·exact⟨.inr (by omega),ho⟩
 split
 ·exact qM m s o p ho hp
 ·exact tY m s p (by omega)
theorem yW(m:Md)(s:ByteArray)(o p:Nat)(ho:o<=s.size)(hp:p<=s.size):Rng s p Prod.snd (spn m s o p):=by
 have h1:=qL m s o p ho hp
 unfold spn
 split
 ·rename_i e he;rw [he] at h1;exact h1
 ·rename_i lo q he
  rw [he] at h1
  split
  ·exact h1
  ·rename_i hq
   have hs:aX s q [45]=true:=by
    cases hx:aX s q [45] with
    | true=>rfl
    | false=>simp [hx] at hq
   have hl:=eV hs (by simp)
   simp at hl
   split
   ·exact⟨.inr (by omega),hp⟩
   ·have h2:=qL m s o (q+1) ho (by omega)
    split
    ·rename_i e hf;rw [hf] at h2;exact h2
    ·rename_i hi r hf
     rw [hf] at h2
     split
     ·exact⟨.inr (by omega),hp⟩
     ·exact⟨by have:=h1.1;have:=h2.1;simp only at *;omega,h2.2⟩
theorem zR(s:ByteArray)(o p:Nat)(ho:o<=s.size)(hp:p<=s.size):Rng s p Prod.snd (nam s o p):=by
 have:=sW s o p 0 ho
 unfold nam
 split
 ·rename_i e he;rw [he] at this;exact this
 ·rename_i e he
  rw [he] at this
  split
  ·exact⟨this.1,this.2⟩
  ·exact⟨.inr (by omega),hp⟩
theorem tC(m:Md)(s:ByteArray)(o p:Nat)(ho:o<=s.size)(hp:p<=s.size):Rng s p Prod.snd (sgl m s o p):=by
 unfold sgl
 split
 ·exact zR s o p ho hp
 split
 ·have h1:=qM m s o p ho hp
  split
  ·rename_i e he;rw [he] at h1;exact h1
  ·rename_i c q he;rw [he] at h1;exact h1
 ·exact yW m s o p ho hp
theorem zW(m:Md)(s:ByteArray)(o p:Nat)(ho:o<=s.size)(hp:p<=s.size):Rng s p Prod.snd (itm m s o p):=by
 unfold itm
 split
 ·exact tC m s o p ho hp
 split
 ·exact⟨.inr (by omega),ho⟩
 ·exact⟨.inr (by omega),hp⟩
theorem tP(m:Md)(s:ByteArray)(o:Nat)(ho:o<=s.size):∀ (f p:Nat) (l:List (Int × Int)),p<=s.size->Rng s p Prod.snd (its m s o f p l)
 | 0,p,l,hp=>⟨.inr (by omega),ho⟩
 | f+1,p,l,hp=>by
  unfold its
  split
  ·rename_i h
   have:=eV h (by simp)
   simp at this
   exact⟨by simp only;omega,by simp only;omega⟩
  ·have h1:=zW m s o p ho hp
   split
   ·rename_i e he;rw [he] at h1;exact h1
   ·rename_i l' q he
    rw [he] at h1
    have h2:=tP m s o ho f q (l ++ l') h1.2
    cases hx:its m s o f q (l ++ l') with
    | error e=>rw [hx] at h2;exact h2
    | ok r=>rw [hx] at h2;exact⟨by have:=h1.1;have:=h2.1;simp only at *;omega,h2.2⟩
theorem aB9(m:Md)(s:ByteArray)(p:Nat)(hp:p < s.size):Rng s p Prod.snd (brk m s p):=by
 unfold brk
 have hq:p < (if aX s (p+1) [94] then p+2 else p+1)/\(if aX s (p+1) [94] then p+2 else p+1)<=s.size:=by
  split
  ·rename_i h
   have:=eV h (by simp)
   simp at this
   omega
  ·omega
 have h1:=tC m s p _ (by omega) hq.2
 split
 ·rename_i e he;rw [he] at h1;exact h1
 ·rename_i l r he
  rw [he] at h1
  have h2:=tP m s p (by omega) (s.size+1) r l h1.2
  split
  ·rename_i e hf;rw [hf] at h2;exact h2
  ·rename_i l2 r2 hf
   rw [hf] at h2
   exact⟨by have:=h1.1;have:=h2.1;simp only at *;omega,h2.2⟩
theorem aG6(s:ByteArray)(p:Nat):p+2<=ivR s p:=by
 unfold ivR ivQ
 split <;> omega
theorem xJ(s:ByteArray)(p:Nat)(h:p+1 < s.size):Rng s p Prod.snd (lH s p):=by
 unfold lH
 split
 ·exact⟨.inr (by omega),by omega⟩
 split
 ·exact⟨.inr (by omega),by omega⟩
 ·rename_i h1 _
  have h2:aX s (ivR s p) [92,125]=true:=by
   cases hx:aX s (ivR s p) [92,125] with
   | true=>rfl
   | false=>exact absurd (.inr hx) h1
  have h3:=eV h2 (by simp)
  have h4:=aG6 s p
  simp only [List.length_cons,List.length_nil] at h3
  exact⟨by simp only;omega,by simpa using h3⟩
theorem aA7(m:Md)(s:ByteArray)(p last:Nat)(h:p < s.size):Rng s p Prod.snd (esc m s p last):=by
 unfold esc
 split
 ·exact⟨.inr (by omega),by omega⟩
 have h2:∀ t:Tk,Rng s p Prod.snd (.ok (t,p+2):Rs (Tk × Nat)):=fun t=>⟨by simp only;omega,by simp only;omega⟩
 have h3:∀ c,30<=c->c<=38->Rng s p Prod.snd (.error (c,p):Rs (Tk × Nat)):=fun c h1 h2=>⟨.inr ⟨h1,h2⟩,by omega⟩
 have h4:=xJ s p (by omega)
 repeat' split
 all_goals first | exact h2 _ | exact h4 | exact h3 _ (by omega) (by omega)
theorem yT(m:Md)(s:ByteArray)(p last:Nat)(h:p < s.size):Rng s p Prod.snd (tok m s p last):=by
 unfold tok
 have h2:∀ t:Tk,Rng s p Prod.snd (.ok (t,p+1):Rs (Tk × Nat)):=fun t=>⟨by simp only;omega,by simp only;omega⟩
 split
 ·exact aA7 m s p last h
 split
 ·exact h2 _
 split
 ·exact h2 _
 split
 ·exact h2 _
 split
 ·exact h2 _
 split
 ·exact aB9 m s p h
 ·have h5:=tY m s p h
  split
  ·rename_i e he;rw [he] at h5;exact h5
  ·rename_i c q he;rw [he] at h5;exact h5
end
section
open Go
def gJ(t:Tk):Prop:=1<=t.kind/\t.kind<=8/\t.n<=9/\(-1<=t.mn/\t.mn<=255)/\(-1<=t.mx/\t.mx<=255)
def OKr(r:Rs (Tk × Nat)):Prop:=match r with
 | .error _=>True
 | .ok x=>gJ x.1
theorem kM(m:Md)(L:List (Int × Int))(t:Bool):gJ (kJ m L t):=by simp [gJ,kJ]
theorem aI2(m:Md)(s:ByteArray)(p:Nat):OKr (brk m s p):=by
 unfold brk
 split
 ·trivial
 ·split
  ·trivial
  ·exact kM ..
theorem zX(s:ByteArray)(p:Nat):OKr (lH s p):=by
 unfold lH
 split
 ·trivial
 split
 ·trivial
 ·rename_i h
  refine⟨by simp [gU],by simp [gU],by simp [gU],?_,?_⟩
  ·simp only [gU];omega
  ·have:-1<=ivB s p:=by unfold ivB;split <;> (try split) <;> omega
   simp only [gU];omega
theorem aH5(m:Md)(s:ByteArray)(p last:Nat):OKr (esc m s p last):=by
 unfold esc
 have h4:=zX s p
 repeat' split
 all_goals first | trivial | exact h4 | exact kM .. |(refine⟨?_,?_,?_,?_,?_⟩ <;> simp [kT,gU,nL] <;> omega) |(simp [OKr,gJ,kT,gU,nL])
theorem vV(m:Md)(s:ByteArray)(p last:Nat):OKr (tok m s p last):=by
 unfold tok
 split
 ·exact aH5 ..
 split
 ·simp [OKr,gJ,gU]
 split
 ·simp [OKr,gJ,kT]
 split
 ·simp [OKr,gJ,kT]
 split
 ·exact kM ..
 split
 ·exact aI2 ..
 ·split
  ·trivial
  ·exact kM ..
def plc(T:List Tp):Nat->Nat
 | 0=>0
 | i+1=>match T[i]? with
  | some t=>t.2.2
  | none=>0
structure Stands(s:ByteArray)(T:List Tp)(p:Nat):Prop where
 each:∀ i t,T[i]?=some t->t.2.1=plc T i/\t.2.1 < t.2.2/\t.2.2<=s.size/\gJ t.1
 last:plc T T.length=p
 few:T.length<=p
theorem tK(T:List Tp)(x:Tp)(i:Nat)(h:i<=T.length):plc (T ++ [x]) i=plc T i:=by
 cases i with
 | zero=>rfl
 | succ i=>
  simp only [plc]
  rw [List.getElem?_append_left (by omega)]
theorem zL(T:List Tp)(x:Tp):plc (T ++ [x]) (T.length+1)=x.2.2:=by
 simp only [plc]
 rw [List.getElem?_append_right lz9,Nat.sub_self]
 rfl
theorem Stands.nil(s:ByteArray):Stands s [] 0:=⟨fun i t h=>by simp at h,rfl,Nat.le_refl _⟩
theorem Stands.add{s:ByteArray}{T:List Tp}{p:Nat}(h:Stands s T p){t:Tk}{q:Nat}(h1:p < q)(h2:q<=s.size)(h3:gJ t):Stands s (T ++ [(t,p,q)]) q:=by
 refine⟨fun i x hx=>?_,?_,?_⟩
 ·rcases Nat.lt_trichotomy i T.length with g | g | g
  ·rw [List.getElem?_append_left g] at hx
   rw [tK _ _ _ (by omega)]
   exact h.each i x hx
  ·subst g
   rw [List.getElem?_append_right lz9,Nat.sub_self] at hx
   simp at hx
   subst hx
   rw [tK _ _ _ lz9,h.last]
   exact⟨rfl,h1,h2,h3⟩
  ·rw [List.getElem?_append_right (by omega),List.getElem?_eq_none (by simp;omega)] at hx
   cases hx
 ·rw [List.length_append];exact zL T _
 ·rw [List.length_append]
  have:=h.few
  simp;omega
end
section
open Go
structure Emb(k:Nat)(s s':ByteArray):Prop where
 size:s.size+k<=s'.size
 get:∀ p,p < s.size->s'.data.toList[p+k]?=s.data.toList[p]?
theorem uY(T:List Tp)(x:Tp):cW (T ++ [x])=x.1.kind:=by simp [cW]
section
variable {k:Nat} {s s':ByteArray} (h:Emb k s s')
include h
end
end
structure Fl where
 k:Int
 n:Int
 mn:Int
 mx:Int
 rs:List (Int × Int)
 rq:Option Addr
 rc:Nat
 kq:Option Addr
 kl:Nat
 kc:Nat
inductive Tr where
 | mk (f:Fl) (ks:List Tr)
def Tr.f:Tr->Fl | .mk f _=>f
def Tr.ks:Tr->List Tr | .mk _ ks=>ks
abbrev Way:=List (Tr × Nat)
abbrev El:=Way × Tr
mutual
def pp:Way->Tr->List El
 | p,.mk f ks=>(p,.mk f ks) :: pps (.mk f ks) p 0 ks
def pps(par:Tr)(p:Way):Nat->List Tr->List El
 | _,[]=>[]
 | i,t :: ts=>pp ((par,i) :: p) t ++ pps par p (i+1) ts
end
theorem cN(p:Way)(t:Tr):pp p t=(p,t) :: pps t p 0 t.ks:=by
 cases t
 rw [pp]
 rfl
theorem aT(par:Tr)(p:Way)(i:Nat)(t:Tr)(ts:List Tr):pps par p i (t :: ts)=pp ((par,i) :: p) t ++ pps par p (i+1) ts:=by rw [pps]
theorem aQ(par:Tr)(p:Way)(i:Nat):pps par p i []=[]:=by rw [pps]
mutual
def Tr.sz:Tr->Nat | .mk _ ks=>szs ks+1
def szs:List Tr->Nat | []=>0 | t :: ts=>t.sz+szs ts
end
theorem oY(t:Tr):t.sz=szs t.ks+1:=by cases t;rw [Tr.sz];rfl
theorem iM(t:Tr)(ts:List Tr):szs (t :: ts)=t.sz+szs ts:=by rw [szs]
theorem sY:szs []=0:=by rw [szs]
theorem nT(t:Tr):1<=t.sz:=by rw [oY];omega
theorem aE6{t:Tr}{ks:List Tr}(h:t∈ks):t.sz<=szs ks:=by
 induction ks with
 | nil=>cases h
 | cons x r ih=>
  rw [iM]
  rcases List.mem_cons.1 h with e | e
  ·subst e;omega
  ·have:=ih e;omega
theorem nU{t u:Tr}(h:u∈t.ks):u.sz < t.sz:=by rw [oY t];have:=aE6 h;omega
theorem Tr.ind{P:Tr->Prop}(h:∀ t,(∀ u∈t.ks,P u)->P t)(t:Tr):P t:=by
 have:∀ (m:Nat) (t:Tr),t.sz<=m->P t:=by
  intro m
  induction m with
  | zero=>intro t ht;have:=nT t;omega
  | succ m ih=>intro t ht;exact h t fun u hu=>ih u (by have:=nU hu;omega)
 exact this t.sz t lz9
theorem rT{ks:List Tr}(h:∀ t∈ks,∀ p,(pp p t).length=t.sz)(par:Tr)(p:Way)(i:Nat):(pps par p i ks).length=szs ks:=by
 induction ks generalizing i with
 | nil=>rw [aQ,sY];rfl
 | cons t ts ih=>
  rw [aT,iM,List.length_append,h t (List.mem_cons_self ..),ih (fun u hu=>h u (List.mem_cons_of_mem _ hu))]
theorem rU(t:Tr):∀ p,(pp p t).length=t.sz:=by
 refine Tr.ind (P:=fun t=>∀ p,(pp p t).length=t.sz) (fun t ih p=>?_) t
 rw [cN,oY,List.length_cons,rT ih]
def Nx(x y:El):Prop:=∃ (par:Tr) (j:Nat) (rest:Way),y.1=(par,j) :: rest/\((par=x.2/\j=0/\rest=x.1)\/∃ s i,x.1=s ++ (par,i) :: rest/\j=i+1)
def Ch:List El->Prop
 | []=>True
 | [_]=>True
 | x :: y :: r=>Nx x y/\Ch (y :: r)
theorem jG{a b:List El}(ha:Ch a)(hb:Ch b)(h:∀ x∈a.getLast?,∀ y∈b.head?,Nx x y):Ch (a ++ b):=by
 induction a with
 | nil=>exact hb
 | cons x a ih=>
  cases a with
  | nil=>
   cases b with
   | nil=>trivial
   | cons y b=>exact⟨h x (by simp) y (by simp),hb⟩
  | cons z a=>exact⟨ha.1,ih ha.2 fun u hu=>h u (by rw [List.getLast?_cons_cons];exact hu)⟩
theorem yJ{a b:List El}{x y:El}(h:Ch (a ++ x :: y :: b)):Nx x y:=by
 induction a with
 | nil=>exact h.1
 | cons z a ih=>
  cases a with
  | nil=>exact h.2.1
  | cons u a=>exact ih h.2
theorem oA{ks:List Tr}(h:∀ t∈ks,∀ p,Ch (pp p t)/\∀ z∈pp p t,∃ s,z.1=s ++ p)(par:Tr)(p:Way)(i:Nat) :
  Ch (pps par p i ks)/\(∀ z∈pps par p i ks,∃ s j,z.1=s ++ (par,j) :: p)/\∀ z∈(pps par p i ks).head?,z.1=(par,i) :: p:=by
 induction ks generalizing i with
 | nil=>rw [aQ];exact⟨trivial,fun z hz=>(by cases hz),fun z hz=>(by cases hz)⟩
 | cons t ts ih=>
  obtain⟨c1,c2⟩:=h t (List.mem_cons_self ..) ((par,i) :: p)
  obtain⟨d1,d2,d3⟩:=ih (fun u hu=>h u (List.mem_cons_of_mem _ hu)) (i+1)
  rw [aT]
  refine⟨jG c1 d1 fun x hx y hy=>?_,fun z hz=>?_,fun z hz=>?_⟩
  ·obtain⟨s,hs⟩:=c2 x (List.mem_of_getLast? hx)
   exact⟨par,i+1,p,d3 y hy,.inr ⟨s,i,hs,rfl⟩⟩
  ·rcases List.mem_append.1 hz with q | q
   ·obtain⟨s,hs⟩:=c2 z q
    exact⟨s,i,hs⟩
   ·exact d2 z q
  ·rw [cN] at hz
   simp at hz
   subst hz
   rfl
theorem wP(t:Tr):∀ p,Ch (pp p t)/\∀ z∈pp p t,∃ s,z.1=s ++ p:=by
 refine Tr.ind (P:=fun t=>∀ p,Ch (pp p t)/\∀ z∈pp p t,∃ s,z.1=s ++ p) (fun t ih p=>?_) t
 obtain⟨d1,d2,d3⟩:=oA ih t p 0
 rw [cN]
 refine⟨jG (a:=[(p,t)]) trivial d1 fun x hx y hy=>?_,fun z hz=>?_⟩
 ·simp at hx
  subst hx
  exact⟨t,0,p,d3 y hy,.inl ⟨rfl,rfl,rfl⟩⟩
 ·rcases List.mem_cons.1 hz with q | q
  ·subst q
   exact⟨[],rfl⟩
  ·obtain⟨s,j,hs⟩:=d2 z q
   exact⟨s ++ [(t,j)],by simp [hs]⟩
theorem mN{t:Tr}{pre:List El}{x y:El}(h:pre ++ [x] ++ [y] <+: pp [] t):Nx x y:=by
 obtain⟨r,hr⟩:=h
 have:=(wP t []).1
 rw [<- hr,show pre ++ [x] ++ [y] ++ r=pre ++ x :: y :: r by simp] at this
 exact yJ this
theorem kR{t:Tr}{x:El}(h:[x] <+: pp [] t):x=([],t):=by
 rw [cN] at h
 obtain⟨r,hr⟩:=h
 simp at hr
 exact hr.1
mutual
def cH(P:Tr->Prop):Tr->Prop | .mk f ks=>P (.mk f ks)/\kB P ks
def kB(P:Tr->Prop):List Tr->Prop | []=>True | t :: ts=>cH P t/\kB P ts
end
theorem bE{P:Tr->Prop}(t:Tr):cH P t ↔ P t/\kB P t.ks:=by cases t;rw [cH];rfl
theorem bP{P:Tr->Prop}(ks:List Tr):kB P ks ↔ ∀ t∈ks,cH P t:=by
 induction ks with
 | nil=>rw [kB];simp
 | cons t ts ih=>rw [kB,ih];simp
theorem dZ{P:Tr->Prop}{t u:Tr}(h:cH P t)(hu:u∈t.ks):cH P u:=(bP _).1 ((bE t).1 h).2 u hu
theorem qI{P:Tr->Prop}(t:Tr):∀ p,cH P t->∀ z∈pp p t,cH P z.2:=by
 refine Tr.ind (P:=fun t=>∀ p,cH P t->∀ z∈pp p t,cH P z.2) (fun t ih p he z hz=>?_) t
 rw [cN] at hz
 rcases List.mem_cons.1 hz with q | q
 ·subst q;exact he
 ·have:∀ (ks:List Tr) (i:Nat),(∀ u∈ks,u∈t.ks)->z∈pps t p i ks->cH P z.2:=by
   intro ks
   induction ks with
   | nil=>intro i _ h;rw [aQ] at h;cases h
   | cons u us ih2=>
    intro i hs h
    rw [aT] at h
    rcases List.mem_append.1 h with g | g
    ·exact ih u (hs u (List.mem_cons_self ..)) _ (dZ he (hs u (List.mem_cons_self ..))) z g
    ·exact ih2 (i+1) (fun v hv=>hs v (List.mem_cons_of_mem _ hv)) g
  exact this t.ks 0 (fun _ h=>h) q
section
open Go Go.RowKit Go.Shelf
theorem oS{W W':World}(hb:Below W.heap.size W W'):W.grownBy W' none:=⟨hb.os,hb.tape,hb.output,hb.size,fun k hk _=>hb.block k hk⟩
structure CKeep(N:Nat->Prop)(W W':World):Prop where
 size:W.heap.size<=W'.heap.size
 same:∀ (k:Nat) (cur:Array Value) (t:TypeId) (fr:Nat × Nat),N k->W.heap[k]?=some (.cells cur t fr)->W'.heap[k]?=some (.cells cur t fr)
theorem CKeep.trans{N:Nat->Prop}{A B C:World}(h:CKeep N A B)(k:CKeep N B C):CKeep N A C:=⟨Nat.le_trans h.size k.size,fun i cur t fr hi hc=>k.same i cur t fr hi (h.same i cur t fr hi hc)⟩
theorem CKeep.put{N:Nat->Prop}{W:World}{l:Nat}{o:Obj}(o':Obj)(h:W.heap[l]?=some o)(hc:o.isCells=false):CKeep N W (W.putObj l o'):=
 ⟨(grownBy_putObj' W l o').size,fun k cur t fr _ hk=>by
  have hne:k≠l:=fun e=>by subst e;rw [hk] at h;cases h;cases hc
  exact(World.putObj_heap_other hne).trans hk⟩
theorem Fr.ckeep{S N:Nat->Prop}{W W':World}(h:Fr S W W')(hs:∀ k,S k->¬ N k):CKeep N W W':=
 ⟨h.size,fun k _ _ _ hk hc=>(h.block k (aA hc) (fun q=>hs k q hk)).trans hc⟩
theorem Fr.keepsFrom{S:Nat->Prop}{N:Nat}{W W':World}(h:Fr S W W')(hs:∀ k,S k->k < N):KeepsFrom N W W':=
 ⟨h.size,fun k o hk hc _=>(h.block k (aA hc) (fun q=>by have:=hs k q;omega)).trans hc⟩
def aE0{α:Type}(n:Nat)(P:Program)(gf:Nat)(lb:Array Value)(aR:α->Array Value)(N:Nat->Prop)(Told:List α->α->World->Prop)(S Sp:List α->Prop)(w:World):Prop:=
 ∀ (l:Nat) (J Jx:List α->World->Prop) (W:World),Below w.heap.size w W->OwnFrom W.heap.size J->OwnFrom W.heap.size Jx->(∀ pre V,J pre V->pre.length<=1000000) ->
  (∀ pre x V,J pre V->Told pre x V->YieldAt Fence.wide (n - 1) P l (aR x) V fun e V'=>KeepsFrom W.heap.size V V'/\((e=.returned (.bool true)/\J (pre ++ [x]) V'/\CKeep N V V')\/(e=.returned (.bool false)/\Jx (pre ++ [x]) V'))) ->
  J [] W->CallsIn Fence.wide n P gf (#[.func (.yield l) #[] #[]] ++ lb) W fun e V=>(∃ v,e=.returned v)/\((∃ xs,S xs/\J xs V)\/(∃ pre,Sp pre/\Jx pre V))
theorem cO{β:Type}{B:Nat}{J:β->World->Prop}(h:OwnFrom B J){s:β}{A A':World}(hj:J s A)(hb:Below A.heap.size A A'):J s A':=h s A A' none hj (oS hb) (fun _ e=>by cases e)
theorem fI{β:Type}{B B':Nat}{J:β->World->Prop}(h:OwnFrom B J)(hB:B<=B'):OwnFrom B' J:=fun s W W' row hs hg hr=>h s W W' row hs hg (fun r e=>⟨Nat.le_trans hB (hr r e).1,(hr r e).2⟩)
theorem iV{B B':Nat}{W W':World}(h:KeepsFrom B W W')(hB:B<=B'):KeepsFrom B' W W':=⟨h.size,fun k o hk hc ho=>h.same k o (Nat.le_trans hB hk) hc ho⟩
theorem dY{B:Nat}(W:World){l:Nat}(o:Obj)(hl:l < B):KeepsFrom B W (W.putObj l o):=
 ⟨(grownBy_putObj' W l o).size,fun k _ hk hc _=>(World.putObj_heap_other (by omega)).trans hc⟩
theorem qR{N:Nat->Prop}{W W':World}(hb:Below W.heap.size W W'):CKeep N W W':=⟨hb.size,fun k _ _ _ _ hc=>(hb.block k (aA hc)).trans hc⟩
theorem gE{B:Nat}{W W':World}(hb:Below W.heap.size W W'):KeepsFrom B W W':=⟨hb.size,fun k _ _ hc _=>(hb.block k (aA hc)).trans hc⟩
section
variable {α:Type} {P:Program}
def Rc(D:Nat)(r:Loop)(W:World):Prop:=W.heap[D+1]?=some (.loop r)/\W.heap[D]?=some (.deferred (some []))
theorem Rc.below{D:Nat}{r:Loop}{W W':World}(h:Rc D r W)(hb:Below W.heap.size W W'):Rc D r W':=
 ⟨(hb.block _ (aA h.1)).trans h.1,(hb.block _ (aA h.2)).trans h.2⟩
theorem Rc.from{D:Nat}{r:Loop}{W W':World}(h:Rc D r W)(hk:KeepsFrom D W W'):Rc D r W':=⟨hk.same _ _ (by omega) h.1 rfl,hk.same _ _ lz9 h.2 rfl⟩
theorem Rc.put{D:Nat}{r:Loop}{W:World}(h:Rc D r W)(r':Loop):Rc D r' (W.putObj (D+1) (.loop r')):=
 ⟨World.putObj_heap_same (aA h.1),(World.putObj_heap_other (by omega)).trans h.2⟩
theorem nY{β:Type}{D:Nat}(r:Loop):OwnFrom (D+2) (fun (_:β) W=>Rc D r W):=fun _ A B row h hg hrow=>
 ⟨(hg.block _ (aA h.1) (fun e=>by have:=(hrow _ e.symm).1;omega)).trans h.1,(hg.block _ (aA h.2) (fun e=>by have:=(hrow _ e.symm).1;omega)).trans h.2⟩
theorem rP{D:Nat}{N:Nat->Prop}{r:Loop}{I:List α->World->Prop}{Ix:Code->List α->World->Prop}{xs:List α}{V W W3:World}{e:Exit}{a3:Act}
  (hI:OwnFrom D I) (hIx:∀ c,OwnFrom D (Ix c)) (hc:CKeep N V W) (hr:Rc D { r with state:=.busy } W)
  (hv:KeepsFrom (D+2) V W) (hp:ownPostG D (CKeep N) I Ix xs W e a3 W3):roundPost P (D+1) (fun e V'=>KeepsFrom (D+2) V V'/\((e=.returned (.bool true)/\(I xs V'/\Rc D { r with state:=.ready,pending:=none } V')/\CKeep N V V')\/(e=.returned (.bool false)/\∃ c,Ix c xs V'/\Rc D { r with state:=.done,pending:=some c } V'))) e a3 W3:=by
 have out:∀ c:Code,KeepsFrom D W W3->Ix c xs W3->∃ v V',(Instr.endRound (D+1) (some c)).run P W3=.ok v V'/\(KeepsFrom (D+2) V V'/\((Ending.returned v=.returned (.bool true)/\(I xs V'/\Rc D { r with state:=.ready,pending:=none } V')/\CKeep N V V')\/(Ending.returned v=.returned (.bool false)/\∃ c,Ix c xs V'/\Rc D { r with state:=.done,pending:=some c } V'))):=fun c hk hi=>by
  have h3:=hr.from hk
  exact⟨_,_,run_endRound (some c) h3.1,(hv.trans (iV hk (by omega))).trans (dY _ _ (by omega)),.inr ⟨rfl,c,(hIx c).putObj _ hi (by omega) h3.1 rfl,h3.put _⟩⟩
 cases e with
 | normal=>
  obtain⟨hk,hkp,hi⟩:=hp
  have h3:=hr.from hk
  exact⟨_,_,run_endRound none h3.1,(hv.trans (iV hk (by omega))).trans (dY _ _ (by omega)),.inl ⟨rfl,⟨hI.putObj _ hi (by omega) h3.1 rfl,h3.put _⟩,(hc.trans hkp).trans (CKeep.put _ h3.1 rfl)⟩⟩
 | ret=>exact out .ret hp.1 hp.2
 | exit id=>exact out (.exit id) hp.1 hp.2
 | goto t=>exact out (.goto t) hp.1 hp.2
 | panic ch=>exact hp.elim
 | outgrown=>exact hp.elim
theorem rQ{g:Operand}{ps:Array Tmp}{assign body:Code}{Q:Exit->Act->World->Prop}{a:Act}{w:World}{n:Nat}(h1:1<=n){gf:Nat}{lb:Array Value}
  (hg:a.eval g=.func (.func gf) #[] lb) (eg:∀ args w,(callFunc gf args).run P w=.ok (.enter gf args) w) {aR:α->Array Value} (hps:∀ x,(aR x).size=ps.size)
  {N:Nat->Prop} {Told:List α->α->World->Prop} {S Sp:List α->Prop} (hseq:aE0 (n - 1) P gf lb aR N Told S Sp w)
  (I:List α->World->Prop) (Ix:Code->List α->World->Prop) (hI:OwnFrom w.heap.size I) (hIx:∀ c,OwnFrom w.heap.size (Ix c)) (hT:∀ pre x,OwnFrom w.heap.size (fun (_:Unit) W=>Told pre x W)) (hbd:∀ pre W,I pre W->pre.length<=1000000) (h0:I [] w) (Ax:α->Act->World->Prop) (hAx:∀ x a',OwnFrom w.heap.size (fun (_:Unit) W=>Ax x a' W))
  (hassign:∀ (l:Nat) (pre:List α) (x:α) (W:World) (K:Act->World->Prop),I pre W->Told pre x W->(∀ a' W',Below W.heap.size W W'->Ax x a' W'->K a' W') ->
   assign.wpIn (Fence.wide.inRound l) (n - 1 - 1) P (Exit.then K (fun _ _ _=>False)) { tmps:=(ps.zip (aR x)).foldl (fun t (p,v)=>t.setIfInBounds p v) a.tmps,defers:=[] } W)
  (hbody:∀ (l:Nat) (pre:List α) (x:α) (a':Act) (W:World),I pre W->Told pre x W->Ax x a' W->body.wpIn (Fence.wide.inRound l) (n - 1 - 1) P (ownPostG w.heap.size (CKeep N) I Ix (pre ++ [x]) W) a' W)
  (hdone:∀ (D:Nat) (xs:List α) (W:World),w.heap.size<=D->S xs->I xs W->W.heap[D]?=some (.deferred (some []))->Q .normal { a with defers:={ target:=.collected D,args:=#[] } :: a.defers } W)
  (hstop:∀ (D:Nat) (c:Code) (pre:List α) (W:World),w.heap.size<=D->Sp pre->Ix c pre W->W.heap[D]?=some (.deferred (some []))->c.wpIn Fence.wide n P Q { a with defers:={ target:=.collected D,args:=#[] } :: a.defers } W) :
  (Code.rangeFunc g ps assign body).wpIn Fence.wide n P Q a w:=by
 refine wpIn_rangeFunc fun fn hfn=>?_
 let r:Loop:={ state:=.ready,pending:=none,fn:=fn,tmps:=a.tmps,params:=ps,assign:=assign,body:=body,defers:=w.heap.size }
 have hB:Below w.heap.size w ((w.alloc (.deferred (some []))).alloc (.loop r)):=(bz9).alloc (by simp) _
 have hz:((w.alloc (.deferred (some []))).alloc (.loop r)).heap.size=w.heap.size+2:=by simp
 have hR:Rc w.heap.size r ((w.alloc (.deferred (some []))).alloc (.loop r)):=by
  refine⟨?_,(Below.heap_alloc _ _ _ (by simp)).trans (World.alloc_heap_new w _)⟩
  have:=World.alloc_heap_new (w.alloc (.deferred (some []))) (.loop r)
  rwa [World.size_alloc] at this
 refine⟨w.heap.size+1,[{ target:=.collected w.heap.size,args:=#[] }],((w.alloc (.deferred (some []))).alloc (.loop r)),{ target:=.fn (.func gf) lb,args:=#[.func (.yield (w.heap.size+1)) #[] #[]] },((w.alloc (.deferred (some []))).alloc (.loop r)),gf,#[.func (.yield (w.heap.size+1)) #[] #[]] ++ lb,((w.alloc (.deferred (some []))).alloc (.loop r)),
  run_enterLoop_outer _ _ _ _ _,?_,fun _ _=>trivial,?_,fun _=>h1,?_⟩
 ·simp only [resolve,hg]
  simp [go_sem]
 ·simp [invoke,go_sem,eg]
 ·refine(hseq (w.heap.size+1) (fun pre W=>I pre W/\Rc w.heap.size r W) (fun pre W=>∃ c,Ix c pre W/\Rc w.heap.size { r with state:=.done,pending:=some c } W) _ hB
   ?_ ?_ (fun pre V h=>hbd pre V h.1) ?_ ⟨hI.alloc _ (hI.alloc _ h0),hR⟩).mono ?_
  ·rw [hz]
   exact(fI hI (by omega)).and (nY _)
  ·rw [hz]
   rintro pre A B row ⟨c,hi,hr⟩ hg hrow
   exact⟨c,fI (hIx c) (by omega) pre A B row hi hg hrow,nY (β:=Unit) _ () A B row hr hg hrow⟩
  ·rw [hz]
   rintro pre x V ⟨hi,hr⟩ ht
   refine⟨fn,_,assign,body,run_yield hr.1 (hps x),roundIn_of_wpIn hfn (hassign _ pre x V _ hi ht ?_)⟩
   intro a' W' hb hax
   have hr':=hr.below hb
   refine⟨_,run_beginRound hr'.1 rfl,?_⟩
   have hr2:Rc w.heap.size { r with state:=.busy } (W'.putObj (w.heap.size+1) (.loop { r with state:=.busy })):=hr'.put _
   exact wpIn_mono (hbody _ pre x a' _ (hI.putObj _ (cO hI hi hb) (by omega) hr'.1 rfl) ((hT pre x).putObj (s:=()) _ (cO (hT pre x) (s:=()) ht hb) (by omega) hr'.1 rfl) ((hAx x a').putObj (s:=()) _ hax (by omega) hr'.1 rfl)) fun e a3 W3 hp=>
    rP (r:=r) hI hIx ((qR hb).trans (CKeep.put _ hr'.1 rfl)) hr2 ((gE hb).trans (dY _ _ (by omega))) hp
  ·rintro e V ⟨⟨v,rfl⟩,(⟨xs,hS,hi,hr⟩ | ⟨pre,hSp,c,hi,hr⟩)⟩
   ·exact⟨none,_,run_endLoop hr.1 (by simp [r]),hdone _ xs _ lz9 hS (hI.putObj _ hi (by omega) hr.1 rfl) ((World.putObj_heap_other (by omega)).trans hr.2)⟩
   ·exact⟨some c,_,run_endLoop hr.1 (by simp),hstop _ c pre _ lz9 hSp ((hIx c).putObj _ hi (by omega) hr.1 rfl) ((World.putObj_heap_other (by omega)).trans hr.2)⟩
end
theorem aZ{W W':World}{row:Option Nat}{B:Nat}(hg:W.grownBy W' row)(hr:∀ r,row=some r->B<=r/\∃ o:Obj,W.heap[r]?=some o/\o.isCells=false){k:Nat}{cur:Array Value}{t:TypeId}{fr:Nat × Nat}(hc:W.heap[k]?=some (.cells cur t fr)) :
  W'.heap[k]?=some (.cells cur t fr):=by
 refine(hg.block k (aA hc) (fun e=>?_)).trans hc
 obtain⟨_,o,ho,hq⟩:=hr k e.symm
 rw [hc] at ho
 cases ho
 cases hq
theorem cC{N:Nat->Prop}{W W':World}{p:Addr}{v:Value}(h:CKeep N W W')(hp:N p.block)(hc:W.cell? p=some v):W'.cell? p=some v:=by
 unfold World.cell? at hc ⊢
 cases ho:W.heap[p.block]? with
 | none=>simp [ho] at hc
 | some o=>
  cases o with
  | cells cur t fr=>rw [h.same _ _ _ _ hp ho];rw [ho] at hc;exact hc
  | _=>simp [ho] at hc
end
def Six(W:World)(g o:Nat)(f:Fl):Prop:=
 W.cell? ⟨g,o,none⟩=some (.int .i64 f.k)/\W.cell? ⟨g,o+1,none⟩=some (.int .i64 f.n)/\W.cell? ⟨g,o+2,none⟩=some (.int .i64 f.mn)/\W.cell? ⟨g,o+3,none⟩=some (.int .i64 f.mx)/\W.cell? ⟨g,o+4,none⟩=some (.slice f.rq f.rs.length f.rc)/\W.cell? ⟨g,o+5,none⟩=some (.slice f.kq f.kl f.kc)
theorem Six.ck{N:Nat->Prop}{W W':World}{g o:Nat}{f:Fl}(h:Six W g o f)(hc:CKeep N W W')(hg:N g):Six W' g o f:=
 ⟨cC hc (p:=⟨g,o,none⟩) hg h.1,cC hc (p:=⟨g,o+1,none⟩) hg h.2.1,cC hc (p:=⟨g,o+2,none⟩) hg h.2.2.1,cC hc (p:=⟨g,o+3,none⟩) hg h.2.2.2.1,cC hc (p:=⟨g,o+4,none⟩) hg h.2.2.2.2.1,cC hc (p:=⟨g,o+5,none⟩) hg h.2.2.2.2.2⟩
def ArgK(W:World)(v:Value)(ks:List Tr):Prop:=
 (∃ p cap,v=.slice p 0 cap/\ks=[]/\(p=none->cap=0))\/∃ g off cap,v=.slice (some ⟨g,off,none⟩) ks.length cap/\g < W.heap.size/\ks.length<=cap/\cap<=maxLen/\∀ (i:Nat) (t:Tr),ks[i]?=some t->Six W g (off+i * 6) t.f
theorem ArgK.slice{W:World}{v:Value}{ks:List Tr}(h:ArgK W v ks):∃ q cap,v=.slice q ks.length cap/\ks.length<=maxLen/\ks.length<=cap /\
  (∀ (i:Nat) (t:Tr),ks[i]?=some t->∃ g off,q=some ⟨g,off,none⟩/\g < W.heap.size/\Six W g (off+i * 6) t.f):=by
 rcases h with⟨p,cap,rfl,rfl,-⟩ | ⟨g,off,cap,rfl,h2,h3,h4,h5⟩
 ·exact⟨p,cap,rfl,Nat.zero_le _,Nat.zero_le _,fun i x hx=>by simp at hx⟩
 ·exact⟨_,cap,rfl,Nat.le_trans h3 h4,h3,fun i x hx=>⟨g,off,rfl,h2,h5 i x hx⟩⟩
def CK(W W':World):Prop:=CKeep (fun k=>k < W.heap.size) W W'
theorem CK.of_below{W W':World}(h:Below W.heap.size W W'):CK W W':=⟨h.size,fun k _ _ _ _ hc=>(h.block k (aA hc)).trans hc⟩
theorem CK.trans{A B C:World}(h:CK A B)(k:CK B C):CK A C:=⟨Nat.le_trans h.size k.size,fun i cur t fr hi hc=>k.same i cur t fr (Nat.lt_of_lt_of_le hi h.size) (h.same i cur t fr hi hc)⟩
theorem CK.step{A B C:World}(h:CK A B)(k:CKeep (fun i=>i < A.heap.size) B C):CK A C:=⟨Nat.le_trans h.size k.size,fun i cur t fr hi hc=>k.same i cur t fr hi (h.same i cur t fr hi hc)⟩
theorem ArgK.ck{W W':World}{v:Value}{ks:List Tr}(h:ArgK W v ks)(hc:CK W W'):ArgK W' v ks:=by
 rcases h with h | ⟨g,off,cap,h1,h2,h3,h4,h5⟩
 ·exact .inl h
 ·exact .inr ⟨g,off,cap,h1,Nat.lt_of_lt_of_le h2 hc.size,h3,h4,fun i x hx=>(h5 i x hx).ck hc h2⟩
theorem ArgR.ck{W W':World}{v:Value}{L:List (Int × Int)}(h:ArgR W v L)(hc:CK W W'):ArgR W' v L:=by
 rcases h with h | ⟨g,off,cap,h1,h2,h3,h4,h5⟩
 ·exact .inl h
 ·exact .inr ⟨g,off,cap,h1,Nat.lt_of_lt_of_le h2 hc.size,h3,h4,fun i x hx=>⟨cC hc (p:=⟨g,off+2 * i,none⟩) h2 (h5 i x hx).1,cC hc (p:=⟨g,off+2 * i+1,none⟩) h2 (h5 i x hx).2⟩⟩
def NO(W:World)(t:Tr):Prop:=(∀ a,t.f.rq=some a->t.f.rs≠[]->∃ cur,W.heap[a.block]?=some (.cells cur 48 (0,0)))/\(∀ a,t.f.kq=some a->t.ks≠[]->∃ cur,W.heap[a.block]?=some (.cells cur 25 (0,0)))
structure NA(W:World)(t:Tr):Prop where
 r:ArgR W (.slice t.f.rq t.f.rs.length t.f.rc) t.f.rs
 k:ArgK W (.slice t.f.kq t.f.kl t.f.kc) t.ks
 fit:Fit t.f.rs
 len:t.f.rs.length+3<=8796093022208
 own:NO W t
def TA(W:World)(t:Tr):Prop:=cH (NA W) t
theorem nG{P Q:Tr->Prop}(h:∀ t,P t->Q t)(t:Tr):cH P t->cH Q t:=by
 refine Tr.ind (P:=fun t=>cH P t->cH Q t) (fun t ih he=>?_) t
 exact(bE t).2 ⟨h t ((bE t).1 he).1,(bP _).2 fun u hu=>ih u hu (dZ he hu)⟩
structure NB(W:World)(t:Tr):Prop where
 r:ArgR W (.slice t.f.rq t.f.rs.length t.f.rc) t.f.rs
 k:ArgK W (.slice t.f.kq t.f.kl t.f.kc) t.ks
 fit:Fit t.f.rs
 len:t.f.rs.length+3<=8796093022208
theorem NB.ck{W W':World}{t:Tr}(h:NB W t)(hc:CK W W'):NB W' t:=⟨h.r.ck hc,h.k.ck hc,h.fit,h.len⟩
theorem NB.kl{W:World}{t:Tr}(h:NB W t):t.f.kl=t.ks.length:=by
 obtain⟨q,cap,e,-⟩:=h.k.slice
 injection e
def TB(W:World)(t:Tr):Prop:=cH (NB W) t
theorem TB.ck{W W':World}{t:Tr}(h:TB W t)(hc:CK W W'):TB W' t:=nG (fun _ q=>NB.ck q hc) t h
theorem TB.kept{W W':World}{t:Tr}(h:TB W t)(hb:Below W.heap.size W W'):TB W' t:=h.ck (CK.of_below hb)
theorem TB.node{W:World}{t:Tr}(h:TB W t):NB W t:=((bE t).1 h).1
theorem TB.kid{W:World}{t u:Tr}(h:TB W t)(hu:u∈t.ks):TB W u:=dZ h hu
theorem TB.at{W:World}{t:Tr}(h:TB W t){p:Way}{z:El}(hz:z∈pp p t):TB W z.2:=qI t p h z hz
theorem TA.tb{W:World}{t:Tr}(h:TA W t):TB W t:=nG (fun _ q=>⟨q.r,q.k,q.fit,q.len⟩) t h
instance {W:World} {t:Tr}:Coe (TA W t) (TB W t):=⟨TA.tb⟩
def BoxN(W:World)(b:Nat)(f:Fl):Prop:=W.heap[b]?=some (.cells #[.int .i64 f.k,.int .i64 f.n,.int .i64 f.mn,.int .i64 f.mx,.slice f.rq f.rs.length f.rc,.slice f.kq f.kl f.kc] 25 (0,0))
theorem BoxN.six{W:World}{b:Nat}{f:Fl}(h:BoxN W b f):Six W b 0 f:=
 ⟨aC h (i:=0) rfl,aC h (i:=1) rfl,aC h (i:=2) rfl,aC h (i:=3) rfl,aC h (i:=4) rfl,aC h (i:=5) rfl⟩
section
inductive Er where
 | mk (k n mn mx:Int) (rs:List (Int × Int)) (ks:List Er)
mutual
def er:Tr->Er | .mk f ks=>.mk f.k f.n f.mn f.mx f.rs (ers ks)
def ers:List Tr->List Er | []=>[] | t :: ts=>er t :: ers ts
end
theorem aA8(l:List Tr):ers l=l.map er:=by
 induction l with
 | nil=>rw [ers];rfl
 | cons t ts ih=>rw [ers,ih];rfl
theorem lK(t:Tr):er t=.mk t.f.k t.f.n t.f.mn t.f.mx t.f.rs (t.ks.map er):=by
 cases t
 rw [er,aA8]
 rfl
theorem sG(a b:Tr):er a=er b ↔ a.f.k=b.f.k/\a.f.n=b.f.n/\a.f.mn=b.f.mn/\a.f.mx=b.f.mx/\a.f.rs=b.f.rs/\a.ks.map er=b.ks.map er:=by
 rw [lK a,lK b]
 constructor
 ·intro h
  injection h with h1 h2 h3 h4 h5 h6
  exact⟨h1,h2,h3,h4,h5,h6⟩
 ·rintro ⟨h1,h2,h3,h4,h5,h6⟩
  rw [h1,h2,h3,h4,h5,h6]
open Classical in
noncomputable def fX (a b:Er):Bool:=decide (a=b)
theorem eW(a b:Er):fX a b=true ↔ a=b:=by unfold fX;simp
theorem rN(a:Er):fX a a=true:=(eW a a).2 rfl
open Classical in
noncomputable def gZ (a b:List Er):Bool:=decide (a=b)
theorem fF(a b:List Er):gZ a b=true ↔ a=b:=by unfold gZ;simp
end
end Go.Proofs.YticfnglebbakkaaGreatDoor
