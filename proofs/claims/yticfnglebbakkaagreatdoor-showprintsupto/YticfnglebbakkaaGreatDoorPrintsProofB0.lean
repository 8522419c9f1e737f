/-
  Parts of the proof.
-/
import Derived.Lib.MapLaws
import Derived.Lib.RuneCountTail
import Derived.Lib.Strings
import Derived.Test.YticfnglebbakkaaGreatDoorRows
import Derived.WalkKit
import Derived.WalkSpells
import Derived.WalkLawsBesides
import Derived.Below
import Derived.Laws.AppendOwn
import Derived.Laws.MakeOwn
import Derived.Laws.CopyOwn
import Derived.BigQuiet
import Derived.ProofKit
import Derived.OpenShut
import Derived.Stop.Joined
import Derived.ChangeOld
import Derived.ChangeSlices
import Derived.Carry
import Derived.Maps.AppendAt
import Derived.OwnWalk
import Derived.Deep.RegionLaw
import Derived.Deep.RegionWith
import Derived.Deep.DeepCutAuto
import Derived.Laws.OwnMore
import Derived.Lib.IndexMore
import Derived.RangeFuncNested
import Derived.RangeFuncBound
import Derived.RangeFuncCalls
import Derived.RangeFuncLeaves
import Derived.RangeFuncBox
import Derived.Shelf.Abstract
import Derived.Shelf.RegionOpen
import Derived.OwnWalkIn
import Derived.TacticsInMore
import Derived.LoopNIn
import Derived.LoopIn
set_option maxRecDepth 100000
set_option maxHeartbeats 8000000
namespace Go.Proofs.YticfnglebbakkaaGreatDoor
open Go Go.RowKit
section
open Go
def wd(s:ByteArray)(p:Nat):Nat:=(Utf8.decode s p).2
def bad(s:ByteArray)(p:Nat):Bool:=decide (Utf8.decode s p=(65533,1))
def ch(s:ByteArray)(p:Nat):Int:=if bad s p then -1 else (Utf8.decode s p).1
def bt(s:ByteArray)(i:Nat):Nat:=(s.data.toList.getD i 0).toNat
theorem iJ(s:ByteArray)(i:Nat):bt s i < 256:=UInt8.toNat_lt _
theorem bG(s:ByteArray):s.data.toList.length=s.size:=(Lib.size_eq s).symm
theorem fK(s:ByteArray)(p:Nat):Utf8.decode s p=Lib.decodeN (s.size - p) (bt s p) (bt s (p+1)) (bt s (p+2)) (bt s (p+3)):=by
 rw [Lib.decode_N,bG];rfl
theorem sC(s:ByteArray)(p:Nat):1<=wd s p:=Lib.width_pos s p
theorem zF(s:ByteArray)(p:Nat):(Utf8.decode s p).1<=1114111:=Lib.rune_le s p
theorem fL(n b0 b1 b2 b3:Nat):Lib.decodeN n b0 b1 b2 b3=(65533,1)\/(b0 < 128/\Lib.decodeN n b0 b1 b2 b3=(b0,1)) \/
  (1 < n/\b0 / 32=6/\b1 / 64=2/\128<=b0 % 32 * 64+b1 % 64/\Lib.decodeN n b0 b1 b2 b3=(b0 % 32 * 64+b1 % 64,2)) \/
  (2 < n/\b0 / 16=14/\b1 / 64=2/\b2 / 64=2/\2048<=b0 % 16 * 4096+b1 % 64 * 64+b2 % 64/\(b0 % 16 * 4096+b1 % 64 * 64+b2 % 64 < 55296\/57344<=b0 % 16 * 4096+b1 % 64 * 64+b2 % 64)/\Lib.decodeN n b0 b1 b2 b3=(b0 % 16 * 4096+b1 % 64 * 64+b2 % 64,3)) \/
  (3 < n/\b0 / 8=30/\b1 / 64=2/\b2 / 64=2/\b3 / 64=2/\65536<=b0 % 8 * 262144+b1 % 64 * 4096+b2 % 64 * 64+b3 % 64/\b0 % 8 * 262144+b1 % 64 * 4096+b2 % 64 * 64+b3 % 64<=1114111/\Lib.decodeN n b0 b1 b2 b3=(b0 % 8 * 262144+b1 % 64 * 4096+b2 % 64 * 64+b3 % 64,4)):=by
 unfold Lib.decodeN
 by_cases h0:b0 < 128
 ·rw [if_pos h0];exact .inr (.inl ⟨h0,rfl⟩)
 rw [if_neg h0]
 split
 ·rename_i h
  split
  ·rename_i g
   exact .inr (.inr (.inl ⟨h.2.1,h.1,h.2.2,g,rfl⟩))
  ·exact .inl rfl
 split
 ·rename_i h
  split
  ·rename_i g
   exact .inr (.inr (.inr (.inl ⟨h.2.2.1,h.1,h.2.1.2,h.2.2.2,g.1,by omega,rfl⟩)))
  ·exact .inl rfl
 split
 ·rename_i h
  split
  ·rename_i g
   exact .inr (.inr (.inr (.inr ⟨h.2.2.2.1,h.1,h.2.1.2,h.2.2.1.2,h.2.2.2.2,g.1,by omega,rfl⟩)))
  ·exact .inl rfl
 exact .inl rfl
theorem pZ(s:ByteArray)(p:Nat)(h:p < s.size):wd s p<=4/\p+wd s p<=s.size:=by
 unfold wd
 rw [fK]
 rcases fL (s.size - p) (bt s p) (bt s (p+1)) (bt s (p+2)) (bt s (p+3)) with e | ⟨_,e⟩ | ⟨_,_,_,_,e⟩ | ⟨_,_,_,_,_,_,e⟩ | ⟨_,_,_,_,_,_,_,e⟩
 all_goals (rw [e];simp only;omega)
theorem mV{s:ByteArray}{p:Nat}(h:bad s p=true):ch s p=-1/\wd s p=1/\(Utf8.decode s p).1=65533:=by
 have e:Utf8.decode s p=(65533,1):=by simpa [bad] using h
 simp [ch,h,wd,e]
theorem iA{s:ByteArray}{p:Nat}(h:bad s p=false):ch s p=(Utf8.decode s p).1:=by simp [ch,h]
theorem aC2(l:List UInt8)(a b c:UInt8):Lib.hasPrefix l [a,b,c]=(decide (2 < l.length) && l.getD 0 0==a && l.getD 1 0==b && l.getD 2 0==c):=by
 unfold Lib.hasPrefix
 match l with
 | []=>simp [List.isPrefixOf]
 | [x]=>simp [List.isPrefixOf]
 | [x,y]=>simp [List.isPrefixOf]
 | x :: y :: z :: t=>
  rw [Bool.eq_iff_iff]
  simp [List.isPrefixOf]
  grind
theorem yW(s:ByteArray)(p:Nat):(s.extract p s.size).data.toList=s.data.toList.drop p:=by
 rw [ByteArray.data_extract,Array.toList_extract,List.extract_eq_take_drop,List.take_of_length_le (by rw [List.length_drop,bG];omega)]
theorem aF1(s:ByteArray)(p:Nat)(h:p < s.size)(hr:(Utf8.decode s p).1=65533):Lib.hasPrefix (s.data.toList.drop p) [239,191,189]=!bad s p:=by
 rw [aC2]
 have g0:(s.data.toList.drop p).getD 0 0=s.data.toList.getD p 0:=by simp [List.getD_eq_getElem?_getD]
 have g1:(s.data.toList.drop p).getD 1 0=s.data.toList.getD (p+1) 0:=by simp [List.getD_eq_getElem?_getD]
 have g2:(s.data.toList.drop p).getD 2 0=s.data.toList.getD (p+2) 0:=by simp [List.getD_eq_getElem?_getD]
 rw [g0,g1,g2]
 have toN:∀ (i:Nat) (k:UInt8),(s.data.toList.getD i 0==k)=decide (bt s i=k.toNat):=fun i k=>by
  unfold bt
  rw [Bool.eq_iff_iff]
  simp [UInt8.toNat_inj]
 rw [toN,toN,toN]
 have hl:(s.data.toList.drop p).length=s.size - p:=by rw [List.length_drop,bG]
 rw [hl]
 have e:=fK s p
 rw [e] at hr
 unfold bad
 rw [e]
 have q0:=iJ s p
 have q1:=iJ s (p+1)
 have q2:=iJ s (p+2)
 have q3:=iJ s (p+3)
 rw [Bool.eq_iff_iff]
 simp only [Bool.and_eq_true,decide_eq_true_eq,Bool.not_eq_true',decide_eq_false_iff_not]
 show (((2 < s.size - p/\bt s p=239)/\bt s (p+1)=191)/\bt s (p+2)=189) ↔ _
 rcases fL (s.size - p) (bt s p) (bt s (p+1)) (bt s (p+2)) (bt s (p+3)) with k | ⟨_,k⟩ | ⟨_,_,_,_,k⟩ | ⟨_,_,_,_,_,_,k⟩ | ⟨_,_,_,_,_,_,_,k⟩
 ·rw [k]
  simp only [not_true,iff_false]
  rintro ⟨⟨⟨h1,h2⟩,h3⟩,h4⟩
  rw [h2,h3,h4] at k
  unfold Lib.decodeN at k
  simp at k
  omega
 ·rw [k] at hr ⊢
  simp only at hr
  omega
 ·rw [k] at hr ⊢
  simp only at hr
  omega
 ·rw [k] at hr ⊢
  simp only at hr
  simp
  omega
 ·rw [k] at hr ⊢
  simp only at hr
  omega
def dF(s:ByteArray):Nat->Nat->List (Nat × Int)
 | 0,_=>[]
 | f+1,p=>if p < s.size then (p,ch s p) :: dF s f (p+wd s p) else []
def us(s:ByteArray):List (Nat × Int):=dF s s.size 0
theorem kG(s:ByteArray)(f p:Nat)(h:¬ p < s.size):dF s f p=[]:=by cases f <;> simp [dF,h]
theorem iK(s:ByteArray)(f p:Nat)(h:p < s.size):dF s (f+1) p=(p,ch s p) :: dF s f (p+wd s p):=by simp [dF,h]
end
theorem lz9{n:Nat}:n<=n:=Nat.le_refl n
theorem bz9{w:World}{o:Obj}:Below w.heap.size w (w.alloc o):=(Below.refl w.heap.size w).alloc (Nat.le_refl w.heap.size) o
def eC(l:List Int):List Value:=l.map (Value.int .i64)
theorem yP{l:List Int}{i:Nat}{x:Int}(h:l[i]?=some x):(eC l)[i]?=some (.int .i64 x):=by simp [eC,h]
theorem rB(a b:List Int):eC (a ++ b)=eC a ++ eC b:=by simp [eC]
structure Fr(S:Nat->Prop)(w w':World):Prop where
 os:w'.os=w.os
 tape:w'.tape=w.tape
 output:w'.output=w.output
 size:w.heap.size<=w'.heap.size
 block:∀ k,k < w.heap.size->¬ S k->w'.heap[k]?=w.heap[k]?
theorem Fr.refl(S:Nat->Prop)(w:World):Fr S w w:=⟨rfl,rfl,rfl,Nat.le_refl _,fun _ _ _=>rfl⟩
theorem Fr.trans{S:Nat->Prop}{a b c:World}(h:Fr S a b)(k:Fr S b c):Fr S a c:=
 ⟨k.os.trans h.os,k.tape.trans h.tape,k.output.trans h.output,Nat.le_trans h.size k.size,fun i hi hs=>(k.block i (Nat.lt_of_lt_of_le hi h.size) hs).trans (h.block i hi hs)⟩
theorem Fr.mono{S T:Nat->Prop}{a b:World}(h:Fr S a b)(hst:∀ k,S k->T k):Fr T a b:=⟨h.os,h.tape,h.output,h.size,fun i hi hs=>h.block i hi (fun q=>hs (hst i q))⟩
theorem Fr.below{S:Nat->Prop}{a b:World}{n:Nat}(h:Fr S a b)(hn:n<=a.heap.size)(hs:∀ k,S k->n<=k):Below n a b:=
 ⟨h.os,h.tape,h.output,h.size,fun i hi=>h.block i (Nat.lt_of_lt_of_le hi hn) (fun q=>by have:=hs i q;omega)⟩
theorem Fr.of_below{S:Nat->Prop}{a b:World}(h:Below a.heap.size a b):Fr S a b:=⟨h.os,h.tape,h.output,h.size,fun i hi _=>h.block i hi⟩
theorem Fr.alloc{S:Nat->Prop}{a w:World}(h:Fr S a w)(o:Obj):Fr S a (w.alloc o):=h.trans (Fr.of_below ((Below.refl _ _).alloc lz9 o))
theorem Fr.drew{S:Nat->Prop}{a w:World}(h:Fr S a w):Fr S a w.drew:=h.trans (Fr.of_below (Below.refl _ _).drew)
theorem Fr.setCell{S:Nat->Prop}{a w:World}(h:Fr S a w){p:Addr}(hp:S p.block)(u:Value):Fr S a (w.setCell p u):=
 h.trans ⟨rfl,rfl,rfl,by simp [World.setCell],fun k _ hk=>Below.heap_setCell _ _ _ _ (fun e=>hk (e ▸ hp))⟩
theorem Fr.then{S:Nat->Prop}{a b c:World}(h:Fr S a b)(k:Below b.heap.size b c):Fr S a c:=h.trans (Fr.of_below k)
theorem Fr.grown{S:Nat->Prop}{a w w':World}{row:Option Nat}(h:Fr S a w)(hg:w.grownBy w' row)(hr:∀ k,row=some k->S k):Fr S a w':=
 h.trans ⟨hg.os,hg.tape,hg.output,hg.size,fun k hk hs=>hg.block k hk (fun e=>hs (hr k e.symm))⟩
theorem aC{w:World}{k:Nat}{o:Obj}(h:w.heap[k]?=some o):k < w.heap.size:=(Array.getElem?_eq_some_iff.1 h).1
theorem aU{w:World}{k:Nat}{cur:Array Value}{t:TypeId}{fr:Nat × Nat}(h:w.heap[k]?=some (.cells cur t fr))(j:Nat)(v:Value):(w.setCell ⟨k,j,none⟩ v).heap[k]?=some (.cells (cur.setIfInBounds j v) t fr):=by
 simp [World.setCell,Array.getElem?_modify,h]
theorem aC8{W:World}{x y:Nat}{c c':Array Value}{t t':TypeId}{f f':Nat × Nat}(h:W.heap[x]?=some (.cells c t f))(h':W.heap[y]?=some (.cells c' t' f'))(ht:t≠t'):x≠y:=fun e=>by
 rw [e,h'] at h
 injection h with h
 injection h with _ h _
 exact ht h.symm
theorem aA{W:World}{wb:Nat}{c:Array Value}{t:TypeId}(h:W.heap[wb]?=some (.cells c t (0,0))){i:Nat}{v:Value}(hi:c[i]?=some v):W.cell? ⟨wb,i,none⟩=some v:=by simp [World.cell?,h,hi]
theorem bE{W:World}{wb:Nat}{c:Array Value}{t:TypeId}(h:W.heap[wb]?=some (.cells c t (0,0)))(i:Nat):W.frozen? ⟨wb,i,none⟩=false:=by simp [World.frozen?,h]
theorem aG{n:Nat}{a b c:World}(h:Below n a b)(k:Below b.heap.size b c)(hn:n<=a.heap.size):Below n a c:=h.trans (k.mono (Nat.le_trans hn h.size))
theorem cL{n:Nat}{a b c:World}{S:Nat->Prop}(h:Below n a b)(k:Fr S b c)(hn:n<=a.heap.size)(hs:∀ k,S k->n<=k):Below n a c:=h.trans (k.below (Nat.le_trans hn h.size) hs)
theorem bL{α:Type}(l:List α)(k:Nat)(h:k < l.length):l.take (k+1)=l.take k ++ [l[k]]:=by simp
def Ext(W:World):Type:={ w:World // Below W.heap.size W w }
theorem nI{P:Program}{id:Nat}{Q:Exit->Act->World->Prop}{a:Act}{w:World}{l:List Oper}(hm:P.follows .mixedOrders=true)(hB:Region.lexB .any l.toArray=true)
  (h:wpQuiet P l.toArray (fun w'=>∃ x:Ext w,w'=x.val) (fun a'=>∀ w',(∃ x:Ext w,w'=x.val)->Q .normal a' w') l a):(Code.region id l.toArray true).wp P Q a w:=
 wp_region_quiet (C:=fun w'=>∃ x:Ext w,w'=x.val) hm hB ⟨⟨w.drew,(Below.refl _ _).drew⟩,rfl⟩ (by simpa using h)
theorem wx9{P:Program}{id:Nat}{Q:Exit->Act->World->Prop}{a:Act}{w:World}{l:List Oper}(h:wpQuiet P l.toArray (fun w'=>∃ x:Ext w,w'=x.val) (fun a'=>∀ w',(∃ x:Ext w,w'=x.val)->Q .normal a' w') l a)(hm:P.follows .mixedOrders=true:=by kernel_rfl)(hB:Region.lexB .any l.toArray=true:=by kernel_rfl):(Code.region id l.toArray true).wp P Q a w:=nI hm hB h
theorem cJ{P:Program}{f:FuncId}{args:Array Value}{W:World}{x:Ext W}{v:Value}
  (h:Calls P f args x.val fun e w'=>e=.returned v/\Below x.val.heap.size x.val w'):Calls P f args x.val fun e w''=>e=.returned v/\∃ y:Ext W,w''=y.val:=
 h.mono fun _ w' ⟨he,hb⟩=>⟨he,⟨w',x.2.trans (hb.mono x.2.size)⟩,rfl⟩
theorem bC{W:World}(x:Ext W)(b o:Nat)(h:b < W.heap.size):x.val.cell? ⟨b,o,none⟩=W.cell? ⟨b,o,none⟩:=x.2.cell (p:=⟨b,o,none⟩) h
theorem gZ{W:World}(x:Ext W):Below W.heap.size W x.val:=x.2
theorem aM{W w1:World}(h:∃ x:Ext W,w1=x.val):Below W.heap.size W w1:=by
 obtain⟨x,rfl⟩:=h
 exact x.2
section
section
variable {P:Program} {l:List Oper} {o:Oper} {Q:Exit->Act->World->Prop}
def Q1(P:Program)(l:List Oper)(o:Oper)(Q:Exit->Act->World->Prop):Exit->Act->World->Prop
 | .normal,a,w=>wpList P (l ++ [o]).toArray Q [o] a w
 | e,a,w=>Q e a w
end
end
section
open Go Go.ChangeShapes Go.WideShapes Go.ChangeAt Go.RowKit
theorem own:ownKnob Tryz.prog.godebug=none:=by kernel_rfl
theorem uL:laidOutB Tryz.prog=true:=by kernel_rfl
theorem lA:Tryz.prog.cellsOf 3=1:=by kernel_rfl
end
theorem qF:(Tryz.prog.info? 3).map (fun i=>(i.zero,i.size,i.bytes))=some (some (.int .i64 0),1,8):=by kernel_rfl
theorem qA:Tryz.prog.underlying 158=some (.slice 3):=by kernel_rfl
theorem aQ{P:Program}{t:TypeId}{z:Value}{s b:Nat}(h:(P.info? t).map (fun i=>(i.zero,i.size,i.bytes))=some (some z,s,b)):∃ i,P.info? t=some i/\i.zero=some z/\i.size=s/\i.bytes=b:=by
 cases hi:P.info? t with
 | none=>rw [hi] at h;cases h
 | some i=>
  rw [hi] at h
  simp at h
  exact⟨i,rfl,h.1,h.2.1,h.2.2⟩
theorem aO{S:Nat->Prop}{w w':World}{base:Nat}{t:TypeId}{size n:Nat}{v:Value}{xs:List Value}(h:w.ownsRow base t size v n xs)(hf:Fr S w w')(hs:∀ k,v.ownBlock=some k->¬ S k):w'.ownsRow base t size v n xs:=by
 obtain⟨h1,h2 | ⟨g,cap,cur,q1,q2,q3,q4⟩⟩:=h
 ·exact⟨h1,.inl h2⟩
 ·exact⟨h1,.inr ⟨g,cap,cur,q1,q2,(hf.block _ (aC q3) (hs g (by rw [q1];rfl))).trans q3,q4⟩⟩
theorem bV{w:World}{base base':Nat}{t:TypeId}{size n:Nat}{v:Value}{xs:List Value}(h:w.ownsRow base t size v n xs)(hb:base'<=base):w.ownsRow base' t size v n xs:=by
 obtain⟨h1,h2 | ⟨g',cap',cur,q1,q2,q4⟩⟩:=h
 ·exact⟨h1,.inl h2⟩
 ·exact⟨h1,.inr ⟨g',cap',cur,q1,Nat.le_trans hb q2,q4⟩⟩
theorem aL{w:World}{base:Nat}{e:TypeId}{size n:Nat}{v:Value}{xs:List Value}(h:w.ownsRow base e size v n xs):∃ q c,v=.slice q n c:=by
 rcases h.2 with⟨rfl,rfl⟩ | ⟨g,cap,cur,rfl,_⟩
 ·exact⟨_,_,rfl⟩
 ·exact⟨_,_,rfl⟩
theorem aH{w:World}{base:Nat}{e:TypeId}{size n:Nat}{v:Value}{xs:List Value}(h:w.ownsRow base e size v n xs){g:Nat}(hg:v.ownBlock=some g):base<=g/\g < w.heap.size/\∃ cur,w.heap[g]?=some (.cells cur e (0,0)):=by
 rcases h.2 with⟨rfl,rfl⟩ | ⟨g',cap,cur,rfl,h1,h2,_⟩
 ·cases hg
 ·cases hg;exact⟨h1,aC h2,cur,h2⟩
theorem bX{w:World}{base:Nat}{e t:TypeId}{size n:Nat}{v:Value}{xs:List Value}(h:w.ownsRow base e size v n xs){b:Nat}{cs:Array Value}(hb:w.heap[b]?=some (.cells cs t (0,0)))(ht:t≠e):v.ownBlock≠some b:=fun q=>by
 obtain⟨_,_,cur,hc⟩:=aH h q
 exact aC8 hb hc ht rfl
theorem bA{w:World}{base:Nat}{e:TypeId}{size n g c:Nat}{xs:List Value}(h:w.ownsRow base e size (.slice (some ⟨g,0,none⟩) n c) n xs){j:Nat}{u:Value}(hj:xs[j]?=some u):w.cell? ⟨g,j,none⟩=some u:=by
 rcases h.2 with⟨q,_⟩ | ⟨g',cap,cur,q1,_,q3,_,_,q6,q7⟩
 ·cases q
 ·cases q1
  have:cur[j]?=some u:=by
   rw [<- q7,List.getElem?_take] at hj
   split at hj
   ·simpa using hj
   ·cases hj
  simp [World.cell?,q3,this]
theorem qQ{w:World}{base:Nat}{e:TypeId}{size n:Nat}{v:Value}{xs:List Value}(h:w.ownsRow base e size v n xs):n<=maxLen:=by
 rcases h.2 with⟨_,q⟩ | ⟨g,cap,cur,q,_,_,hc,hm,_⟩
 ·omega
 ·omega
theorem aJ{w:World}{base:Nat}{e:TypeId}{size n:Nat}{v:Value}{xs:List Value}(h:w.ownsRow base e size v n xs)(hn:0 < n):∃ g c,v=.slice (some ⟨g,0,none⟩) n c:=by
 rcases h.2 with⟨_,q⟩ | ⟨g,cap,cur,rfl,_⟩
 ·omega
 ·exact⟨_,_,rfl⟩
def moved(v v':Value)(n:Nat):Prop:=v'.ownBlock=v.ownBlock\/v'.ownBlock=none\/∃ g,n<=g/\v'.ownBlock=some g
theorem moved.refl(v:Value)(n:Nat):moved v v n:=.inl rfl
theorem moved.trans{v v' v'':Value}{n m:Nat}(h:moved v v' n)(k:moved v' v'' m)(hm:n<=m):moved v v'' n:=by
 rcases k with k | k | ⟨g,k1,k2⟩
 ·rcases h with h | h | ⟨g,h1,h2⟩
  ·exact .inl (k.trans h)
  ·exact .inr (.inl (k.trans h))
  ·exact .inr (.inr ⟨g,h1,k.trans h2⟩)
 ·exact .inr (.inl k)
 ·exact .inr (.inr ⟨g,by omega,k2⟩)
theorem gB{v v':Value}{n k:Nat}(h:moved v v' n)(hk:k < n)(hv:v'.ownBlock=some k):v.ownBlock=some k:=by
 rcases h with h | h | ⟨g,h1,h2⟩
 ·exact h ▸ hv
 ·rw [h] at hv;cases hv
 ·rw [h2] at hv;cases hv;omega
theorem cO{P:Program}{ops:Array Oper}{o:Oper}{a:Act}{w:World}{K:Act->World->Prop}{Q:Exit->Act->World->Prop}{E:Prop}(hgd:o.guard=none)(s x:Operand)(t:TypeId)
  (ho:o.op=.call { callee:=.builtin .append,args:=#[s,x],argTypes:=#[t,t] })
  (base:Nat) (e:TypeId) (i:TypeInfo) (z:Value) (size bytes:Nat) (ht:P.underlying t=some (.slice e)) (hi:P.info? e=some i) (hz:i.zero=some z)
  (hsize:i.size=size) (hby:i.bytes=bytes) (hzs:z.cells.size=size) (hsz:0 < size)
  (v:Value) (n:Nat) (xs:List Value) (hs:a.eval s=v) (hown:w.ownsRow base e size v n xs)
  (ad:Addr) (m c:Nat) (news:List Value) (hx:a.eval x=.slice (some ad) m c) (hl:news.length=m * size) (hnews:∀ j u,news[j]?=some u->w.cell? (ad.add j)=some u) (h1:∀ u∈news,u.oneCell'=true)
  (h63:n+m<=maxLen) (hbytes:(n+m) * bytes<=140737488355328) (hbase:base<=w.heap.size)
  (h:∀ v' w',w'.ownsRow base e size v' (n+m) (xs ++ news)->w.grownBy w' v.ownBlock->(v'.ownBlock=v.ownBlock\/v'.ownBlock=some w.heap.size)->K (a.put o.dst v') w') :
  if Region.wanted o (yielded ops a.tmps)=true then Oper.wp P o a w K Q else E:=by
 have hw:Region.wanted o (yielded ops a.tmps)=true:=by simp [Region.wanted,hgd]
 rw [if_pos hw]
 obtain⟨v',w',hrun,h2,h3,_,h5⟩:=run_append_own_at (P:=P) w base t o.type e i z size bytes ht hi hz hsize hby hzs hsz v n xs hown ad m c news hl hnews h1 h63 hbytes hbase
 unfold Oper.wp
 simp [execOp,ho,resolve,invoke,builtin,hs,hx,hrun,Result.andThen]
 exact h v' w' h2 h3 h5
theorem eA(W:World)(a b:Value)(t:TypeId):∀ (j:Nat) (u:Value),[a,b][j]?=some u->(W.alloc (.cells #[a,b] t)).cell? ((⟨W.heap.size,0,none⟩:Addr).add j)=some u:=by
 intro j u h
 match j,h with
 | 0,h=>simp at h;subst h;simp [Addr.add]
 | 1,h=>simp at h;subst h;simp [Addr.add]
theorem aF(w:World)(o:Obj):(w.alloc o).heap[w.heap.size]?=some o:=by unfold World.alloc;simp
def In(L:List (Int × Int))(c:Int):Prop:=∃ r∈L,r.1<=c/\c<=r.2
structure Cls(L:List (Int × Int)):Prop where
 some:∀ r∈L,r.1<=r.2
 apart:L.Pairwise (fun a b=>a.2+1 < b.1)
theorem dN(c:Int):¬ In [] c:=fun⟨_,h,_⟩=>by cases h
theorem bK(r:Int × Int)(L:List (Int × Int))(c:Int):In (r :: L) c ↔ (r.1<=c/\c<=r.2)\/In L c:=by
 simp [In]
theorem bO(A B:List (Int × Int))(c:Int):In (A ++ B) c ↔ In A c\/In B c:=by
 constructor
 ·rintro ⟨r,h,q⟩
  rcases List.mem_append.1 h with h | h
  ·exact .inl ⟨r,h,q⟩
  ·exact .inr ⟨r,h,q⟩
 ·rintro (⟨r,h,q⟩ | ⟨r,h,q⟩)
  ·exact⟨r,List.mem_append.2 (.inl h),q⟩
  ·exact⟨r,List.mem_append.2 (.inr h),q⟩
theorem cP(r:Int × Int)(c:Int):In [r] c ↔ r.1<=c/\c<=r.2:=by simp [In]
theorem pQ:Cls []:=⟨fun _ h=>(by cases h),List.Pairwise.nil⟩
theorem gK{r:Int × Int}{L:List (Int × Int)}(h:Cls (r :: L)):Cls L:=⟨fun x hx=>h.some x (List.mem_cons_of_mem _ hx),(List.pairwise_cons.1 h.apart).2⟩
theorem dI{r:Int × Int}{L:List (Int × Int)}(h:Cls (r :: L)):r.1<=r.2:=h.some r List.mem_cons_self
theorem gL{r x:Int × Int}{L:List (Int × Int)}(h:Cls (r :: L))(hx:x∈L):r.2+1 < x.1:=(List.pairwise_cons.1 h.apart).1 x hx
theorem cK{r:Int × Int}{L:List (Int × Int)}(h:Cls (r :: L)){c:Int}(hc:In L c):r.2+1 < c:=by
 obtain⟨x,hx,h1,h2⟩:=hc
 have:=gL h hx
 omega
theorem jA:∀ (A B:List (Int × Int)),Cls A->Cls B->(∀ c,In A c ↔ In B c)->A=B
 | [],[],_,_,_=>rfl
 | [],b :: B,_,hB,h=>absurd ((h b.1).2 ⟨b,List.mem_cons_self,Int.le_refl _,dI hB⟩) (dN _)
 | a :: A,[],hA,_,h=>absurd ((h a.1).1 ⟨a,List.mem_cons_self,Int.le_refl _,dI hA⟩) (dN _)
 | a :: A,b :: B,hA,hB,h=>by
  have ha:=dI hA
  have hb:=dI hB
  have h1:a.1=b.1:=by
   have p:=(h a.1).1 ((bK ..).2 (.inl ⟨Int.le_refl _,ha⟩))
   have q:=(h b.1).2 ((bK ..).2 (.inl ⟨Int.le_refl _,hb⟩))
   rcases (bK ..).1 p with p | p
   ·rcases (bK ..).1 q with q | q
    ·omega
    ·have:=cK hA q;omega
   ·have:=cK hB p
    rcases (bK ..).1 q with q | q
    ·omega
    ·have:=cK hA q;omega
  have h2:a.2=b.2:=by
   rcases Int.lt_trichotomy a.2 b.2 with q | q | q
   ·have p:=(h (a.2+1)).2 ((bK ..).2 (.inl ⟨by omega,by omega⟩))
    rcases (bK ..).1 p with p | p
    ·omega
    ·have:=cK hA p;omega
   ·exact q
   ·have p:=(h (b.2+1)).1 ((bK ..).2 (.inl ⟨by omega,by omega⟩))
    rcases (bK ..).1 p with p | p
    ·omega
    ·have:=cK hB p;omega
  have e:a=b:=Prod.ext h1 h2
  subst e
  rw [jA A B (gK hA) (gK hB) fun c=>?_]
  constructor
  ·intro p
   have:=cK hA p
   rcases (bK ..).1 ((h c).1 ((bK ..).2 (.inr p))) with q | q
   ·omega
   ·exact q
  ·intro p
   have:=cK hB p
   rcases (bK ..).1 ((h c).2 ((bK ..).2 (.inr p))) with q | q
   ·omega
   ·exact q
def bN(C:List (Int × Int))(r:Int × Int):List (Int × Int):=
 if r.2 < r.1 then C else
  match C.getLast? with
  | none=>[r]
  | some x=>if x.2+1 < r.1 then C ++ [r] else C.dropLast ++ [(x.1,max x.2 r.2)]
theorem fS{C:List (Int × Int)}{r:Int × Int}(h:r.2 < r.1):bN C r=C:=if_pos h
theorem gN{r:Int × Int}(h:¬ r.2 < r.1):bN [] r=[r]:=by unfold bN;rw [if_neg h];rfl
theorem gP{C:List (Int × Int)}{x r:Int × Int}(h:¬ r.2 < r.1)(hf:x.2+1 < r.1):bN (C ++ [x]) r=C ++ [x] ++ [r]:=by
 unfold bN
 rw [if_neg h]
 simp [hf]
theorem fD{C:List (Int × Int)}{x r:Int × Int}(h:¬ r.2 < r.1)(hf:¬ x.2+1 < r.1):bN (C ++ [x]) r=C ++ [(x.1,max x.2 r.2)]:=by
 unfold bN
 rw [if_neg h]
 simp [hf]
theorem eK{α:Type}(C:List α):C=[]\/∃ D x,C=D ++ [x]:=by
 rcases List.eq_nil_or_concat C with h | ⟨D,x,h⟩
 ·exact .inl h
 ·exact .inr ⟨D,x,by rw [h,List.concat_eq_append]⟩
theorem fM{A:List (Int × Int)}{r:Int × Int}(hA:Cls A)(hr:r.1<=r.2)(h:∀ x∈A,x.2+1 < r.1):Cls (A ++ [r]):=
 ⟨fun x hx=>by
  rcases List.mem_append.1 hx with q | q
  ·exact hA.some x q
  ·simp at q;subst q;exact hr,
  List.pairwise_append.2 ⟨hA.apart,List.pairwise_singleton _ _,fun x hx y hy=>by simp at hy;subst hy;exact h x hx⟩⟩
theorem zH{A:List (Int × Int)}{x:Int × Int}(h:Cls (A ++ [x])):Cls A/\x.1<=x.2/\∀ y∈A,y.2+1 < x.1:=
 ⟨⟨fun y hy=>h.some y (List.mem_append.2 (.inl hy)),(List.pairwise_append.1 h.apart).1⟩,h.some x (by simp),fun y hy=>(List.pairwise_append.1 h.apart).2.2 y hy x (by simp)⟩
theorem oQ{C:List (Int × Int)}{r:Int × Int}(hC:Cls C)(hl:r.1<=r.2->∀ x∈C,x.1<=r.1) :
  Cls (bN C r)/\(∀ c,In (bN C r) c ↔ In C c\/(r.1<=c/\c<=r.2))/\(∀ m,(r.1<=r.2->r.1<=m)->(∀ x∈C,x.1<=m)->∀ x∈bN C r,x.1<=m):=by
 by_cases h:r.2 < r.1
 ·rw [fS h]
  exact⟨hC,fun c=>⟨.inl,fun q=>q.elim id fun q=>by omega⟩,fun m _ q=>q⟩
 ·have hr:r.1<=r.2:=by omega
  have hl:=hl hr
  rcases eK C with rfl | ⟨D,x,rfl⟩
  ·rw [gN h]
   refine⟨⟨fun y hy=>by simp at hy;subst hy;exact hr,List.pairwise_singleton _ _⟩,fun c=>?_,fun m hm _ y hy=>by simp at hy;subst hy;exact hm hr⟩
   rw [cP]
   exact⟨.inr,fun q=>q.elim (fun q=>absurd q (dN _)) id⟩
  ·obtain⟨hD,hx,hDx⟩:=zH hC
   have hxr:=hl x (by simp)
   by_cases hf:x.2+1 < r.1
   ·rw [gP h hf]
    refine⟨fM hC hr fun y hy=>?_,fun c=>by rw [bO,cP],fun m hm q y hy=>?_⟩
    ·rcases List.mem_append.1 hy with q | q
     ·have:=hDx y q;omega
     ·simp at q;subst q;exact hf
    ·rcases List.mem_append.1 hy with p | p
     ·exact q y p
     ·simp at p;subst p;exact hm hr
   ·rw [fD h hf]
    refine⟨fM hD (by simp only;omega) hDx,fun c=>?_,fun m hm q y hy=>?_⟩
    ·rw [bO,bO,cP,cP]
     constructor
     ·rintro (p | ⟨p1,p2⟩)
      ·exact .inl (.inl p)
      ·simp only at p1 p2
       by_cases hc:c<=x.2
       ·exact .inl (.inr ⟨p1,hc⟩)
       ·exact .inr ⟨by omega,by omega⟩
     ·rintro ((p | ⟨p1,p2⟩) | ⟨p1,p2⟩)
      ·exact .inl p
      ·exact .inr ⟨p1,by simp only;omega⟩
      ·exact .inr ⟨by simp only;omega,by simp only;omega⟩
    ·rcases List.mem_append.1 hy with p | p
     ·exact q y (List.mem_append.2 (.inl p))
     ·simp at p;subst p;exact q x (by simp)
def Fit(L:List (Int × Int)):Prop:=∀ r∈L,(-9223372036854775808<=r.1/\r.1<=9223372036854775807)/\(-9223372036854775808<=r.2/\r.2<=9223372036854775807)
theorem eR:Fit []:=fun _ h=>by cases h
theorem bZ{A B:List (Int × Int)}(hA:Fit A)(hB:Fit B):Fit (A ++ B):=fun r hr=>(List.mem_append.1 hr).elim (hA r) (hB r)
theorem fJ{a b:Int}(h:(-9223372036854775808<=a/\a<=9223372036854775807)/\(-9223372036854775808<=b/\b<=9223372036854775807)):Fit [(a,b)]:=fun r hr=>by simp at hr;subst hr;exact h
theorem dH{A B:List (Int × Int)}(hA:Fit A)(h:∀ x∈B,x∈A):Fit B:=fun r hr=>hA r (h r hr)
theorem rD{C:List (Int × Int)}{r:Int × Int}(hC:Fit C)(hr:Fit [r]):Fit (bN C r):=by
 have q:=hr r (by simp)
 by_cases h:r.2 < r.1
 ·rw [fS h];exact hC
 ·rcases eK C with rfl | ⟨D,x,rfl⟩
  ·rw [gN h];exact hr
  ·have hx:=hC x (by simp)
   by_cases hf:x.2+1 < r.1
   ·rw [gP h hf];exact bZ hC hr
   ·rw [fD h hf]
    exact bZ (dH hC fun y hy=>List.mem_append.2 (.inl hy)) (fJ ⟨hx.1,by omega,by omega⟩)
theorem gO(C:List (Int × Int))(r:Int × Int):(bN C r).length<=C.length+1:=by
 by_cases h:r.2 < r.1
 ·rw [fS h];omega
 ·rcases eK C with rfl | ⟨D,x,rfl⟩
  ·rw [gN h];simp
  ·by_cases hf:x.2+1 < r.1
   ·rw [gP h hf];simp
   ·rw [fD h hf];simp
theorem aD4{A B:List (Int × Int)}(h:A.Perm B)(c:Int):In A c ↔ In B c:=
 ⟨fun⟨r,q,p⟩=>⟨r,h.mem_iff.1 q,p⟩,fun⟨r,q,p⟩=>⟨r,h.mem_iff.2 q,p⟩⟩
theorem wI{a b:Int × Int}{A B:List (Int × Int)}(hb:Cls (b :: B))(h:a.2 < b.2)(c:Int) :
  (In (a :: A) c/\In (b :: B) c) ↔ (max a.1 b.1<=c/\c<=min a.2 b.2)\/(In A c/\In (b :: B) c):=by
 rw [bK,bK]
 constructor
 ·rintro ⟨p | p,q | q⟩
  ·exact .inl ⟨by omega,by omega⟩
  ·have:=cK hb q;omega
  ·exact .inr ⟨p,.inl q⟩
  ·exact .inr ⟨p,.inr q⟩
 ·rintro (⟨p,q⟩ | ⟨p,q⟩)
  ·exact⟨.inl ⟨by omega,by omega⟩,.inl ⟨by omega,by omega⟩⟩
  ·exact⟨.inr p,q⟩
theorem tT{a b:Int × Int}{A B:List (Int × Int)}(ha:Cls (a :: A))(h:b.2<=a.2)(c:Int) :
  (In (a :: A) c/\In (b :: B) c) ↔ (max a.1 b.1<=c/\c<=min a.2 b.2)\/(In (a :: A) c/\In B c):=by
 rw [bK,bK]
 constructor
 ·rintro ⟨p | p,q | q⟩
  ·exact .inl ⟨by omega,by omega⟩
  ·exact .inr ⟨.inl p,q⟩
  ·have:=cK ha p;omega
  ·exact .inr ⟨.inr p,q⟩
 ·rintro (⟨p,q⟩ | ⟨p,q⟩)
  ·exact⟨.inl ⟨by omega,by omega⟩,.inl ⟨by omega,by omega⟩⟩
  ·exact⟨p,.inr q⟩
def aK(L:List (Int × Int)):List Go.Value:=L.flatMap fun r=>[.int .i64 r.1,.int .i64 r.2]
theorem cA(L:List (Int × Int)):(aK L).length=L.length * 2:=by
 induction L with
 | nil=>rfl
 | cons r L ih=>simp [aK] at ih ⊢;omega
theorem eV(A B:List (Int × Int)):aK (A ++ B)=aK A ++ aK B:=by simp [aK]
theorem fP(L:List (Int × Int)):∀ v∈aK L,v.oneCell'=true:=fun v hv=>by
 simp [aK] at hv
 obtain⟨a,b,_,rfl | rfl⟩:=hv <;> rfl
theorem eM:∀ (L:List (Int × Int)) (i:Nat) (r:Int × Int),L[i]?=some r->(aK L)[2 * i]?=some (.int .i64 r.1)/\(aK L)[2 * i+1]?=some (.int .i64 r.2)
 | [],i,r,h=>by cases h
 | x :: L,0,r,h=>by
  simp at h
  subst h
  simp [aK]
 | x :: L,i+1,r,h=>by
  have:=eM L i r (by simpa using h)
  simp only [aK,List.flatMap_cons] at this ⊢
  rw [show 2 * (i+1)=2 * i+2 from by omega]
  simpa using this
theorem mX:∀ (L:List (Int × Int)) (i:Nat) (a b:Int),((aK L).set (i * 2) (.int .i64 a)).set (i * 2+1) (.int .i64 b)=aK (L.set i (a,b))
 | [],i,a,b=>by simp [aK]
 | x :: L,0,a,b=>by simp [aK]
 | x :: L,i+1,a,b=>by
  have:=mX L i a b
  simp only [aK,List.flatMap_cons,List.set_cons_succ] at this ⊢
  rw [show (i+1) * 2=i * 2+2 from by omega]
  simpa using this
theorem kA:∀ (L:List (Int × Int)) (i:Nat) (r:Int × Int) (b:Int),L[i]?=some r->(aK L).set (i * 2+1) (.int .i64 b)=aK (L.set i (r.1,b))
 | [],i,r,b,h=>by cases h
 | x :: L,0,r,b,h=>by simp at h;subst h;simp [aK]
 | x :: L,i+1,r,b,h=>by
  have:=kA L i r b (by simpa using h)
  simp only [aK,List.flatMap_cons,List.set_cons_succ] at this ⊢
  rw [show (i+1) * 2=i * 2+2 from by omega]
  simpa using this
theorem aB{p:Prop}(h:p):Hid p:=h
theorem pY{x:Int}(h:(Lit.int .i64 x).wf=true):-9223372036854775808<=x/\x<=9223372036854775807:=by
 simp [Lit.wf,IntKind.min,IntKind.max,IntKind.signed,IntKind.bits] at h
 omega
theorem bS:(Tryz.prog.info? 48).map (fun i=>(i.zero,i.size,i.bytes))=some (some (.agg #[.int .i64 0,.int .i64 0]),2,16):=by kernel_rfl
theorem aR:Tryz.prog.underlying 22=some (.slice 48):=by kernel_rfl
theorem jN(P:Program)(t:Array TypeId)(ty:TypeId)(w:World)(x y:Int):(Builtin.max_ t ty #[.int .i64 x,.int .i64 y]).run P w=.ok (.int .i64 (max x y)) w:=by
 have e:max x y=if y > x then y else x:=by split <;> omega
 rw [e]
 rfl
theorem uH(P:Program)(t:Array TypeId)(ty:TypeId)(w:World)(x y:Int):(Builtin.min_ t ty #[.int .i64 x,.int .i64 y]).run P w=.ok (.int .i64 (min x y)) w:=by
 have e:min x y=if y < x then y else x:=by split <;> omega
 rw [e]
 rfl
def ArgR(W:World)(v:Value)(L:List (Int × Int)):Prop:=
 (∃ p cap,v=.slice p 0 cap/\L=[]/\(p=none->cap=0))\/∃ g off cap,v=.slice (some ⟨g,off,none⟩) L.length cap/\g < W.heap.size/\L.length<=cap/\cap<=maxLen/\∀ (i:Nat) (r:Int × Int),L[i]?=some r->W.cell? ⟨g,off+2 * i,none⟩=some (.int .i64 r.1)/\W.cell? ⟨g,off+2 * i+1,none⟩=some (.int .i64 r.2)
theorem ArgR.kept{W W':World}{v:Value}{L:List (Int × Int)}(h:ArgR W v L)(hb:Below W.heap.size W W'):ArgR W' v L:=by
 rcases h with h | ⟨g,off,cap,h1,h2,h3,h4,h5⟩
 ·exact .inl h
 ·exact .inr ⟨g,off,cap,h1,Nat.lt_of_lt_of_le h2 hb.size,h3,h4,fun i x hx=>⟨(hb.cell (p:=⟨g,off+2 * i,none⟩) h2).trans (h5 i x hx).1,(hb.cell (p:=⟨g,off+2 * i+1,none⟩) h2).trans (h5 i x hx).2⟩⟩
theorem ArgR.slice{W:World}{v:Value}{L:List (Int × Int)}(h:ArgR W v L):∃ q cap,v=.slice q L.length cap/\L.length<=maxLen/\L.length<=cap /\
  (∀ (i:Nat) (r:Int × Int),L[i]?=some r->∃ g off,q=some ⟨g,off,none⟩/\g < W.heap.size/\W.cell? ⟨g,off+2 * i,none⟩=some (.int .i64 r.1)/\W.cell? ⟨g,off+2 * i+1,none⟩=some (.int .i64 r.2)):=by
 rcases h with⟨p,cap,rfl,rfl,-⟩ | ⟨g,off,cap,rfl,h2,h3,h4,h5⟩
 ·exact⟨p,cap,rfl,Nat.zero_le _,Nat.zero_le _,fun i x hx=>by simp at hx⟩
 ·exact⟨_,cap,rfl,Nat.le_trans h3 h4,h3,fun i x hx=>⟨g,off,rfl,h2,h5 i x hx⟩⟩
theorem ArgR.news{W:World}{ad:Addr}{n c:Nat}{L:List (Int × Int)}(h:ArgR W (.slice (some ad) n c) L):∀ j u,(aK L)[j]?=some u->W.cell? (ad.add j)=some u:=by
 intro j u hj
 have hjl:j < L.length * 2:=by have:=(List.getElem?_eq_some_iff.1 hj).1;rwa [cA] at this
 rcases h with⟨p,cap,e,rfl,-⟩ | ⟨g,off,cap,e,h2,h3,h4,h5⟩
 ·simp at hjl
 ·cases e
  obtain⟨q1,q2⟩:=h5 (j / 2) _ (List.getElem?_eq_getElem (by omega))
  obtain⟨r1,r2⟩:=eM L (j / 2) _ (List.getElem?_eq_getElem (by omega))
  have hadd:(⟨g,off,none⟩:Addr).add j=⟨g,off+j,none⟩:=by unfold Addr.add;split <;> simp_all
  rw [hadd]
  rcases Nat.mod_two_eq_zero_or_one j with e | e
  ·rw [show 2 * (j / 2)=j by omega] at q1 r1
   rw [q1,<- r1,hj]
  ·rw [show off+2 * (j / 2)+1=off+j by omega] at q2
   rw [show 2 * (j / 2)+1=j by omega] at r2
   rw [q2,<- r2,hj]
def RR(base:Nat)(w:World)(v:Value)(L:List (Int × Int)):Prop:=w.ownsRow base 48 2 v L.length (aK L)
theorem RR.arg{base:Nat}{w:World}{v:Value}{L:List (Int × Int)}(h:RR base w v L):ArgR w v L:=by
 have h':=h
 rcases h.2 with⟨rfl,hn⟩ | ⟨g,cap,cur,rfl,hg,hc,h1,h2,h3,h4⟩
 ·exact .inl ⟨none,0,rfl,List.eq_nil_of_length_eq_zero hn,fun _=>rfl⟩
 ·exact .inr ⟨g,0,cap,rfl,aC hc,h1,h2,fun i x hx=>by
   obtain⟨p1,p2⟩:=eM L i x hx
   rw [Nat.zero_add]
   exact⟨bA h' p1,bA h' p2⟩⟩
theorem RR.nil(base:Nat)(w:World):RR base w (.slice none 0 0) []:=⟨rfl,.inl ⟨rfl,rfl⟩⟩
theorem RR.fr{base:Nat}{w w':World}{v:Value}{L:List (Int × Int)}{S:Nat->Prop}(h:RR base w v L)(hf:Fr S w w')(hs:∀ k,v.ownBlock=some k->¬ S k):RR base w' v L:=aO h hf hs
theorem RR.kept{base:Nat}{w w':World}{v:Value}{L:List (Int × Int)}(h:RR base w v L)(hb:Below w.heap.size w w'):RR base w' v L:=h.fr (S:=fun _=>False) (Fr.of_below hb) (fun _ _ q=>q)
theorem RR.mono{base base':Nat}{w:World}{v:Value}{L:List (Int × Int)}(h:RR base w v L)(hb:base'<=base):RR base' w v L:=bV h hb
theorem RR.shape{base:Nat}{w:World}{v:Value}{L:List (Int × Int)}(h:RR base w v L):∃ q c,v=.slice q L.length c:=aL h
structure IsC(C:List (Int × Int))(p:Int->Prop):Prop where
 cls:Cls C
 fit:Fit C
 mem:∀ c,In C c ↔ p c
theorem IsC.one{C D:List (Int × Int)}{p q:Int->Prop}(h:IsC C p)(k:IsC D q)(e:∀ c,p c ↔ q c):C=D:=
 jA C D h.cls k.cls fun c=>(h.mem c).trans ((e c).trans (k.mem c).symm)
theorem IsC.to{C:List (Int × Int)}{p q:Int->Prop}(h:IsC C p)(e:∀ c,p c ↔ q c):IsC C q:=⟨h.cls,h.fit,fun c=>(h.mem c).trans (e c)⟩
def nH(w:World)(p:Int->Prop)(n:Nat)(e:Ending)(w':World):Prop:=∃ v C,e=.returned v/\RR w.heap.size w' v C/\IsC C p/\C.length<=n/\Below w.heap.size w w'
def top(m:Bool):Int:=if m then 1114111 else 255
def aN(m:Bool)(c:Int):Prop:=0<=c/\c<=top m/\(m=true->c < 55296\/57343 < c)
def bT(m:Bool):List (Int × Int):=if m then [(0,55295),(57344,1114111)] else [(0,255)]
theorem dD(m:Bool):IsC (bT m) (aN m):=by
 cases m with
 | true=>
  refine⟨⟨by simp [bT],by simp [bT]⟩,fun r hr=>?_,fun c=>?_⟩
  ·simp [bT] at hr
   rcases hr with rfl | rfl <;> simp
  ·simp [bT,In,aN,top]
   omega
 | false=>
  refine⟨⟨by simp [bT],by simp [bT]⟩,fun r hr=>?_,fun c=>?_⟩
  ·simp [bT] at hr
   subst hr;simp
  ·simp [bT,In,aN,top]
theorem cX(m:Bool):(bT m).length<=2:=by cases m <;> simp [bT]
theorem aF9(m:Bool)(w:World):Calls Tryz.prog 156 #[.bool m] w fun e w'=>e=.returned (.int .i64 (top m))/\w'=w:=by
 cases m with
 | true=>
  go_enter Tryz.func156,Tryz.ntmps156
  go_wp2
  go_ret
  exact⟨rfl,rfl⟩
 | false=>
  go_enter Tryz.func156,Tryz.ntmps156
  go_wp2
  go_ret
  exact⟨rfl,rfl⟩
theorem uS(m:Bool)(w:World):Calls Tryz.prog 130 #[.bool m] w fun e w'=>∃ v,e=.returned v/\RR w.heap.size w' v (bT m)/\Below w.heap.size w w':=by
 cases m with
 | true=>
  go_enter Tryz.func130,Tryz.ntmps130
  go_wp2_with (go_at_call 156;refine(aF9 _ _).mono ?_;rintro e w5 ⟨rfl,h5⟩;subst w5)
  go_ret
  exact⟨_,rfl,World.ownsRow_lit w #[.int .i64 0,.int .i64 55295,.int .i64 57344,.int .i64 1114111] 2 lz9 (by unfold maxLen;omega) rfl,bz9⟩
 | false=>
  go_enter Tryz.func130,Tryz.ntmps130
  go_wp2_with (go_at_call 156;refine(aF9 _ _).mono ?_;rintro e w5 ⟨rfl,h5⟩;subst w5)
  go_ret
  exact⟨_,rfl,World.ownsRow_lit w #[.int .i64 0,.int .i64 255] 1 lz9 (by unfold maxLen;omega) rfl,bz9⟩
section
open Go
structure Md where
 c:Bool
 f:Bool
abbrev Rs(α:Type):=Except (Nat × Nat) α
def eJ(s:ByteArray)(p:Nat)(t:List UInt8):Bool:=Lib.hasPrefix (s.data.toList.drop p) t
def un(m:Md)(s:ByteArray)(p:Nat):Int × Nat:=if m.c then (ch s p,wd s p) else ((bt s p:Int),1)
def chr(m:Md)(s:ByteArray)(p:Nat):Rs (Int × Nat):=if (un m s p).1 < 0 then .error (20,p) else .ok ((un m s p).1,p+(un m s p).2)
def fnd(s:ByteArray)(t:List UInt8)(k:Nat):Option Nat:=
 if Lib.index (s.data.toList.drop k) t < 0 then none else some (k+(Lib.index (s.data.toList.drop k) t).toNat)
def wit(s:ByteArray)(o p k:Nat):Rs Nat:=
 match fnd s [UInt8.ofNat (bt s (p+1)),93] (p+2+min k (s.size - (p+2))) with
 | none=>.error (33,o)
 | some e=>.ok e
def aM5(m:Md)(s:ByteArray)(o p:Nat):Rs (Int × Nat):=
 match wit s o p 1 with
 | .error e=>.error e
 | .ok e=>if (un m (s.extract (p+2) e) 0).1 < 0\/(un m (s.extract (p+2) e) 0).2 < e - (p+2) then .error (35,p) else .ok ((un m (s.extract (p+2) e) 0).1,e+2)
def aM4(m:Md)(s:ByteArray)(o p:Nat):Rs (Int × Nat):=
 if p=s.size then .error (33,o) else if eJ s p [91,46] then aM5 m s o p else chr m s p
def spn(m:Md)(s:ByteArray)(o p:Nat):Rs (List (Int × Int) × Nat):=
 match aM4 m s o p with
 | .error e=>.error e
 | .ok (lo,q)=>
  if eJ s q [45,93] || !eJ s q [45] then .ok ([(lo,lo)],q)
  else if eJ s (q+1) [91,58] || eJ s (q+1) [91,61] then .error (34,p)
  else match aM4 m s o (q+1) with
   | .error e=>.error e
   | .ok (hi,r)=>if hi < lo then .error (34,p) else .ok ([(lo,hi)],r)
def nmd(s:ByteArray):Bool × List (Int × Int):=
 if s.toList==[97,108,110,117,109] then (true,[(48,57),(65,90),(97,122)])
 else if s.toList==[97,108,112,104,97] then (true,[(65,90),(97,122)])
 else if s.toList==[98,108,97,110,107] then (true,[(9,9),(32,32)])
 else if s.toList==[99,110,116,114,108] then (true,[(0,31),(127,127)])
 else if s.toList==[100,105,103,105,116] then (true,[(48,57)])
 else if s.toList==[103,114,97,112,104] then (true,[(33,126)])
 else if s.toList==[108,111,119,101,114] then (true,[(97,122)])
 else if s.toList==[112,114,105,110,116] then (true,[(32,126)])
 else if s.toList==[112,117,110,99,116] then (true,[(33,47),(58,64),(91,96),(123,126)])
 else if s.toList==[115,112,97,99,101] then (true,[(9,13),(32,32)])
 else if s.toList==[117,112,112,101,114] then (true,[(65,90)])
 else if s.toList==[120,100,105,103,105,116] then (true,[(48,57),(65,70),(97,102)])
 else (false,[])
def nam(s:ByteArray)(o p:Nat):Rs (List (Int × Int) × Nat):=
 match wit s o p 0 with
 | .error e=>.error e
 | .ok e=>if (nmd (s.extract (p+2) e)).1 then .ok ((nmd (s.extract (p+2) e)).2,e+2) else .error (35,p)
def sgl(m:Md)(s:ByteArray)(o p:Nat):Rs (List (Int × Int) × Nat):=
 if eJ s p [91,58] then nam s o p
 else if eJ s p [91,61] then (match aM5 m s o p with
  | .error e=>.error e
  | .ok (c,q)=>.ok ([(c,c)],q))
 else spn m s o p
def itm(m:Md)(s:ByteArray)(o p:Nat):Rs (List (Int × Int) × Nat):=
 if !eJ s p [45] || eJ s p [45,93] then sgl m s o p else if p+1=s.size then .error (33,o) else .error (34,p)
def its(m:Md)(s:ByteArray)(o:Nat):Nat->Nat->List (Int × Int)->Rs (List (Int × Int) × Nat)
 | 0,_,_=>.error (33,o)
 | f+1,p,l=>if eJ s p [93] then .ok (l,p+1) else match itm m s o p with
  | .error e=>.error e
  | .ok (l',q)=>its m s o f q (l ++ l')
structure Tk where
 kind:Nat
 n:Nat
 mn:Int
 mx:Int
 q:Int->Prop
def aG5(Q:Int->Prop)(c:Int):Prop:=Q c\/(Q (c - 32)/\65<=c - 32/\c - 32<=90)\/(Q (c+32)/\97<=c+32/\c+32<=122)
def aN8(m:Md)(L:List (Int × Int))(t:Bool)(c:Int):Prop:=
 aN m.c c/\(if t then ¬ (if m.f then aG5 (In L) c else In L c) else if m.f then aG5 (In L) c else In L c)
def aA5(m:Md)(L:List (Int × Int))(t:Bool):Tk:=⟨1,0,0,0,aN8 m L t⟩
def kT(k:Nat):Tk:=⟨k,0,0,0,fun _=>False⟩
def aB5(a b:Int):Tk:=⟨2,0,a,b,fun _=>False⟩
def aN1(n:Nat):Tk:=⟨6,n,0,0,fun _=>False⟩
def brk(m:Md)(s:ByteArray)(p:Nat):Rs (Tk × Nat):=
 match sgl m s p (if eJ s (p+1) [94] then p+2 else p+1) with
 | .error e=>.error e
 | .ok (l,r)=>match its m s p (s.size+1) r l with
  | .error e=>.error e
  | .ok (l2,r2)=>.ok (aA5 m l2 (eJ s (p+1) [94]),r2)
def dig(b:UInt8):Bool:=48<=b && b<=57
def pP(s:ByteArray)(p:Nat):List UInt8:=(s.data.toList.drop p).takeWhile dig
def xY(l:List UInt8):Nat:=l.foldl (fun n d=>min (10 * n+(d.toNat - 48)) 256) 0
def ivQ(s:ByteArray)(p:Nat):Nat:=p+2+(pP s (p+2)).length
def ivB(s:ByteArray)(p:Nat):Int:=if eJ s (ivQ s p) [44] then (if (pP s (ivQ s p+1)).length=0 then -1 else (xY (pP s (ivQ s p+1)):Int)) else (xY (pP s (p+2)):Int)
def ivR(s:ByteArray)(p:Nat):Nat:=if eJ s (ivQ s p) [44] then ivQ s p+1+(pP s (ivQ s p+1)).length else ivQ s p
def aO0(s:ByteArray)(p:Nat):Rs (Tk × Nat):=
 if (pP s (p+2)).length=0\/eJ s (ivR s p) [92,125]=false then .error (36,p)
 else if 255 < xY (pP s (p+2))\/255 < ivB s p\/(ivB s p≠-1/\ivB s p < xY (pP s (p+2))) then .error (37,p)
 else .ok (aB5 (xY (pP s (p+2))) (ivB s p),ivR s p+2)
def aH0(last:Nat):Bool:=last==0 || last==3 || last==5 || last==7
def esc(m:Md)(s:ByteArray)(p last:Nat):Rs (Tk × Nat):=
 if p+1=s.size then .error (31,p)
 else if bt s (p+1)=40 then .ok (kT 3,p+2)
 else if bt s (p+1)=41 then .ok (kT 4,p+2)
 else if bt s (p+1)=124 then .ok (kT 5,p+2)
 else if 49<=bt s (p+1)/\bt s (p+1)<=57 then .ok (aN1 (bt s (p+1) - 48),p+2)
 else if bt s (p+1)=43\/bt s (p+1)=63\/bt s (p+1)=123 then
  if aH0 last then .error (38,p)
  else if bt s (p+1)=43 then .ok (aB5 1 (-1),p+2)
  else if bt s (p+1)=63 then .ok (aB5 0 1,p+2)
  else aO0 s p
 else if bt s (p+1)=46\/bt s (p+1)=91\/bt s (p+1)=93\/bt s (p+1)=42\/bt s (p+1)=94\/bt s (p+1)=36\/bt s (p+1)=92\/bt s (p+1)=47 then
  .ok (aA5 m [((bt s (p+1):Int),(bt s (p+1):Int))] false,p+2)
 else .error (32,p)
def aM2(s:ByteArray)(p:Nat):Bool:=decide (p+1=s.size) || eJ s (p+1) [92,41] || eJ s (p+1) [92,124]
def tok(m:Md)(s:ByteArray)(p last:Nat):Rs (Tk × Nat):=
 if eJ s p [92] then esc m s p last
 else if eJ s p [42] && !aH0 last then .ok (aB5 0 (-1),p+1)
 else if eJ s p [94] && (p==0 || last==3 || last==5) then .ok (kT 7,p+1)
 else if eJ s p [36] && aM2 s p then .ok (kT 8,p+1)
 else if eJ s p [46] then .ok (aA5 m [] true,p+1)
 else if eJ s p [91] then brk m s p
 else match chr m s p with
  | .error e=>.error e
  | .ok (c,q)=>.ok (aA5 m [(c,c)] false,q)
abbrev Tp:=Tk × Nat × Nat
def aL7(T:List Tp):Nat:=match T.getLast? with
 | none=>0
 | some t=>t.1.kind
def lx(m:Md)(s:ByteArray):Nat->Nat->List Tp->Rs (List Tp)
 | 0,_,_=>.error (30,0)
 | f+1,p,T=>
  if p < s.size then (match tok m s p (aL7 T) with
   | .error e=>.error e
   | .ok (t,q)=>lx m s f q (T ++ [(t,p,q)]))
  else .ok T
end
section
open Go
structure Emb(k:Nat)(s s':ByteArray):Prop where
 size:s.size+k<=s'.size
 get:∀ p,p < s.size->s'.data.toList[p+k]?=s.data.toList[p]?
section
variable {k:Nat} {s s':ByteArray} (h:Emb k s s')
include h
end
end
structure Fl where
 k:Int
 n:Int
 mn:Int
 mx:Int
 rs:List (Int × Int)
 rq:Option Addr
 rc:Nat
 kq:Option Addr
 kl:Nat
 kc:Nat
inductive Tr where
 | mk (f:Fl) (ks:List Tr)
def Tr.f:Tr->Fl | .mk f _=>f
def Tr.ks:Tr->List Tr | .mk _ ks=>ks
abbrev Way:=List (Tr × Nat)
abbrev El:=Way × Tr
mutual
def pp:Way->Tr->List El
 | p,.mk f ks=>(p,.mk f ks) :: pps (.mk f ks) p 0 ks
def pps(par:Tr)(p:Way):Nat->List Tr->List El
 | _,[]=>[]
 | i,t :: ts=>pp ((par,i) :: p) t ++ pps par p (i+1) ts
end
theorem bQ(p:Way)(t:Tr):pp p t=(p,t) :: pps t p 0 t.ks:=by
 cases t
 rw [pp]
 rfl
theorem aT(par:Tr)(p:Way)(i:Nat)(t:Tr)(ts:List Tr):pps par p i (t :: ts)=pp ((par,i) :: p) t ++ pps par p (i+1) ts:=by rw [pps]
theorem aV(par:Tr)(p:Way)(i:Nat):pps par p i []=[]:=by rw [pps]
mutual
def Tr.sz:Tr->Nat | .mk _ ks=>szs ks+1
def szs:List Tr->Nat | []=>0 | t :: ts=>t.sz+szs ts
end
theorem lE(t:Tr):t.sz=szs t.ks+1:=by cases t;rw [Tr.sz];rfl
theorem fW(t:Tr)(ts:List Tr):szs (t :: ts)=t.sz+szs ts:=by rw [szs]
theorem oT:szs []=0:=by rw [szs]
theorem kI(t:Tr):1<=t.sz:=by rw [lE];omega
theorem aH5{t:Tr}{ks:List Tr}(h:t∈ks):t.sz<=szs ks:=by
 induction ks with
 | nil=>cases h
 | cons x r ih=>
  rw [fW]
  rcases List.mem_cons.1 h with e | e
  ·subst e;omega
  ·have:=ih e;omega
theorem dX{t u:Tr}(h:u∈t.ks):u.sz < t.sz:=by rw [lE t];have:=aH5 h;omega
theorem Tr.ind{P:Tr->Prop}(h:∀ t,(∀ u∈t.ks,P u)->P t)(t:Tr):P t:=by
 have:∀ (m:Nat) (t:Tr),t.sz<=m->P t:=by
  intro m
  induction m with
  | zero=>intro t ht;have:=kI t;omega
  | succ m ih=>intro t ht;exact h t fun u hu=>ih u (by have:=dX hu;omega)
 exact this t.sz t lz9
theorem sW{ks:List Tr}(h:∀ t∈ks,∀ p,(pp p t).length=t.sz)(par:Tr)(p:Way)(i:Nat):(pps par p i ks).length=szs ks:=by
 induction ks generalizing i with
 | nil=>rw [aV,oT];rfl
 | cons t ts ih=>
  rw [aT,fW,List.length_append,h t (List.mem_cons_self ..),ih (fun u hu=>h u (List.mem_cons_of_mem _ hu))]
theorem dM(t:Tr):∀ p,(pp p t).length=t.sz:=by
 refine Tr.ind (P:=fun t=>∀ p,(pp p t).length=t.sz) (fun t ih p=>?_) t
 rw [bQ,lE,List.length_cons,sW ih]
def Nx(x y:El):Prop:=∃ (par:Tr) (j:Nat) (rest:Way),y.1=(par,j) :: rest/\((par=x.2/\j=0/\rest=x.1)\/∃ s i,x.1=s ++ (par,i) :: rest/\j=i+1)
def Ch:List El->Prop
 | []=>True
 | [_]=>True
 | x :: y :: r=>Nx x y/\Ch (y :: r)
theorem jZ{a b:List El}(ha:Ch a)(hb:Ch b)(h:∀ x∈a.getLast?,∀ y∈b.head?,Nx x y):Ch (a ++ b):=by
 induction a with
 | nil=>exact hb
 | cons x a ih=>
  cases a with
  | nil=>
   cases b with
   | nil=>trivial
   | cons y b=>exact⟨h x (by simp) y (by simp),hb⟩
  | cons z a=>exact⟨ha.1,ih ha.2 fun u hu=>h u (by rw [List.getLast?_cons_cons];exact hu)⟩
theorem zM{a b:List El}{x y:El}(h:Ch (a ++ x :: y :: b)):Nx x y:=by
 induction a with
 | nil=>exact h.1
 | cons z a ih=>
  cases a with
  | nil=>exact h.2.1
  | cons u a=>exact ih h.2
theorem pF{ks:List Tr}(h:∀ t∈ks,∀ p,Ch (pp p t)/\∀ z∈pp p t,∃ s,z.1=s ++ p)(par:Tr)(p:Way)(i:Nat) :
  Ch (pps par p i ks)/\(∀ z∈pps par p i ks,∃ s j,z.1=s ++ (par,j) :: p)/\∀ z∈(pps par p i ks).head?,z.1=(par,i) :: p:=by
 induction ks generalizing i with
 | nil=>rw [aV];exact⟨trivial,fun z hz=>(by cases hz),fun z hz=>(by cases hz)⟩
 | cons t ts ih=>
  obtain⟨c1,c2⟩:=h t (List.mem_cons_self ..) ((par,i) :: p)
  obtain⟨d1,d2,d3⟩:=ih (fun u hu=>h u (List.mem_cons_of_mem _ hu)) (i+1)
  rw [aT]
  refine⟨jZ c1 d1 fun x hx y hy=>?_,fun z hz=>?_,fun z hz=>?_⟩
  ·obtain⟨s,hs⟩:=c2 x (List.mem_of_getLast? hx)
   exact⟨par,i+1,p,d3 y hy,.inr ⟨s,i,hs,rfl⟩⟩
  ·rcases List.mem_append.1 hz with q | q
   ·obtain⟨s,hs⟩:=c2 z q
    exact⟨s,i,hs⟩
   ·exact d2 z q
  ·rw [bQ] at hz
   simp at hz
   subst hz
   rfl
theorem xU(t:Tr):∀ p,Ch (pp p t)/\∀ z∈pp p t,∃ s,z.1=s ++ p:=by
 refine Tr.ind (P:=fun t=>∀ p,Ch (pp p t)/\∀ z∈pp p t,∃ s,z.1=s ++ p) (fun t ih p=>?_) t
 obtain⟨d1,d2,d3⟩:=pF ih t p 0
 rw [bQ]
 refine⟨jZ (a:=[(p,t)]) trivial d1 fun x hx y hy=>?_,fun z hz=>?_⟩
 ·simp at hx
  subst hx
  exact⟨t,0,p,d3 y hy,.inl ⟨rfl,rfl,rfl⟩⟩
 ·rcases List.mem_cons.1 hz with q | q
  ·subst q
   exact⟨[],rfl⟩
  ·obtain⟨s,j,hs⟩:=d2 z q
   exact⟨s ++ [(t,j)],by simp [hs]⟩
theorem nU{t:Tr}{pre:List El}{x y:El}(h:pre ++ [x] ++ [y] <+: pp [] t):Nx x y:=by
 obtain⟨r,hr⟩:=h
 have:=(xU t []).1
 rw [<- hr,show pre ++ [x] ++ [y] ++ r=pre ++ x :: y :: r by simp] at this
 exact zM this
theorem lU{t:Tr}{x:El}(h:[x] <+: pp [] t):x=([],t):=by
 rw [bQ] at h
 obtain⟨r,hr⟩:=h
 simp at hr
 exact hr.1
mutual
def bU(P:Tr->Prop):Tr->Prop | .mk f ks=>P (.mk f ks)/\lD P ks
def lD(P:Tr->Prop):List Tr->Prop | []=>True | t :: ts=>bU P t/\lD P ts
end
theorem aX{P:Tr->Prop}(t:Tr):bU P t ↔ P t/\lD P t.ks:=by cases t;rw [bU];rfl
theorem bD{P:Tr->Prop}(ks:List Tr):lD P ks ↔ ∀ t∈ks,bU P t:=by
 induction ks with
 | nil=>rw [lD];simp
 | cons t ts ih=>rw [lD,ih];simp
theorem cT{P:Tr->Prop}{t u:Tr}(h:bU P t)(hu:u∈t.ks):bU P u:=(bD _).1 ((aX t).1 h).2 u hu
theorem mO{P:Tr->Prop}(t:Tr):∀ p,bU P t->∀ z∈pp p t,bU P z.2:=by
 refine Tr.ind (P:=fun t=>∀ p,bU P t->∀ z∈pp p t,bU P z.2) (fun t ih p he z hz=>?_) t
 rw [bQ] at hz
 rcases List.mem_cons.1 hz with q | q
 ·subst q;exact he
 ·have:∀ (ks:List Tr) (i:Nat),(∀ u∈ks,u∈t.ks)->z∈pps t p i ks->bU P z.2:=by
   intro ks
   induction ks with
   | nil=>intro i _ h;rw [aV] at h;cases h
   | cons u us ih2=>
    intro i hs h
    rw [aT] at h
    rcases List.mem_append.1 h with g | g
    ·exact ih u (hs u (List.mem_cons_self ..)) _ (cT he (hs u (List.mem_cons_self ..))) z g
    ·exact ih2 (i+1) (fun v hv=>hs v (List.mem_cons_of_mem _ hv)) g
  exact this t.ks 0 (fun _ h=>h) q
section
open Go Go.RowKit Go.Shelf
theorem pT{W W':World}(hb:Below W.heap.size W W'):W.grownBy W' none:=⟨hb.os,hb.tape,hb.output,hb.size,fun k hk _=>hb.block k hk⟩
structure CKeep(N:Nat->Prop)(W W':World):Prop where
 size:W.heap.size<=W'.heap.size
 same:∀ (k:Nat) (cur:Array Value) (t:TypeId) (fr:Nat × Nat),N k->W.heap[k]?=some (.cells cur t fr)->W'.heap[k]?=some (.cells cur t fr)
theorem CKeep.trans{N:Nat->Prop}{A B C:World}(h:CKeep N A B)(k:CKeep N B C):CKeep N A C:=⟨Nat.le_trans h.size k.size,fun i cur t fr hi hc=>k.same i cur t fr hi (h.same i cur t fr hi hc)⟩
theorem CKeep.put{N:Nat->Prop}{W:World}{l:Nat}{o:Obj}(o':Obj)(h:W.heap[l]?=some o)(hc:o.isCells=false):CKeep N W (W.putObj l o'):=
 ⟨(grownBy_putObj' W l o').size,fun k cur t fr _ hk=>by
  have hne:k≠l:=fun e=>by subst e;rw [hk] at h;cases h;cases hc
  exact(World.putObj_heap_other hne).trans hk⟩
theorem Fr.ckeep{S N:Nat->Prop}{W W':World}(h:Fr S W W')(hs:∀ k,S k->¬ N k):CKeep N W W':=
 ⟨h.size,fun k _ _ _ hk hc=>(h.block k (aC hc) (fun q=>hs k q hk)).trans hc⟩
theorem Fr.keepsFrom{S:Nat->Prop}{N:Nat}{W W':World}(h:Fr S W W')(hs:∀ k,S k->k < N):KeepsFrom N W W':=
 ⟨h.size,fun k o hk hc _=>(h.block k (aC hc) (fun q=>by have:=hs k q;omega)).trans hc⟩
def aH2{α:Type}(n:Nat)(P:Program)(gf:Nat)(lb:Array Value)(aY:α->Array Value)(N:Nat->Prop)(Told:List α->α->World->Prop)(S Sp:List α->Prop)(w:World):Prop:=
 ∀ (l:Nat) (J Jx:List α->World->Prop) (W:World),Below w.heap.size w W->OwnFrom W.heap.size J->OwnFrom W.heap.size Jx->(∀ pre V,J pre V->pre.length<=1000000) ->
  (∀ pre x V,J pre V->Told pre x V->YieldAt Fence.wide (n - 1) P l (aY x) V fun e V'=>KeepsFrom W.heap.size V V'/\((e=.returned (.bool true)/\J (pre ++ [x]) V'/\CKeep N V V')\/(e=.returned (.bool false)/\Jx (pre ++ [x]) V'))) ->
  J [] W->CallsIn Fence.wide n P gf (#[.func (.yield l) #[] #[]] ++ lb) W fun e V=>(∃ v,e=.returned v)/\((∃ xs,S xs/\J xs V)\/(∃ pre,Sp pre/\Jx pre V))
theorem cV{β:Type}{B:Nat}{J:β->World->Prop}(h:OwnFrom B J){s:β}{A A':World}(hj:J s A)(hb:Below A.heap.size A A'):J s A':=h s A A' none hj (pT hb) (fun _ e=>by cases e)
theorem fG{β:Type}{B B':Nat}{J:β->World->Prop}(h:OwnFrom B J)(hB:B<=B'):OwnFrom B' J:=fun s W W' row hs hg hr=>h s W W' row hs hg (fun r e=>⟨Nat.le_trans hB (hr r e).1,(hr r e).2⟩)
theorem jS{B B':Nat}{W W':World}(h:KeepsFrom B W W')(hB:B<=B'):KeepsFrom B' W W':=⟨h.size,fun k o hk hc ho=>h.same k o (Nat.le_trans hB hk) hc ho⟩
theorem eI{B:Nat}(W:World){l:Nat}(o:Obj)(hl:l < B):KeepsFrom B W (W.putObj l o):=
 ⟨(grownBy_putObj' W l o).size,fun k _ hk hc _=>(World.putObj_heap_other (by omega)).trans hc⟩
theorem rO{N:Nat->Prop}{W W':World}(hb:Below W.heap.size W W'):CKeep N W W':=⟨hb.size,fun k _ _ _ _ hc=>(hb.block k (aC hc)).trans hc⟩
theorem gE{B:Nat}{W W':World}(hb:Below W.heap.size W W'):KeepsFrom B W W':=⟨hb.size,fun k _ _ hc _=>(hb.block k (aC hc)).trans hc⟩
section
variable {α:Type} {P:Program}
def Rc(D:Nat)(r:Loop)(W:World):Prop:=W.heap[D+1]?=some (.loop r)/\W.heap[D]?=some (.deferred (some []))
theorem Rc.below{D:Nat}{r:Loop}{W W':World}(h:Rc D r W)(hb:Below W.heap.size W W'):Rc D r W':=
 ⟨(hb.block _ (aC h.1)).trans h.1,(hb.block _ (aC h.2)).trans h.2⟩
theorem Rc.from{D:Nat}{r:Loop}{W W':World}(h:Rc D r W)(hk:KeepsFrom D W W'):Rc D r W':=⟨hk.same _ _ (by omega) h.1 rfl,hk.same _ _ lz9 h.2 rfl⟩
theorem Rc.put{D:Nat}{r:Loop}{W:World}(h:Rc D r W)(r':Loop):Rc D r' (W.putObj (D+1) (.loop r')):=
 ⟨World.putObj_heap_same (aC h.1),(World.putObj_heap_other (by omega)).trans h.2⟩
theorem oZ{β:Type}{D:Nat}(r:Loop):OwnFrom (D+2) (fun (_:β) W=>Rc D r W):=fun _ A B row h hg hrow=>
 ⟨(hg.block _ (aC h.1) (fun e=>by have:=(hrow _ e.symm).1;omega)).trans h.1,(hg.block _ (aC h.2) (fun e=>by have:=(hrow _ e.symm).1;omega)).trans h.2⟩
theorem sT{D:Nat}{N:Nat->Prop}{r:Loop}{I:List α->World->Prop}{Ix:Code->List α->World->Prop}{xs:List α}{V W W3:World}{e:Exit}{a3:Act}
  (hI:OwnFrom D I) (hIx:∀ c,OwnFrom D (Ix c)) (hc:CKeep N V W) (hr:Rc D { r with state:=.busy } W)
  (hv:KeepsFrom (D+2) V W) (hp:ownPostG D (CKeep N) I Ix xs W e a3 W3):roundPost P (D+1) (fun e V'=>KeepsFrom (D+2) V V'/\((e=.returned (.bool true)/\(I xs V'/\Rc D { r with state:=.ready,pending:=none } V')/\CKeep N V V')\/(e=.returned (.bool false)/\∃ c,Ix c xs V'/\Rc D { r with state:=.done,pending:=some c } V'))) e a3 W3:=by
 have out:∀ c:Code,KeepsFrom D W W3->Ix c xs W3->∃ v V',(Instr.endRound (D+1) (some c)).run P W3=.ok v V'/\(KeepsFrom (D+2) V V'/\((Ending.returned v=.returned (.bool true)/\(I xs V'/\Rc D { r with state:=.ready,pending:=none } V')/\CKeep N V V')\/(Ending.returned v=.returned (.bool false)/\∃ c,Ix c xs V'/\Rc D { r with state:=.done,pending:=some c } V'))):=fun c hk hi=>by
  have h3:=hr.from hk
  exact⟨_,_,run_endRound (some c) h3.1,(hv.trans (jS hk (by omega))).trans (eI _ _ (by omega)),.inr ⟨rfl,c,(hIx c).putObj _ hi (by omega) h3.1 rfl,h3.put _⟩⟩
 cases e with
 | normal=>
  obtain⟨hk,hkp,hi⟩:=hp
  have h3:=hr.from hk
  exact⟨_,_,run_endRound none h3.1,(hv.trans (jS hk (by omega))).trans (eI _ _ (by omega)),.inl ⟨rfl,⟨hI.putObj _ hi (by omega) h3.1 rfl,h3.put _⟩,(hc.trans hkp).trans (CKeep.put _ h3.1 rfl)⟩⟩
 | ret=>exact out .ret hp.1 hp.2
 | exit id=>exact out (.exit id) hp.1 hp.2
 | goto t=>exact out (.goto t) hp.1 hp.2
 | panic ch=>exact hp.elim
 | outgrown=>exact hp.elim
theorem sU{g:Operand}{ps:Array Tmp}{assign body:Code}{Q:Exit->Act->World->Prop}{a:Act}{w:World}{n:Nat}(h1:1<=n){gf:Nat}{lb:Array Value}
  (hg:a.eval g=.func (.func gf) #[] lb) (eg:∀ args w,(callFunc gf args).run P w=.ok (.enter gf args) w) {aY:α->Array Value} (hps:∀ x,(aY x).size=ps.size)
  {N:Nat->Prop} {Told:List α->α->World->Prop} {S Sp:List α->Prop} (hseq:aH2 (n - 1) P gf lb aY N Told S Sp w)
  (I:List α->World->Prop) (Ix:Code->List α->World->Prop) (hI:OwnFrom w.heap.size I) (hIx:∀ c,OwnFrom w.heap.size (Ix c)) (hT:∀ pre x,OwnFrom w.heap.size (fun (_:Unit) W=>Told pre x W)) (hbd:∀ pre W,I pre W->pre.length<=1000000) (h0:I [] w) (Ax:α->Act->World->Prop) (hAx:∀ x a',OwnFrom w.heap.size (fun (_:Unit) W=>Ax x a' W))
  (hassign:∀ (l:Nat) (pre:List α) (x:α) (W:World) (K:Act->World->Prop),I pre W->Told pre x W->(∀ a' W',Below W.heap.size W W'->Ax x a' W'->K a' W') ->
   assign.wpIn (Fence.wide.inRound l) (n - 1 - 1) P (Exit.then K (fun _ _ _=>False)) { tmps:=(ps.zip (aY x)).foldl (fun t (p,v)=>t.setIfInBounds p v) a.tmps,defers:=[] } W)
  (hbody:∀ (l:Nat) (pre:List α) (x:α) (a':Act) (W:World),I pre W->Told pre x W->Ax x a' W->body.wpIn (Fence.wide.inRound l) (n - 1 - 1) P (ownPostG w.heap.size (CKeep N) I Ix (pre ++ [x]) W) a' W)
  (hdone:∀ (D:Nat) (xs:List α) (W:World),w.heap.size<=D->S xs->I xs W->W.heap[D]?=some (.deferred (some []))->Q .normal { a with defers:={ target:=.collected D,args:=#[] } :: a.defers } W)
  (hstop:∀ (D:Nat) (c:Code) (pre:List α) (W:World),w.heap.size<=D->Sp pre->Ix c pre W->W.heap[D]?=some (.deferred (some []))->c.wpIn Fence.wide n P Q { a with defers:={ target:=.collected D,args:=#[] } :: a.defers } W) :
  (Code.rangeFunc g ps assign body).wpIn Fence.wide n P Q a w:=by
 refine wpIn_rangeFunc fun fn hfn=>?_
 let r:Loop:={ state:=.ready,pending:=none,fn:=fn,tmps:=a.tmps,params:=ps,assign:=assign,body:=body,defers:=w.heap.size }
 have hB:Below w.heap.size w ((w.alloc (.deferred (some []))).alloc (.loop r)):=(bz9).alloc (by simp) _
 have hz:((w.alloc (.deferred (some []))).alloc (.loop r)).heap.size=w.heap.size+2:=by simp
 have hR:Rc w.heap.size r ((w.alloc (.deferred (some []))).alloc (.loop r)):=by
  refine⟨?_,(Below.heap_alloc _ _ _ (by simp)).trans (World.alloc_heap_new w _)⟩
  have:=World.alloc_heap_new (w.alloc (.deferred (some []))) (.loop r)
  rwa [World.size_alloc] at this
 refine⟨w.heap.size+1,[{ target:=.collected w.heap.size,args:=#[] }],((w.alloc (.deferred (some []))).alloc (.loop r)),{ target:=.fn (.func gf) lb,args:=#[.func (.yield (w.heap.size+1)) #[] #[]] },((w.alloc (.deferred (some []))).alloc (.loop r)),gf,#[.func (.yield (w.heap.size+1)) #[] #[]] ++ lb,((w.alloc (.deferred (some []))).alloc (.loop r)),
  run_enterLoop_outer _ _ _ _ _,?_,fun _ _=>trivial,?_,fun _=>h1,?_⟩
 ·simp only [resolve,hg]
  simp [go_sem]
 ·simp [invoke,go_sem,eg]
 ·refine(hseq (w.heap.size+1) (fun pre W=>I pre W/\Rc w.heap.size r W) (fun pre W=>∃ c,Ix c pre W/\Rc w.heap.size { r with state:=.done,pending:=some c } W) _ hB
   ?_ ?_ (fun pre V h=>hbd pre V h.1) ?_ ⟨hI.alloc _ (hI.alloc _ h0),hR⟩).mono ?_
  ·rw [hz]
   exact(fG hI (by omega)).and (oZ _)
  ·rw [hz]
   rintro pre A B row ⟨c,hi,hr⟩ hg hrow
   exact⟨c,fG (hIx c) (by omega) pre A B row hi hg hrow,oZ (β:=Unit) _ () A B row hr hg hrow⟩
  ·rw [hz]
   rintro pre x V ⟨hi,hr⟩ ht
   refine⟨fn,_,assign,body,run_yield hr.1 (hps x),roundIn_of_wpIn hfn (hassign _ pre x V _ hi ht ?_)⟩
   intro a' W' hb hax
   have hr':=hr.below hb
   refine⟨_,run_beginRound hr'.1 rfl,?_⟩
   have hr2:Rc w.heap.size { r with state:=.busy } (W'.putObj (w.heap.size+1) (.loop { r with state:=.busy })):=hr'.put _
   exact wpIn_mono (hbody _ pre x a' _ (hI.putObj _ (cV hI hi hb) (by omega) hr'.1 rfl) ((hT pre x).putObj (s:=()) _ (cV (hT pre x) (s:=()) ht hb) (by omega) hr'.1 rfl) ((hAx x a').putObj (s:=()) _ hax (by omega) hr'.1 rfl)) fun e a3 W3 hp=>
    sT (r:=r) hI hIx ((rO hb).trans (CKeep.put _ hr'.1 rfl)) hr2 ((gE hb).trans (eI _ _ (by omega))) hp
  ·rintro e V ⟨⟨v,rfl⟩,(⟨xs,hS,hi,hr⟩ | ⟨pre,hSp,c,hi,hr⟩)⟩
   ·exact⟨none,_,run_endLoop hr.1 (by simp [r]),hdone _ xs _ lz9 hS (hI.putObj _ hi (by omega) hr.1 rfl) ((World.putObj_heap_other (by omega)).trans hr.2)⟩
   ·exact⟨some c,_,run_endLoop hr.1 (by simp),hstop _ c pre _ lz9 hSp ((hIx c).putObj _ hi (by omega) hr.1 rfl) ((World.putObj_heap_other (by omega)).trans hr.2)⟩
end
theorem bP{W W':World}{row:Option Nat}{B:Nat}(hg:W.grownBy W' row)(hr:∀ r,row=some r->B<=r/\∃ o:Obj,W.heap[r]?=some o/\o.isCells=false){k:Nat}{cur:Array Value}{t:TypeId}{fr:Nat × Nat}(hc:W.heap[k]?=some (.cells cur t fr)) :
  W'.heap[k]?=some (.cells cur t fr):=by
 refine(hg.block k (aC hc) (fun e=>?_)).trans hc
 obtain⟨_,o,ho,hq⟩:=hr k e.symm
 rw [hc] at ho
 cases ho
 cases hq
theorem cC{N:Nat->Prop}{W W':World}{p:Addr}{v:Value}(h:CKeep N W W')(hp:N p.block)(hc:W.cell? p=some v):W'.cell? p=some v:=by
 unfold World.cell? at hc ⊢
 cases ho:W.heap[p.block]? with
 | none=>simp [ho] at hc
 | some o=>
  cases o with
  | cells cur t fr=>rw [h.same _ _ _ _ hp ho];rw [ho] at hc;exact hc
  | _=>simp [ho] at hc
end
theorem nT:Tryz.prog.underlying 23=some (.slice 25):=by kernel_rfl
theorem vC:(Tryz.prog.info? 25).map (fun i=>(i.zero,i.size,i.bytes))=some (some (.agg #[.int .i64 0,.int .i64 0,.int .i64 0,.int .i64 0,.slice none 0 0,.slice none 0 0]),6,80):=by kernel_rfl
def Six(W:World)(g o:Nat)(f:Fl):Prop:=
 W.cell? ⟨g,o,none⟩=some (.int .i64 f.k)/\W.cell? ⟨g,o+1,none⟩=some (.int .i64 f.n)/\W.cell? ⟨g,o+2,none⟩=some (.int .i64 f.mn)/\W.cell? ⟨g,o+3,none⟩=some (.int .i64 f.mx)/\W.cell? ⟨g,o+4,none⟩=some (.slice f.rq f.rs.length f.rc)/\W.cell? ⟨g,o+5,none⟩=some (.slice f.kq f.kl f.kc)
theorem Six.ck{N:Nat->Prop}{W W':World}{g o:Nat}{f:Fl}(h:Six W g o f)(hc:CKeep N W W')(hg:N g):Six W' g o f:=
 ⟨cC hc (p:=⟨g,o,none⟩) hg h.1,cC hc (p:=⟨g,o+1,none⟩) hg h.2.1,cC hc (p:=⟨g,o+2,none⟩) hg h.2.2.1,cC hc (p:=⟨g,o+3,none⟩) hg h.2.2.2.1,cC hc (p:=⟨g,o+4,none⟩) hg h.2.2.2.2.1,cC hc (p:=⟨g,o+5,none⟩) hg h.2.2.2.2.2⟩
def ArgK(W:World)(v:Value)(ks:List Tr):Prop:=
 (∃ p cap,v=.slice p 0 cap/\ks=[]/\(p=none->cap=0))\/∃ g off cap,v=.slice (some ⟨g,off,none⟩) ks.length cap/\g < W.heap.size/\ks.length<=cap/\cap<=maxLen/\∀ (i:Nat) (t:Tr),ks[i]?=some t->Six W g (off+i * 6) t.f
theorem ArgK.slice{W:World}{v:Value}{ks:List Tr}(h:ArgK W v ks):∃ q cap,v=.slice q ks.length cap/\ks.length<=maxLen/\ks.length<=cap /\
  (∀ (i:Nat) (t:Tr),ks[i]?=some t->∃ g off,q=some ⟨g,off,none⟩/\g < W.heap.size/\Six W g (off+i * 6) t.f):=by
 rcases h with⟨p,cap,rfl,rfl,-⟩ | ⟨g,off,cap,rfl,h2,h3,h4,h5⟩
 ·exact⟨p,cap,rfl,Nat.zero_le _,Nat.zero_le _,fun i x hx=>by simp at hx⟩
 ·exact⟨_,cap,rfl,Nat.le_trans h3 h4,h3,fun i x hx=>⟨g,off,rfl,h2,h5 i x hx⟩⟩
def CK(W W':World):Prop:=CKeep (fun k=>k < W.heap.size) W W'
theorem CK.of_below{W W':World}(h:Below W.heap.size W W'):CK W W':=⟨h.size,fun k _ _ _ _ hc=>(h.block k (aC hc)).trans hc⟩
theorem CK.trans{A B C:World}(h:CK A B)(k:CK B C):CK A C:=⟨Nat.le_trans h.size k.size,fun i cur t fr hi hc=>k.same i cur t fr (Nat.lt_of_lt_of_le hi h.size) (h.same i cur t fr hi hc)⟩
theorem CK.step{A B C:World}(h:CK A B)(k:CKeep (fun i=>i < A.heap.size) B C):CK A C:=⟨Nat.le_trans h.size k.size,fun i cur t fr hi hc=>k.same i cur t fr hi (h.same i cur t fr hi hc)⟩
theorem ArgK.ck{W W':World}{v:Value}{ks:List Tr}(h:ArgK W v ks)(hc:CK W W'):ArgK W' v ks:=by
 rcases h with h | ⟨g,off,cap,h1,h2,h3,h4,h5⟩
 ·exact .inl h
 ·exact .inr ⟨g,off,cap,h1,Nat.lt_of_lt_of_le h2 hc.size,h3,h4,fun i x hx=>(h5 i x hx).ck hc h2⟩
theorem ArgR.ck{W W':World}{v:Value}{L:List (Int × Int)}(h:ArgR W v L)(hc:CK W W'):ArgR W' v L:=by
 rcases h with h | ⟨g,off,cap,h1,h2,h3,h4,h5⟩
 ·exact .inl h
 ·exact .inr ⟨g,off,cap,h1,Nat.lt_of_lt_of_le h2 hc.size,h3,h4,fun i x hx=>⟨cC hc (p:=⟨g,off+2 * i,none⟩) h2 (h5 i x hx).1,cC hc (p:=⟨g,off+2 * i+1,none⟩) h2 (h5 i x hx).2⟩⟩
def NO(W:World)(t:Tr):Prop:=(∀ a,t.f.rq=some a->t.f.rs≠[]->∃ cur,W.heap[a.block]?=some (.cells cur 48 (0,0)))/\(∀ a,t.f.kq=some a->t.ks≠[]->∃ cur,W.heap[a.block]?=some (.cells cur 25 (0,0)))
structure NA(W:World)(t:Tr):Prop where
 r:ArgR W (.slice t.f.rq t.f.rs.length t.f.rc) t.f.rs
 k:ArgK W (.slice t.f.kq t.f.kl t.f.kc) t.ks
 fit:Fit t.f.rs
 len:t.f.rs.length+3<=8796093022208
 own:NO W t
def TA(W:World)(t:Tr):Prop:=bU (NA W) t
theorem eZ{P Q:Tr->Prop}(h:∀ t,P t->Q t)(t:Tr):bU P t->bU Q t:=by
 refine Tr.ind (P:=fun t=>bU P t->bU Q t) (fun t ih he=>?_) t
 exact(aX t).2 ⟨h t ((aX t).1 he).1,(bD _).2 fun u hu=>ih u hu (cT he hu)⟩
structure NB(W:World)(t:Tr):Prop where
 r:ArgR W (.slice t.f.rq t.f.rs.length t.f.rc) t.f.rs
 k:ArgK W (.slice t.f.kq t.f.kl t.f.kc) t.ks
 fit:Fit t.f.rs
 len:t.f.rs.length+3<=8796093022208
theorem NB.ck{W W':World}{t:Tr}(h:NB W t)(hc:CK W W'):NB W' t:=⟨h.r.ck hc,h.k.ck hc,h.fit,h.len⟩
theorem NB.kl{W:World}{t:Tr}(h:NB W t):t.f.kl=t.ks.length:=by
 obtain⟨q,cap,e,-⟩:=h.k.slice
 injection e
def TB(W:World)(t:Tr):Prop:=bU (NB W) t
theorem TB.ck{W W':World}{t:Tr}(h:TB W t)(hc:CK W W'):TB W' t:=eZ (fun _ q=>NB.ck q hc) t h
theorem TB.kept{W W':World}{t:Tr}(h:TB W t)(hb:Below W.heap.size W W'):TB W' t:=h.ck (CK.of_below hb)
theorem TB.node{W:World}{t:Tr}(h:TB W t):NB W t:=((aX t).1 h).1
theorem TB.kid{W:World}{t u:Tr}(h:TB W t)(hu:u∈t.ks):TB W u:=cT h hu
theorem TB.at{W:World}{t:Tr}(h:TB W t){p:Way}{z:El}(hz:z∈pp p t):TB W z.2:=mO t p h z hz
theorem TA.tb{W:World}{t:Tr}(h:TA W t):TB W t:=eZ (fun _ q=>⟨q.r,q.k,q.fit,q.len⟩) t h
instance {W:World} {t:Tr}:Coe (TA W t) (TB W t):=⟨TA.tb⟩
def BoxN(W:World)(b:Nat)(f:Fl):Prop:=W.heap[b]?=some (.cells #[.int .i64 f.k,.int .i64 f.n,.int .i64 f.mn,.int .i64 f.mx,.slice f.rq f.rs.length f.rc,.slice f.kq f.kl f.kc] 25 (0,0))
theorem BoxN.six{W:World}{b:Nat}{f:Fl}(h:BoxN W b f):Six W b 0 f:=
 ⟨aA h (i:=0) rfl,aA h (i:=1) rfl,aA h (i:=2) rfl,aA h (i:=3) rfl,aA h (i:=4) rfl,aA h (i:=5) rfl⟩
section
inductive Er where
 | mk (k n mn mx:Int) (rs:List (Int × Int)) (ks:List Er)
mutual
def er:Tr->Er | .mk f ks=>.mk f.k f.n f.mn f.mx f.rs (ers ks)
def ers:List Tr->List Er | []=>[] | t :: ts=>er t :: ers ts
end
theorem aE1(l:List Tr):ers l=l.map er:=by
 induction l with
 | nil=>rw [ers];rfl
 | cons t ts ih=>rw [ers,ih];rfl
theorem iI(t:Tr):er t=.mk t.f.k t.f.n t.f.mn t.f.mx t.f.rs (t.ks.map er):=by
 cases t
 rw [er,aE1]
 rfl
theorem mQ(a b:Tr):er a=er b ↔ a.f.k=b.f.k/\a.f.n=b.f.n/\a.f.mn=b.f.mn/\a.f.mx=b.f.mx/\a.f.rs=b.f.rs/\a.ks.map er=b.ks.map er:=by
 rw [iI a,iI b]
 constructor
 ·intro h
  injection h with h1 h2 h3 h4 h5 h6
  exact⟨h1,h2,h3,h4,h5,h6⟩
 ·rintro ⟨h1,h2,h3,h4,h5,h6⟩
  rw [h1,h2,h3,h4,h5,h6]
open Classical in
noncomputable def lF (a b:Er):Bool:=decide (a=b)
theorem nX(a b:Er):lF a b=true ↔ a=b:=by unfold lF;simp
theorem sR(a:Er):lF a a=true:=(nX a a).2 rfl
end
inductive Sgn where
 | lf (k n:Int) (rs:List (Int × Int))
 | op (n:Nat)
 | cl
 | al
 | rp (a b:Int)
inductive Ps where
 | lf (k n:Int) (rs:List (Int × Int))
 | grp (n:Nat) (x:Ps)
 | rep (a b:Int) (x:Ps)
 | row (l:List Ps)
 | alt (l:List Ps)
mutual
def Ps.sz:Ps->Nat
 | .lf _ _ _=>1
 | .grp _ x=>x.sz+1
 | .rep _ _ x=>x.sz+1
 | .row l=>mD l+1
 | .alt l=>mD l+1
def mD:List Ps->Nat
 | []=>0
 | x :: l=>x.sz+mD l
end
mutual
def Ps.dp:Ps->Nat
 | .lf _ _ _=>1
 | .grp _ x=>x.dp+1
 | .rep _ _ x=>x.dp+1
 | .row l=>kP l+1
 | .alt l=>kP l+1
def kP:List Ps->Nat
 | []=>0
 | x :: l=>max x.dp (kP l)
end
mutual
def pfl:Ps->List Sgn
 | .lf k n rs=>[.lf k n rs]
 | .grp n x=>.op n :: (pfl x ++ [.cl])
 | .rep a b x=>pfl x ++ [.rp a b]
 | .row l=>nM l
 | .alt l=>aI6 l
def nM:List Ps->List Sgn
 | []=>[]
 | x :: l=>pfl x ++ nM l
def aI6:List Ps->List Sgn
 | []=>[]
 | x :: l=>pfl x ++ mH l
def mH:List Ps->List Sgn
 | []=>[]
 | x :: l=>.al :: (pfl x ++ mH l)
end
mutual
def te:Ps->Er
 | .lf k n rs=>.mk k n 0 0 rs []
 | .grp n x=>.mk 7 n 0 0 [] [te x]
 | .rep a b x=>.mk 9 0 a b [] [te x]
 | .row l=>if l.isEmpty then .mk 1 0 0 0 [] [] else .mk 5 0 0 0 [] (tes l)
 | .alt l=>.mk 6 0 0 0 [] (tes l)
def tes:List Ps->List Er
 | []=>[]
 | x :: l=>te x :: tes l
end
theorem lM(l:List Ps):tes l=l.map te:=by
 induction l with
 | nil=>rw [tes];rfl
 | cons x l ih=>rw [tes,ih];rfl
def Ps.kd:Ps->Int
 | .lf k _ _=>k
 | .grp _ _=>7
 | .rep _ _ _=>9
 | .row l=>if l.isEmpty then 1 else 5
 | .alt _=>6
def qZ:Ps->Bool
 | .row _=>false
 | .alt _=>false
 | _=>true
def aJ4:Ps->Bool
 | .alt _=>false
 | _=>true
def oH:Ps->Bool
 | .lf k _ _=>k==2 || k==8
 | .grp _ _=>true
 | .rep _ _ _=>true
 | _=>false
def aN4(l:List Ps):Prop:=∀ (i:Nat) (x:Ps),l[i]?=some x->qZ x=true/\(x.kd=3->i=0)/\(x.kd=4->i+1=l.length)
mutual
def wf:Ps->Prop
 | .lf k _ _=>k=2\/k=3\/k=4\/k=8
 | .grp _ x=>wf x
 | .rep _ _ x=>oH x=true/\wf x
 | .row l=>l.length≠1/\aN4 l/\wfs l
 | .alt l=>2<=l.length/\(∀ x∈l,aJ4 x=true)/\wfs l
def wfs:List Ps->Prop
 | []=>True
 | x :: l=>wf x/\wfs l
end
theorem tV(l:List Ps):wfs l ↔ ∀ x∈l,wf x:=by
 induction l with
 | nil=>rw [wfs];simp
 | cons x l ih=>rw [wfs,ih];simp
theorem aC0(x:Ps):1<=x.sz:=by cases x <;> simp [Ps.sz]
theorem oC(x:Ps)(l:List Ps):mD (x :: l)=x.sz+mD l:=by rw [mD]
theorem qM:mD []=0:=by rw [mD]
theorem uD{x:Ps}{l:List Ps}(h:x∈l):x.sz<=mD l:=by
 induction l with
 | nil=>cases h
 | cons y l ih=>
  rw [oC]
  rcases List.mem_cons.1 h with rfl | h
  ·omega
  ·have:=ih h;omega
def Ps.kids:Ps->List Ps
 | .lf _ _ _=>[]
 | .grp _ x=>[x]
 | .rep _ _ x=>[x]
 | .row l=>l
 | .alt l=>l
theorem aC1{x y:Ps}(h:y∈x.kids):y.sz < x.sz:=by
 cases x with
 | lf=>cases h
 | grp n k=>simp [Ps.kids] at h;subst h;simp [Ps.sz]
 | rep a b k=>simp [Ps.kids] at h;subst h;simp [Ps.sz]
 | row l=>have:=uD (show y∈l from h);simp [Ps.sz];omega
 | alt l=>have:=uD (show y∈l from h);simp [Ps.sz];omega
theorem Ps.ind{P:Ps->Prop}(h:∀ x,(∀ y∈x.kids,P y)->P x)(x:Ps):P x:=by
 have:∀ (m:Nat) (x:Ps),x.sz<=m->P x:=by
  intro m
  induction m with
  | zero=>intro x hx;have:=aC0 x;omega
  | succ m ih=>intro x hx;exact h x fun y hy=>ih y (by have:=aC1 hy;omega)
 exact this x.sz x lz9
def hk:Nat->List Nat->List Nat->List Sgn->Prop
 | _,o,_,[]=>o=[]
 | g,o,e,.op n :: l=>n=g+1/\g < 30/\hk (g+1) (n :: o) e l
 | g,o,e,.cl :: l=>∃ n o',o=n :: o'/\hk g o' (n :: e) l
 | g,o,e,.lf k n _ :: l=>(k=8->∃ i∈e,n=(i:Int))/\hk g o e l
 | g,o,e,_ :: l=>hk g o e l
def cB(k:Int):Bool:=decide (1<=k) && decide (k<=9)
def aZ(k:Int):Bool:=k==2 || k==7 || k==8 || k==9
def dL(a b:Int):Bool:=decide (0<=a) && decide (a<=255) && (b==-1 ||(decide (a<=b) && decide (b<=255)))
def dV(k:Int)(n:Nat):Bool:=if k=5\/k=6 then decide (2<=n) else if k=7\/k=9 then n==1 else n==0
theorem qY(k:Int)(w:World):Calls Tryz.prog 102 #[.int .i64 k] w fun e w'=>e=.returned (.bool (cB k))/\w'=w:=by
 have hid:∀ b,cB k=b->Calls Tryz.prog 102 #[.int .i64 k] w fun e w'=>e=.returned (.bool b)/\w'=w:=by
  intro b hb
  by_cases h1:(1:Int)<=k
  ·by_cases h2:k<=9
   ·have e:b=true:=by rw [<- hb];simp [cB,h1,h2]
    subst e
    clear hb
    go_enter Tryz.func102,Tryz.ntmps102
    go_wp2
    go_ret
    exact⟨rfl,rfl⟩
   ·have e:b=false:=by rw [<- hb];simp [cB,h2]
    subst e
    clear hb
    go_enter Tryz.func102,Tryz.ntmps102
    go_wp2
    go_ret
    exact⟨rfl,rfl⟩
  ·have e:b=false:=by rw [<- hb];simp [cB,h1]
   subst e
   clear hb
   go_enter Tryz.func102,Tryz.ntmps102
   go_wp2
   go_ret
   exact⟨rfl,rfl⟩
 exact hid _ rfl
theorem lI(k:Int)(w:World):Calls Tryz.prog 101 #[.int .i64 k] w fun e w'=>e=.returned (.bool (aZ k))/\w'=w:=by
 have hid:∀ b,aZ k=b->Calls Tryz.prog 101 #[.int .i64 k] w fun e w'=>e=.returned (.bool b)/\w'=w:=by
  intro b hb
  unfold aZ at hb
  cases h1:(k==2) <;> cases h2:(k==7) <;> cases h3:(k==8) <;> cases h4:(k==9) <;> rw [h1,h2,h3,h4] at hb <;> simp at hb <;> subst hb
  all_goals
   go_enter Tryz.func101,Tryz.ntmps101
   go_wp2
   go_ret
   exact⟨rfl,rfl⟩
 exact hid _ rfl
theorem nL(a b:Int)(w:World):Calls Tryz.prog 104 #[.int .i64 a,.int .i64 b] w fun e w'=>e=.returned (.bool (dL a b))/\w'=w:=by
 have hid:∀ r,dL a b=r->Calls Tryz.prog 104 #[.int .i64 a,.int .i64 b] w fun e w'=>e=.returned (.bool r)/\w'=w:=by
  intro r hb
  unfold dL at hb
  by_cases h1:(0:Int)<=a
  ·by_cases h2:a<=255
   ·cases h3:(b==-1) with
    | true=>
     simp [h1,h2,h3] at hb
     subst hb
     go_enter Tryz.func104,Tryz.ntmps104
     go_wp2
     go_ret
     exact⟨rfl,rfl⟩
    | false=>
     by_cases h4:a<=b
     ·by_cases h5:b<=255
      ·simp [h1,h2,h3,h4,h5] at hb
       subst hb
       go_enter Tryz.func104,Tryz.ntmps104
       go_wp2
       go_ret
       exact⟨rfl,rfl⟩
      ·simp [h1,h2,h3,h4,h5] at hb
       subst hb
       go_enter Tryz.func104,Tryz.ntmps104
       go_wp2
       go_ret
       exact⟨rfl,rfl⟩
     ·simp [h1,h2,h3,h4] at hb
      subst hb
      go_enter Tryz.func104,Tryz.ntmps104
      go_wp2
      go_ret
      exact⟨rfl,rfl⟩
   ·simp [h1,h2] at hb
    subst hb
    go_enter Tryz.func104,Tryz.ntmps104
    go_wp2
    go_ret
    exact⟨rfl,rfl⟩
  ·simp [h1] at hb
   subst hb
   go_enter Tryz.func104,Tryz.ntmps104
   go_wp2
   go_ret
   exact⟨rfl,rfl⟩
 exact hid _ rfl
theorem zP(n:Nat):((n:Int)==0)=(n==0):=by cases n <;> rfl
theorem aF0(n:Nat):((n:Int)==1)=(n==1):=by rw [Bool.eq_iff_iff];simp;omega
theorem qK(f:Fl)(w:World):Calls Tryz.prog 61 #[.agg #[.int .i64 f.k,.int .i64 f.n,.int .i64 f.mn,.int .i64 f.mx,.slice f.rq f.rs.length f.rc,.slice f.kq f.kl f.kc]] w fun e w'=>e=.returned (.bool (dV f.k f.kl))/\Below w.heap.size w w':=by
 obtain⟨r,hr⟩:∃ r,dV f.k f.kl=r:=⟨_,rfl⟩
 rw [hr]
 have HR:=aB hr
 have B1:Hid (Below w.heap.size w (w.alloc (.cells #[.int .i64 f.k,.int .i64 f.n,.int .i64 f.mn,.int .i64 f.mx,.slice f.rq f.rs.length f.rc,.slice f.kq f.kl f.kc] 25))):=bz9
 have N1:Hid (BoxN (w.alloc (.cells #[.int .i64 f.k,.int .i64 f.n,.int .i64 f.mn,.int .i64 f.mx,.slice f.rq f.rs.length f.rc,.slice f.kq f.kl f.kc] 25)) w.heap.size f):=aF w _
 obtain⟨c0,-,-,-,-,c5⟩:=N1.out.six
 simp only [Nat.zero_add] at c5
 clear hr
 cases h5:(f.k==5) <;> cases h6:(f.k==6) <;> cases h7:(f.k==7) <;> cases h9:(f.k==9)
 all_goals
  go_enter Tryz.func61,Tryz.ntmps61
  go_wp2
  go_ret
  refine⟨?_,B1.out⟩
  rw [<- HR.out]
  unfold dV
  simp at h5 h6 h7 h9
  simp [h5,h6,h7,h9]
  try first | exact zP _ | exact aF0 _ | omega
section
open Go
open Classical in
noncomputable def rsQ (q:Int->Prop):List (Int × Int):=if h:∃ C,IsC C q then h.choose else []
noncomputable def sgT (g:Nat) (t:Tk):Sgn:=
 if t.kind=3 then .op (g+1) else if t.kind=4 then .cl else if t.kind=5 then .al else if t.kind=2 then .rp t.mn t.mx
 else if t.kind=7 then .lf 3 0 [] else if t.kind=8 then .lf 4 0 [] else if t.kind=6 then .lf 8 (t.n:Int) [] else .lf 2 0 (rsQ t.q)
def gnx(g:Nat)(t:Tk):Nat:=if t.kind=3 then g+1 else g
noncomputable def aL0:Nat->List Tp->List Sgn
 | _,[]=>[]
 | g,t :: T=>sgT g t.1 :: aL0 (gnx g t.1) T
end
end Go.Proofs.YticfnglebbakkaaGreatDoor
