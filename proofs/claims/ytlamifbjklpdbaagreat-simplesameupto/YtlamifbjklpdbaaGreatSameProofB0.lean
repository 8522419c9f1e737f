/-
  Parts of the proof.
-/
import Derived.Test.YtlamifbjklpdbaaGreatSameProofA0
import Derived.Test.YtlamifbjklpdbaaGreatProg
import Derived.WalkKit
import Derived.WalkSpells
import Derived.WalkLawsBesides
import Derived.Below
import Derived.Laws.AppendOwn
import Derived.Laws.MakeOwn
import Derived.Laws.CopyOwn
import Derived.BigQuiet
import Derived.ProofKit
import Derived.OpenShut
import Derived.Stop.Joined
import Derived.ChangeOld
import Derived.ChangeSlices
import Derived.Carry
import Derived.Maps.AppendAt
import Derived.OwnWalk
import Derived.Deep.RegionLaw
import Derived.Deep.RegionWith
import Derived.Deep.DeepCutAuto
import Derived.Laws.OwnMore
import Derived.RangeFuncNested
import Derived.RangeFuncBound
import Derived.RangeFuncCalls
import Derived.RangeFuncLeaves
import Derived.RangeFuncBox
import Derived.Shelf.Abstract
import Derived.Shelf.RegionOpen
import Derived.OwnWalkIn
import Derived.TacticsInMore
import Derived.LoopNIn
import Derived.LoopIn
set_option linter.unusedSimpArgs false
set_option maxRecDepth 100000
set_option maxHeartbeats 8000000
namespace Go.Proofs.YtlamifbjklpdbaaGreat
open Go Go.RowKit
theorem lz9{n:Nat}:n<=n:=t8 n
theorem bz9{w:World}{o:Obj}:Below w.heap.size w (w.alloc o):=(Below.refl w.heap.size w).alloc (t8 w.heap.size) o
def fN(l:List Int):List Value:=l.map (Value.int .i64)
theorem aQ3{l:List Int}{i:Nat}{x:Int}(h:l[i]?=some x):(fN l)[i]?=some (.int .i64 x):=by simp [fN,h]
theorem vB(a b:List Int):fN (a++b)=fN a++fN b:=by simp [fN]
structure Fr(S:Nat->Prop)(w w':World):Prop where
 os:w'.os=w.os
 tape:w'.tape=w.tape
 output:w'.output=w.output
 size:w.heap.size<=w'.heap.size
 block:∀ k,k<w.heap.size->¬ S k->w'.heap[k]?=w.heap[k]?
theorem Fr.refl(S:Nat->Prop)(w:World):Fr S w w:=⟨rfl,rfl,rfl,t8 _,fun _ _ _=>rfl⟩
theorem Fr.trans{S:Nat->Prop}{a b c:World}(h:Fr S a b)(k:Fr S b c):Fr S a c:=
 ⟨k.os.trans h.os,k.tape.trans h.tape,k.output.trans h.output,o0 h.size k.size,fun i hi hs=>(k.block i (o8 hi h.size) hs).trans (h.block i hi hs)⟩
theorem Fr.mono{S T:Nat->Prop}{a b:World}(h:Fr S a b)(hst:∀ k,S k->T k):Fr T a b:=⟨h.os,h.tape,h.output,h.size,fun i hi hs=>h.block i hi (fun q=>hs (hst i q))⟩
theorem Fr.below{S:Nat->Prop}{a b:World}{n:Nat}(h:Fr S a b)(hn:n<=a.heap.size)(hs:∀ k,S k->n<=k):Below n a b:=
 ⟨h.os,h.tape,h.output,h.size,fun i hi=>h.block i (o8 hi hn) (fun q=>by have:=hs i q;omega)⟩
theorem Fr.of_below{S:Nat->Prop}{a b:World}(h:Below a.heap.size a b):Fr S a b:=⟨h.os,h.tape,h.output,h.size,fun i hi _=>h.block i hi⟩
theorem Fr.alloc{S:Nat->Prop}{a w:World}(h:Fr S a w)(o:Obj):Fr S a (w.alloc o):=h.trans (Fr.of_below ((Below.refl _ _).alloc lz9 o))
theorem Fr.drew{S:Nat->Prop}{a w:World}(h:Fr S a w):Fr S a w.drew:=h.trans (Fr.of_below (Below.refl _ _).drew)
theorem Fr.setCell{S:Nat->Prop}{a w:World}(h:Fr S a w){p:Addr}(hp:S p.block)(u:Value):Fr S a (w.setCell p u):=
 h.trans ⟨rfl,rfl,rfl,by simp [World.setCell],fun k _ hk=>Below.heap_setCell _ _ _ _ (fun e=>hk (e ▸ hp))⟩
theorem Fr.setNew{S:Nat->Prop}{a w:World}(h:Fr S a w){p:Addr}(hp:a.heap.size<=p.block)(u:Value):Fr S a (w.setCell p u):=
 ⟨h.os,h.tape,h.output,by have:=h.size;simp [World.setCell];exact this,fun k hk hs=>(Below.heap_setCell _ _ _ _ (by omega)).trans (h.block k hk hs)⟩
theorem Fr.then{S:Nat->Prop}{a b c:World}(h:Fr S a b)(k:Below b.heap.size b c):Fr S a c:=h.trans (Fr.of_below k)
theorem Fr.grown{S:Nat->Prop}{a w w':World}{row:Option Nat}(h:Fr S a w)(hg:w.grownBy w' row)(hr:∀ k,row=some k->S k):Fr S a w':=
 h.trans ⟨hg.os,hg.tape,hg.output,hg.size,fun k hk hs=>hg.block k hk (fun e=>hs (hr k e.symm))⟩
theorem aC{w:World}{k:Nat}{o:Obj}(h:w.heap[k]?=some o):k<w.heap.size:=(Array.getElem?_eq_some_iff.1 h).1
theorem aJ{w:World}{k:Nat}{cur:Array Value}{t:TypeId}{fr:Nat×Nat}(h:w.heap[k]?=some (.cells cur t fr))(j:Nat)(v:Value):(w.setCell ⟨k,j,none⟩ v).heap[k]?=some (.cells (cur.setIfInBounds j v) t fr):=by
 simp [World.setCell,Array.getElem?_modify,h]
theorem bD{W:World}{x y:Nat}{c c':Array Value}{t t':TypeId}{f f':Nat×Nat}(h:W.heap[x]?=some (.cells c t f))(h':W.heap[y]?=some (.cells c' t' f'))(ht:t≠t'):x≠y:=fun e=>by
 rw [e,h'] at h
 injection h with h
 injection h with _ h _
 exact ht h.symm
theorem aB{W:World}{wb:Nat}{c:Array Value}{t:TypeId}(h:W.heap[wb]?=some (.cells c t (0,0))){i:Nat}{v:Value}(hi:c[i]?=some v):W.cell? ⟨wb,i,none⟩=some v:=by simp [World.cell?,h,hi]
theorem aK{W:World}{wb:Nat}{c:Array Value}{t:TypeId}(h:W.heap[wb]?=some (.cells c t (0,0)))(i:Nat):W.frozen? ⟨wb,i,none⟩=false:=by simp [World.frozen?,h]
theorem aG{n:Nat}{a b c:World}(h:Below n a b)(k:Below b.heap.size b c)(hn:n<=a.heap.size):Below n a c:=h.trans (k.mono (o0 hn h.size))
theorem bB{n:Nat}{a b c:World}{S:Nat->Prop}(h:Below n a b)(k:Fr S b c)(hn:n<=a.heap.size)(hs:∀ k,S k->n<=k):Below n a c:=h.trans (k.below (o0 hn h.size) hs)
theorem dK{α:Type}(l:List α)(k:Nat)(h:k<l.length):l.take (k+1)=l.take k++[l[k]]:=by simp
def Ext(W:World):Type:={ w:World // Below W.heap.size W w }
theorem qM{P:Program}{id:Nat}{Q:Exit->Act->World->Prop}{a:Act}{w:World}{l:List Oper}(hm:P.follows .mixedOrders=true)(hB:Region.lexB .any l.toArray=true)
  (h:wpQuiet P l.toArray (fun w'=>∃ x:Ext w,w'=x.val) (fun a'=>∀ w',(∃ x:Ext w,w'=x.val)->Q .normal a' w') l a):(Code.region id l.toArray true).wp P Q a w:=
 wp_region_quiet (C:=fun w'=>∃ x:Ext w,w'=x.val) hm hB ⟨⟨w.drew,(Below.refl _ _).drew⟩,rfl⟩ (by simpa using h)
theorem wx9{P:Program}{id:Nat}{Q:Exit->Act->World->Prop}{a:Act}{w:World}{l:List Oper}(h:wpQuiet P l.toArray (fun w'=>∃ x:Ext w,w'=x.val) (fun a'=>∀ w',(∃ x:Ext w,w'=x.val)->Q .normal a' w') l a)(hm:P.follows .mixedOrders=true:=by kernel_rfl)(hB:Region.lexB .any l.toArray=true:=by kernel_rfl):(Code.region id l.toArray true).wp P Q a w:=qM hm hB h
theorem dJ{P:Program}{f:FuncId}{args:Array Value}{W:World}{x:Ext W}{v:Value}
  (h:Calls P f args x.val fun e w'=>e=.returned v/\Below x.val.heap.size x.val w'):Calls P f args x.val fun e w''=>e=.returned v/\∃ y:Ext W,w''=y.val:=
 h.mono fun _ w' ⟨he,hb⟩=>⟨he,⟨w',x.2.trans (hb.mono x.2.size)⟩,rfl⟩
theorem aU{W:World}(x:Ext W)(b o:Nat)(h:b<W.heap.size):x.val.cell? ⟨b,o,none⟩=W.cell? ⟨b,o,none⟩:=x.2.cell (p:=⟨b,o,none⟩) h
theorem nT{W:World}(x:Ext W):Below W.heap.size W x.val:=x.2
theorem aM{W w1:World}(h:∃ x:Ext W,w1=x.val):Below W.heap.size W w1:=by
 obtain⟨x,rfl⟩:=h
 exact x.2
section
open Go Go.ChangeShapes Go.WideShapes Go.ChangeAt Go.RowKit
theorem own:ownKnob Tryz.prog.godebug=none:=by kernel_rfl
theorem zO:laidOutB Tryz.prog=true:=by kernel_rfl
theorem nX:Tryz.prog.cellsOf 3=1:=by kernel_rfl
end
theorem gU:(Tryz.prog.info? 3).map (fun i=>(i.zero,i.size,i.bytes))=some (some (.int .i64 0),1,8):=by kernel_rfl
theorem gP:Tryz.prog.underlying 35=some (.slice 3):=by kernel_rfl
theorem aR{P:Program}{t:TypeId}{z:Value}{s b:Nat}(h:(P.info? t).map (fun i=>(i.zero,i.size,i.bytes))=some (some z,s,b)):∃ i,P.info? t=some i/\i.zero=some z/\i.size=s/\i.bytes=b:=by
 cases hi:P.info? t with
 | none=>rw [hi] at h;cases h
 | some i=>
  rw [hi] at h
  simp at h
  exact⟨i,rfl,h.1,h.2.1,h.2.2⟩
theorem aH{S:Nat->Prop}{w w':World}{base:Nat}{t:TypeId}{size n:Nat}{v:Value}{xs:List Value}(h:w.ownsRow base t size v n xs)(hf:Fr S w w')(hs:∀ k,v.ownBlock=some k->¬ S k):w'.ownsRow base t size v n xs:=by
 obtain⟨h1,h2 | ⟨g,cap,cur,q1,q2,q3,q4⟩⟩:=h
 ·exact⟨h1,.inl h2⟩
 ·exact⟨h1,.inr ⟨g,cap,cur,q1,q2,(hf.block _ (aC q3) (hs g (by rw [q1];rfl))).trans q3,q4⟩⟩
theorem bI{w:World}{base base':Nat}{t:TypeId}{size n:Nat}{v:Value}{xs:List Value}(h:w.ownsRow base t size v n xs)(hb:base'<=base):w.ownsRow base' t size v n xs:=by
 obtain⟨h1,h2 | ⟨g',cap',cur,q1,q2,q4⟩⟩:=h
 ·exact⟨h1,.inl h2⟩
 ·exact⟨h1,.inr ⟨g',cap',cur,q1,o0 hb q2,q4⟩⟩
theorem aQ{w:World}{base:Nat}{e:TypeId}{size n:Nat}{v:Value}{xs:List Value}(h:w.ownsRow base e size v n xs):∃ q c,v=.slice q n c:=by
 rcases h.2 with⟨rfl,rfl⟩ | ⟨g,cap,cur,rfl,_⟩
 ·exact⟨_,_,rfl⟩
 ·exact⟨_,_,rfl⟩
theorem aF{w:World}{base:Nat}{e:TypeId}{size n:Nat}{v:Value}{xs:List Value}(h:w.ownsRow base e size v n xs){g:Nat}(hg:v.ownBlock=some g):base<=g/\g<w.heap.size/\∃ cur,w.heap[g]?=some (.cells cur e (0,0)):=by
 rcases h.2 with⟨rfl,rfl⟩ | ⟨g',cap,cur,rfl,h1,h2,_⟩
 ·cases hg
 ·cases hg;exact⟨h1,aC h2,cur,h2⟩
theorem dU{w:World}{base:Nat}{e t:TypeId}{size n:Nat}{v:Value}{xs:List Value}(h:w.ownsRow base e size v n xs){b:Nat}{cs:Array Value}(hb:w.heap[b]?=some (.cells cs t (0,0)))(ht:t≠e):v.ownBlock≠some b:=fun q=>by
 obtain⟨_,_,cur,hc⟩:=aF h q
 exact bD hb hc ht rfl
theorem aP{w:World}{base:Nat}{e:TypeId}{size n g c:Nat}{xs:List Value}(h:w.ownsRow base e size (.slice (some ⟨g,0,none⟩) n c) n xs){j:Nat}{u:Value}(hj:xs[j]?=some u):w.cell? ⟨g,j,none⟩=some u:=by
 rcases h.2 with⟨q,_⟩ | ⟨g',cap,cur,q1,_,q3,_,_,q6,q7⟩
 ·cases q
 ·cases q1
  have:cur[j]?=some u:=by
   rw [<- q7,List.getElem?_take] at hj
   split at hj
   ·simpa using hj
   ·cases hj
  simp [World.cell?,q3,this]
theorem uK{w:World}{base:Nat}{e:TypeId}{size n:Nat}{v:Value}{xs:List Value}(h:w.ownsRow base e size v n xs):n<=maxLen:=by
 rcases h.2 with⟨_,q⟩ | ⟨g,cap,cur,q,_,_,hc,hm,_⟩
 ·omega
 ·omega
theorem aO{w:World}{base:Nat}{e:TypeId}{size n:Nat}{v:Value}{xs:List Value}(h:w.ownsRow base e size v n xs)(hn:0<n):∃ g c,v=.slice (some ⟨g,0,none⟩) n c:=by
 rcases h.2 with⟨_,q⟩ | ⟨g,cap,cur,rfl,_⟩
 ·omega
 ·exact⟨_,_,rfl⟩
def moved(v v':Value)(n:Nat):Prop:=v'.ownBlock=v.ownBlock\/v'.ownBlock=none\/∃ g,n<=g/\v'.ownBlock=some g
theorem moved.refl(v:Value)(n:Nat):moved v v n:=.inl rfl
theorem moved.trans{v v' v'':Value}{n m:Nat}(h:moved v v' n)(k:moved v' v'' m)(hm:n<=m):moved v v'' n:=by
 rcases k with k | k | ⟨g,k1,k2⟩
 ·rcases h with h | h | ⟨g,h1,h2⟩
  ·exact .inl (k.trans h)
  ·exact .inr (.inl (k.trans h))
  ·exact .inr (.inr ⟨g,h1,k.trans h2⟩)
 ·exact .inr (.inl k)
 ·exact .inr (.inr ⟨g,by omega,k2⟩)
theorem mK{v v':Value}{n k:Nat}(h:moved v v' n)(hk:k<n)(hv:v'.ownBlock=some k):v.ownBlock=some k:=by
 rcases h with h | h | ⟨g,h1,h2⟩
 ·exact h ▸ hv
 ·rw [h] at hv;cases hv
 ·rw [h2] at hv;cases hv;omega
theorem fS{P:Program}{ops:Array Oper}{o:Oper}{a:Act}{w:World}{K:Act->World->Prop}{Q:Exit->Act->World->Prop}{E:Prop}(hgd:o.guard=none)(s x:Operand)(t:TypeId)
  (ho:o.op=.call { callee:=.builtin .append,args:=#[s,x],argTypes:=#[t,t] })
  (base:Nat) (e:TypeId) (i:TypeInfo) (z:Value) (size bytes:Nat) (ht:P.underlying t=some (.slice e)) (hi:P.info? e=some i) (hz:i.zero=some z)
  (hsize:i.size=size) (hby:i.bytes=bytes) (hzs:z.cells.size=size) (hsz:0<size)
  (v:Value) (n:Nat) (xs:List Value) (hs:a.eval s=v) (hown:w.ownsRow base e size v n xs)
  (ad:Addr) (m c:Nat) (news:List Value) (hx:a.eval x=.slice (some ad) m c) (hl:news.length=m*size) (hnews:∀ j u,news[j]?=some u->w.cell? (ad.add j)=some u) (h1:∀ u∈news,u.oneCell'=true)
  (h63:n+m<=maxLen) (hbytes:(n+m)*bytes<=140737488355328) (hbase:base<=w.heap.size)
  (h:∀ v' w',w'.ownsRow base e size v' (n+m) (xs++news)->w.grownBy w' v.ownBlock->(v'.ownBlock=v.ownBlock\/v'.ownBlock=some w.heap.size)->K (a.put o.dst v') w') :
  if Region.wanted o (yielded ops a.tmps)=true then Oper.wp P o a w K Q else E:=by
 have hw:Region.wanted o (yielded ops a.tmps)=true:=by simp [Region.wanted,hgd]
 rw [if_pos hw]
 obtain⟨v',w',hrun,h2,h3,_,h5⟩:=run_append_own_at (P:=P) w base t o.type e i z size bytes ht hi hz hsize hby hzs hsz v n xs hown ad m c news hl hnews h1 h63 hbytes hbase
 unfold Oper.wp
 simp [execOp,ho,resolve,invoke,builtin,hs,hx,hrun,Result.andThen]
 exact h v' w' h2 h3 h5
theorem jA(W:World)(a b:Value)(t:TypeId):∀ (j:Nat) (u:Value),[a,b][j]?=some u->(W.alloc (.cells #[a,b] t)).cell? ((⟨W.heap.size,0,none⟩:Addr).add j)=some u:=by
 intro j u h
 match j,h with
 | 0,h=>simp at h;subst h;simp [Addr.add]
 | 1,h=>simp at h;subst h;simp [Addr.add]
theorem aD(w:World)(o:Obj):(w.alloc o).heap[w.heap.size]?=some o:=by unfold World.alloc;simp
def In(L:List (Int×Int))(c:Int):Prop:=∃ r∈L,r.1<=c/\c<=r.2
structure Cls(L:List (Int×Int)):Prop where
 some:∀ r∈L,r.1<=r.2
 apart:L.Pairwise (fun a b=>a.2+1<b.1)
theorem fH(c:Int):¬ In [] c:=fun⟨_,h,_⟩=>by cases h
theorem bK(r:Int×Int)(L:List (Int×Int))(c:Int):In (r :: L) c↔(r.1<=c/\c<=r.2)\/In L c:=by
 simp [In]
theorem cA(A B:List (Int×Int))(c:Int):In (A++B) c↔In A c\/In B c:=by
 constructor
 ·rintro ⟨r,h,q⟩
  rcases o3.1 h with h | h
  ·exact .inl ⟨r,h,q⟩
  ·exact .inr ⟨r,h,q⟩
 ·rintro (⟨r,h,q⟩ | ⟨r,h,q⟩)
  ·exact⟨r,o3.2 (.inl h),q⟩
  ·exact⟨r,o3.2 (.inr h),q⟩
theorem dZ(r:Int×Int)(c:Int):In [r] c↔r.1<=c/\c<=r.2:=by simp [In]
theorem oW:Cls []:=⟨fun _ h=>(by cases h),List.Pairwise.nil⟩
theorem jS{r:Int×Int}{L:List (Int×Int)}(h:Cls (r :: L)):Cls L:=⟨fun x hx=>h.some x (m9 _ hx),(aAT.1 h.apart).2⟩
theorem eO{r:Int×Int}{L:List (Int×Int)}(h:Cls (r :: L)):r.1<=r.2:=h.some r n9
theorem jT{r x:Int×Int}{L:List (Int×Int)}(h:Cls (r :: L))(hx:x∈L):r.2+1<x.1:=(aAT.1 h.apart).1 x hx
theorem dL{r:Int×Int}{L:List (Int×Int)}(h:Cls (r :: L)){c:Int}(hc:In L c):r.2+1<c:=by
 obtain⟨x,hx,h1,h2⟩:=hc
 have:=jT h hx
 omega
theorem lP:∀ (A B:List (Int×Int)),Cls A->Cls B->(∀ c,In A c↔In B c)->A=B
 | [],[],_,_,_=>rfl
 | [],b :: B,_,hB,h=>absurd ((h b.1).2 ⟨b,n9,aAW _,eO hB⟩) (fH _)
 | a :: A,[],hA,_,h=>absurd ((h a.1).1 ⟨a,n9,aAW _,eO hA⟩) (fH _)
 | a :: A,b :: B,hA,hB,h=>by
  have ha:=eO hA
  have hb:=eO hB
  have h1:a.1=b.1:=by
   have p:=(h a.1).1 ((bK ..).2 (.inl ⟨aAW _,ha⟩))
   have q:=(h b.1).2 ((bK ..).2 (.inl ⟨aAW _,hb⟩))
   rcases (bK ..).1 p with p | p
   ·rcases (bK ..).1 q with q | q
    ·omega
    ·have:=dL hA q;omega
   ·have:=dL hB p
    rcases (bK ..).1 q with q | q
    ·omega
    ·have:=dL hA q;omega
  have h2:a.2=b.2:=by
   rcases Int.lt_trichotomy a.2 b.2 with q | q | q
   ·have p:=(h (a.2+1)).2 ((bK ..).2 (.inl ⟨by omega,by omega⟩))
    rcases (bK ..).1 p with p | p
    ·omega
    ·have:=dL hA p;omega
   ·exact q
   ·have p:=(h (b.2+1)).1 ((bK ..).2 (.inl ⟨by omega,by omega⟩))
    rcases (bK ..).1 p with p | p
    ·omega
    ·have:=dL hB p;omega
  have e:a=b:=Prod.ext h1 h2
  subst e
  rw [lP A B (jS hA) (jS hB) fun c=>?_]
  constructor
  ·intro p
   have:=dL hA p
   rcases (bK ..).1 ((h c).1 ((bK ..).2 (.inr p))) with q | q
   ·omega
   ·exact q
  ·intro p
   have:=dL hB p
   rcases (bK ..).1 ((h c).2 ((bK ..).2 (.inr p))) with q | q
   ·omega
   ·exact q
def bM(C:List (Int×Int))(r:Int×Int):List (Int×Int):=
 if r.2<r.1 then C else
  match C.getLast? with
  | none=>[r]
  | some x=>if x.2+1<r.1 then C++[r] else C.dropLast++[(x.1,max x.2 r.2)]
theorem iY{C:List (Int×Int)}{r:Int×Int}(h:r.2<r.1):bM C r=C:=if_pos h
theorem jW{r:Int×Int}(h:¬ r.2<r.1):bM [] r=[r]:=by unfold bM;rw [if_neg h];rfl
theorem jY{C:List (Int×Int)}{x r:Int×Int}(h:¬ r.2<r.1)(hf:x.2+1<r.1):bM (C++[x]) r=C++[x]++[r]:=by
 unfold bM
 rw [if_neg h]
 simp [hf]
theorem iI{C:List (Int×Int)}{x r:Int×Int}(h:¬ r.2<r.1)(hf:¬ x.2+1<r.1):bM (C++[x]) r=C++[(x.1,max x.2 r.2)]:=by
 unfold bM
 rw [if_neg h]
 simp [hf]
theorem fV{α:Type}(C:List α):C=[]\/∃ D x,C=D++[x]:=by
 rcases List.eq_nil_or_concat C with h | ⟨D,x,h⟩
 ·exact .inl h
 ·exact .inr ⟨D,x,by rw [h,List.concat_eq_append]⟩
theorem qH{A:List (Int×Int)}{r:Int×Int}(hA:Cls A)(hr:r.1<=r.2)(h:∀ x∈A,x.2+1<r.1):Cls (A++[r]):=
 ⟨fun x hx=>by
  rcases o3.1 hx with q | q
  ·exact hA.some x q
  ·simp at q;subst q;exact hr,
  List.pairwise_append.2 ⟨hA.apart,List.pairwise_singleton _ _,fun x hx y hy=>by simp at hy;subst hy;exact h x hx⟩⟩
theorem aS8{A:List (Int×Int)}{x:Int×Int}(h:Cls (A++[x])):Cls A/\x.1<=x.2/\∀ y∈A,y.2+1<x.1:=
 ⟨⟨fun y hy=>h.some y (o3.2 (.inl hy)),(List.pairwise_append.1 h.apart).1⟩,h.some x (by simp),fun y hy=>(List.pairwise_append.1 h.apart).2.2 y hy x (by simp)⟩
theorem nZ{C:List (Int×Int)}{r:Int×Int}(hC:Cls C)(hl:r.1<=r.2->∀ x∈C,x.1<=r.1) :
  Cls (bM C r)/\(∀ c,In (bM C r) c↔In C c\/(r.1<=c/\c<=r.2))/\(∀ m,(r.1<=r.2->r.1<=m)->(∀ x∈C,x.1<=m)->∀ x∈bM C r,x.1<=m):=by
 by_cases h:r.2<r.1
 ·rw [iY h]
  exact⟨hC,fun c=>⟨.inl,fun q=>q.elim id fun q=>by omega⟩,fun m _ q=>q⟩
 ·have hr:r.1<=r.2:=by omega
  have hl:=hl hr
  rcases fV C with rfl | ⟨D,x,rfl⟩
  ·rw [jW h]
   refine⟨⟨fun y hy=>by simp at hy;subst hy;exact hr,List.pairwise_singleton _ _⟩,fun c=>?_,fun m hm _ y hy=>by simp at hy;subst hy;exact hm hr⟩
   rw [dZ]
   exact⟨.inr,fun q=>q.elim (fun q=>absurd q (fH _)) id⟩
  ·obtain⟨hD,hx,hDx⟩:=aS8 hC
   have hxr:=hl x (by simp)
   by_cases hf:x.2+1<r.1
   ·rw [jY h hf]
    refine⟨qH hC hr fun y hy=>?_,fun c=>by rw [cA,dZ],fun m hm q y hy=>?_⟩
    ·rcases o3.1 hy with q | q
     ·have:=hDx y q;omega
     ·simp at q;subst q;exact hf
    ·rcases o3.1 hy with p | p
     ·exact q y p
     ·simp at p;subst p;exact hm hr
   ·rw [iI h hf]
    refine⟨qH hD (by simp only;omega) hDx,fun c=>?_,fun m hm q y hy=>?_⟩
    ·rw [cA,cA,dZ,dZ]
     constructor
     ·rintro (p | ⟨p1,p2⟩)
      ·exact .inl (.inl p)
      ·simp only at p1 p2
       by_cases hc:c<=x.2
       ·exact .inl (.inr ⟨p1,hc⟩)
       ·exact .inr ⟨by omega,by omega⟩
     ·rintro ((p | ⟨p1,p2⟩) | ⟨p1,p2⟩)
      ·exact .inl p
      ·exact .inr ⟨p1,by simp only;omega⟩
      ·exact .inr ⟨by simp only;omega,by simp only;omega⟩
    ·rcases o3.1 hy with p | p
     ·exact q y (o3.2 (.inl p))
     ·simp at p;subst p;exact q x (by simp)
def Fit(L:List (Int×Int)):Prop:=∀ r∈L,(-9223372036854775808<=r.1/\r.1<=9223372036854775807)/\(-9223372036854775808<=r.2/\r.2<=9223372036854775807)
theorem eM:Fit []:=fun _ h=>by cases h
theorem cU{A B:List (Int×Int)}(hA:Fit A)(hB:Fit B):Fit (A++B):=fun r hr=>(o3.1 hr).elim (hA r) (hB r)
theorem gJ{a b:Int}(h:(-9223372036854775808<=a/\a<=9223372036854775807)/\(-9223372036854775808<=b/\b<=9223372036854775807)):Fit [(a,b)]:=fun r hr=>by simp at hr;subst hr;exact h
theorem dQ{A B:List (Int×Int)}(hA:Fit A)(h:∀ x∈B,x∈A):Fit B:=fun r hr=>hA r (h r hr)
theorem qF{C:List (Int×Int)}{r:Int×Int}(hC:Fit C)(hr:Fit [r]):Fit (bM C r):=by
 have q:=hr r (by simp)
 by_cases h:r.2<r.1
 ·rw [iY h];exact hC
 ·rcases fV C with rfl | ⟨D,x,rfl⟩
  ·rw [jW h];exact hr
  ·have hx:=hC x (by simp)
   by_cases hf:x.2+1<r.1
   ·rw [jY h hf];exact cU hC hr
   ·rw [iI h hf]
    exact cU (dQ hC fun y hy=>o3.2 (.inl hy)) (gJ ⟨hx.1,by omega,by omega⟩)
theorem jX(C:List (Int×Int))(r:Int×Int):(bM C r).length<=C.length+1:=by
 by_cases h:r.2<r.1
 ·rw [iY h];omega
 ·rcases fV C with rfl | ⟨D,x,rfl⟩
  ·rw [jW h];simp
  ·by_cases hf:x.2+1<r.1
   ·rw [jY h hf];simp
   ·rw [iI h hf];simp
theorem zQ{A B:List (Int×Int)}(h:A.Perm B)(c:Int):In A c↔In B c:=
 ⟨fun⟨r,q,p⟩=>⟨r,h.mem_iff.1 q,p⟩,fun⟨r,q,p⟩=>⟨r,h.mem_iff.2 q,p⟩⟩
theorem aH0{a b:Int×Int}{A B:List (Int×Int)}(hb:Cls (b :: B))(h:a.2<b.2)(c:Int) :
  (In (a :: A) c/\In (b :: B) c)↔(max a.1 b.1<=c/\c<=min a.2 b.2)\/(In A c/\In (b :: B) c):=by
 rw [bK,bK]
 constructor
 ·rintro ⟨p | p,q | q⟩
  ·exact .inl ⟨by omega,by omega⟩
  ·have:=dL hb q;omega
  ·exact .inr ⟨p,.inl q⟩
  ·exact .inr ⟨p,.inr q⟩
 ·rintro (⟨p,q⟩ | ⟨p,q⟩)
  ·exact⟨.inl ⟨by omega,by omega⟩,.inl ⟨by omega,by omega⟩⟩
  ·exact⟨.inr p,q⟩
theorem yL{a b:Int×Int}{A B:List (Int×Int)}(ha:Cls (a :: A))(h:b.2<=a.2)(c:Int) :
  (In (a :: A) c/\In (b :: B) c)↔(max a.1 b.1<=c/\c<=min a.2 b.2)\/(In (a :: A) c/\In B c):=by
 rw [bK,bK]
 constructor
 ·rintro ⟨p | p,q | q⟩
  ·exact .inl ⟨by omega,by omega⟩
  ·exact .inr ⟨.inl p,q⟩
  ·have:=dL ha p;omega
  ·exact .inr ⟨.inr p,q⟩
 ·rintro (⟨p,q⟩ | ⟨p,q⟩)
  ·exact⟨.inl ⟨by omega,by omega⟩,.inl ⟨by omega,by omega⟩⟩
  ·exact⟨p,.inr q⟩
def aL(L:List (Int×Int)):List Go.Value:=L.flatMap fun r=>[.int .i64 r.1,.int .i64 r.2]
theorem cI(L:List (Int×Int)):(aL L).length=L.length*2:=by
 induction L with
 | nil=>rfl
 | cons r L ih=>simp [aL] at ih ⊢;omega
theorem gO(A B:List (Int×Int)):aL (A++B)=aL A++aL B:=by simp [aL]
theorem fY(L:List (Int×Int)):∀ v∈aL L,v.oneCell'=true:=fun v hv=>by
 simp [aL] at hv
 obtain⟨a,b,_,rfl | rfl⟩:=hv <;> rfl
theorem fZ:∀ (L:List (Int×Int)) (i:Nat) (r:Int×Int),L[i]?=some r->(aL L)[2*i]?=some (.int .i64 r.1)/\(aL L)[2*i+1]?=some (.int .i64 r.2)
 | [],i,r,h=>by cases h
 | x :: L,0,r,h=>by
  simp at h
  subst h
  simp [aL]
 | x :: L,i+1,r,h=>by
  have:=fZ L i r (by simpa using h)
  simp only [aL,aAN] at this ⊢
  rw [show 2*(i+1)=2*i+2 from by omega]
  simpa using this
theorem qJ:∀ (L:List (Int×Int)) (i:Nat) (a b:Int),((aL L).set (i*2) (.int .i64 a)).set (i*2+1) (.int .i64 b)=aL (L.set i (a,b))
 | [],i,a,b=>by simp [aL]
 | x :: L,0,a,b=>by simp [aL]
 | x :: L,i+1,a,b=>by
  have:=qJ L i a b
  simp only [aL,aAN,i9] at this ⊢
  rw [show (i+1)*2=i*2+2 from by omega]
  simpa using this
theorem mY:∀ (L:List (Int×Int)) (i:Nat) (r:Int×Int) (b:Int),L[i]?=some r->(aL L).set (i*2+1) (.int .i64 b)=aL (L.set i (r.1,b))
 | [],i,r,b,h=>by cases h
 | x :: L,0,r,b,h=>by simp at h;subst h;simp [aL]
 | x :: L,i+1,r,b,h=>by
  have:=mY L i r b (by simpa using h)
  simp only [aL,aAN,i9] at this ⊢
  rw [show (i+1)*2=i*2+2 from by omega]
  simpa using this
theorem aA{p:Prop}(h:p):Hid p:=h
theorem tO{x:Int}(h:(Lit.int .i64 x).wf=true):-9223372036854775808<=x/\x<=9223372036854775807:=by
 simp [Lit.wf,IntKind.min,IntKind.max,IntKind.signed,IntKind.bits] at h
 omega
theorem cL:(Tryz.prog.info? 53).map (fun i=>(i.zero,i.size,i.bytes))=some (some (.agg #[.int .i64 0,.int .i64 0]),2,16):=by kernel_rfl
theorem aY:Tryz.prog.underlying 22=some (.slice 53):=by kernel_rfl
theorem mL(P:Program)(t:Array TypeId)(ty:TypeId)(w:World)(x y:Int):(Builtin.max_ t ty #[.int .i64 x,.int .i64 y]).run P w=.ok (.int .i64 (max x y)) w:=by
 have e:max x y=if y>x then y else x:=by split <;> omega
 rw [e]
 rfl
theorem zM(P:Program)(t:Array TypeId)(ty:TypeId)(w:World)(x y:Int):(Builtin.min_ t ty #[.int .i64 x,.int .i64 y]).run P w=.ok (.int .i64 (min x y)) w:=by
 have e:min x y=if y<x then y else x:=by split <;> omega
 rw [e]
 rfl
def ArgR(W:World)(v:Value)(L:List (Int×Int)):Prop:=
 (∃ p cap,v=.slice p 0 cap/\L=[]/\(p=none->cap=0))\/∃ g off cap,v=.slice (some ⟨g,off,none⟩) L.length cap/\g<W.heap.size/\L.length<=cap/\cap<=maxLen/\∀ (i:Nat) (r:Int×Int),L[i]?=some r->W.cell? ⟨g,off+2*i,none⟩=some (.int .i64 r.1)/\W.cell? ⟨g,off+2*i+1,none⟩=some (.int .i64 r.2)
theorem ArgR.kept{W W':World}{v:Value}{L:List (Int×Int)}(h:ArgR W v L)(hb:Below W.heap.size W W'):ArgR W' v L:=by
 rcases h with h | ⟨g,off,cap,h1,h2,h3,h4,h5⟩
 ·exact .inl h
 ·exact .inr ⟨g,off,cap,h1,o8 h2 hb.size,h3,h4,fun i x hx=>⟨(hb.cell (p:=⟨g,off+2*i,none⟩) h2).trans (h5 i x hx).1,(hb.cell (p:=⟨g,off+2*i+1,none⟩) h2).trans (h5 i x hx).2⟩⟩
theorem ArgR.slice{W:World}{v:Value}{L:List (Int×Int)}(h:ArgR W v L):∃ q cap,v=.slice q L.length cap/\L.length<=maxLen/\L.length<=cap /\
  (∀ (i:Nat) (r:Int×Int),L[i]?=some r->∃ g off,q=some ⟨g,off,none⟩/\g<W.heap.size/\W.cell? ⟨g,off+2*i,none⟩=some (.int .i64 r.1)/\W.cell? ⟨g,off+2*i+1,none⟩=some (.int .i64 r.2)):=by
 rcases h with⟨p,cap,rfl,rfl,-⟩ | ⟨g,off,cap,rfl,h2,h3,h4,h5⟩
 ·exact⟨p,cap,rfl,o9 _,o9 _,fun i x hx=>by simp at hx⟩
 ·exact⟨_,cap,rfl,o0 h3 h4,h3,fun i x hx=>⟨g,off,rfl,h2,h5 i x hx⟩⟩
theorem ArgR.news{W:World}{ad:Addr}{n c:Nat}{L:List (Int×Int)}(h:ArgR W (.slice (some ad) n c) L):∀ j u,(aL L)[j]?=some u->W.cell? (ad.add j)=some u:=by
 intro j u hj
 have hjl:j<L.length*2:=by have:=(m8.1 hj).1;rwa [cI] at this
 rcases h with⟨p,cap,e,rfl,-⟩ | ⟨g,off,cap,e,h2,h3,h4,h5⟩
 ·simp at hjl
 ·cases e
  obtain⟨q1,q2⟩:=h5 (j/2) _ (g9 (by omega))
  obtain⟨r1,r2⟩:=fZ L (j/2) _ (g9 (by omega))
  have hadd:(⟨g,off,none⟩:Addr).add j=⟨g,off+j,none⟩:=by unfold Addr.add;split <;> simp_all
  rw [hadd]
  rcases Nat.mod_two_eq_zero_or_one j with e | e
  ·rw [show 2*(j/2)=j by omega] at q1 r1
   rw [q1,<- r1,hj]
  ·rw [show off+2*(j/2)+1=off+j by omega] at q2
   rw [show 2*(j/2)+1=j by omega] at r2
   rw [q2,<- r2,hj]
def RR(base:Nat)(w:World)(v:Value)(L:List (Int×Int)):Prop:=w.ownsRow base 53 2 v L.length (aL L)
theorem RR.arg{base:Nat}{w:World}{v:Value}{L:List (Int×Int)}(h:RR base w v L):ArgR w v L:=by
 have h':=h
 rcases h.2 with⟨rfl,hn⟩ | ⟨g,cap,cur,rfl,hg,hc,h1,h2,h3,h4⟩
 ·exact .inl ⟨none,0,rfl,aAD hn,fun _=>rfl⟩
 ·exact .inr ⟨g,0,cap,rfl,aC hc,h1,h2,fun i x hx=>by
   obtain⟨p1,p2⟩:=fZ L i x hx
   rw [m7]
   exact⟨aP h' p1,aP h' p2⟩⟩
theorem RR.nil(base:Nat)(w:World):RR base w (.slice none 0 0) []:=⟨rfl,.inl ⟨rfl,rfl⟩⟩
theorem RR.fr{base:Nat}{w w':World}{v:Value}{L:List (Int×Int)}{S:Nat->Prop}(h:RR base w v L)(hf:Fr S w w')(hs:∀ k,v.ownBlock=some k->¬ S k):RR base w' v L:=aH h hf hs
theorem RR.kept{base:Nat}{w w':World}{v:Value}{L:List (Int×Int)}(h:RR base w v L)(hb:Below w.heap.size w w'):RR base w' v L:=h.fr (S:=fun _=>False) (Fr.of_below hb) (fun _ _ q=>q)
theorem RR.mono{base base':Nat}{w:World}{v:Value}{L:List (Int×Int)}(h:RR base w v L)(hb:base'<=base):RR base' w v L:=bI h hb
theorem RR.shape{base:Nat}{w:World}{v:Value}{L:List (Int×Int)}(h:RR base w v L):∃ q c,v=.slice q L.length c:=aQ h
structure IsC(C:List (Int×Int))(p:Int->Prop):Prop where
 cls:Cls C
 fit:Fit C
 mem:∀ c,In C c↔p c
theorem IsC.one{C D:List (Int×Int)}{p q:Int->Prop}(h:IsC C p)(k:IsC D q)(e:∀ c,p c↔q c):C=D:=
 lP C D h.cls k.cls fun c=>(h.mem c).trans ((e c).trans (k.mem c).symm)
theorem IsC.to{C:List (Int×Int)}{p q:Int->Prop}(h:IsC C p)(e:∀ c,p c↔q c):IsC C q:=⟨h.cls,h.fit,fun c=>(h.mem c).trans (e c)⟩
def qW(w:World)(p:Int->Prop)(n:Nat)(e:Ending)(w':World):Prop:=∃ v C,e=.returned v/\RR w.heap.size w' v C/\IsC C p/\C.length<=n/\Below w.heap.size w w'
structure Fl where
 k:Int
 n:Int
 mn:Int
 mx:Int
 rs:List (Int×Int)
 rq:Option Addr
 rc:Nat
 kq:Option Addr
 kl:Nat
 kc:Nat
inductive Tr where
 | mk (f:Fl) (ks:List Tr)
def Tr.f:Tr->Fl | .mk f _=>f
def Tr.ks:Tr->List Tr | .mk _ ks=>ks
abbrev Way:=List (Tr×Nat)
abbrev El:=Way×Tr
mutual
def pp:Way->Tr->List El
 | p,.mk f ks=>(p,.mk f ks) :: pps (.mk f ks) p 0 ks
def pps(par:Tr)(p:Way):Nat->List Tr->List El
 | _,[]=>[]
 | i,t :: ts=>pp ((par,i) :: p) t++pps par p (i+1) ts
end
theorem bX(p:Way)(t:Tr):pp p t=(p,t) :: pps t p 0 t.ks:=by
 cases t
 rw [pp]
 rfl
theorem aX(par:Tr)(p:Way)(i:Nat)(t:Tr)(ts:List Tr):pps par p i (t :: ts)=pp ((par,i) :: p) t++pps par p (i+1) ts:=by rw [pps]
theorem bA(par:Tr)(p:Way)(i:Nat):pps par p i []=[]:=by rw [pps]
mutual
def Tr.sz:Tr->Nat | .mk _ ks=>szs ks+1
def szs:List Tr->Nat | []=>0 | t :: ts=>t.sz+szs ts
end
theorem dA(t:Tr):t.sz=szs t.ks+1:=by cases t;rw [Tr.sz];rfl
theorem bE(t:Tr)(ts:List Tr):szs (t :: ts)=t.sz+szs ts:=by rw [szs]
theorem cM:szs []=0:=by rw [szs]
theorem dO(t:Tr):1<=t.sz:=by rw [dA];omega
theorem bG9{t:Tr}{ks:List Tr}(h:t∈ks):t.sz<=szs ks:=by
 induction ks with
 | nil=>cases h
 | cons x r ih=>
  rw [bE]
  rcases u0.1 h with e | e
  ·subst e;omega
  ·have:=ih e;omega
theorem bW{t u:Tr}(h:u∈t.ks):u.sz<t.sz:=by rw [dA t];have:=bG9 h;omega
theorem Tr.ind{P:Tr->Prop}(h:∀ t,(∀ u∈t.ks,P u)->P t)(t:Tr):P t:=by
 have:∀ (m:Nat) (t:Tr),t.sz<=m->P t:=by
  intro m
  induction m with
  | zero=>intro t ht;have:=dO t;omega
  | succ m ih=>intro t ht;exact h t fun u hu=>ih u (by have:=bW hu;omega)
 exact this t.sz t lz9
theorem xH{ks:List Tr}(h:∀ t∈ks,∀ p,(pp p t).length=t.sz)(par:Tr)(p:Way)(i:Nat):(pps par p i ks).length=szs ks:=by
 induction ks generalizing i with
 | nil=>rw [bA,cM];rfl
 | cons t ts ih=>
  rw [aX,bE,o5,h t (n9 ..),ih (fun u hu=>h u (m9 _ hu))]
theorem bL(t:Tr):∀ p,(pp p t).length=t.sz:=by
 refine Tr.ind (P:=fun t=>∀ p,(pp p t).length=t.sz) (fun t ih p=>?_) t
 rw [bX,dA,o7,xH ih]
def Nx(x y:El):Prop:=∃ (par:Tr) (j:Nat) (rest:Way),y.1=(par,j) :: rest/\((par=x.2/\j=0/\rest=x.1)\/∃ s i,x.1=s++(par,i) :: rest/\j=i+1)
def Ch:List El->Prop
 | []=>True
 | [_]=>True
 | x :: y :: r=>Nx x y/\Ch (y :: r)
theorem mX{a b:List El}(ha:Ch a)(hb:Ch b)(h:∀ x∈a.getLast?,∀ y∈b.head?,Nx x y):Ch (a++b):=by
 induction a with
 | nil=>exact hb
 | cons x a ih=>
  cases a with
  | nil=>
   cases b with
   | nil=>trivial
   | cons y b=>exact⟨h x (by simp) y (by simp),hb⟩
  | cons z a=>exact⟨ha.1,ih ha.2 fun u hu=>h u (by rw [List.getLast?_cons_cons];exact hu)⟩
theorem aT0{a b:List El}{x y:El}(h:Ch (a++x :: y :: b)):Nx x y:=by
 induction a with
 | nil=>exact h.1
 | cons z a ih=>
  cases a with
  | nil=>exact h.2.1
  | cons u a=>exact ih h.2
theorem sJ{ks:List Tr}(h:∀ t∈ks,∀ p,Ch (pp p t)/\∀ z∈pp p t,∃ s,z.1=s++p)(par:Tr)(p:Way)(i:Nat) :
  Ch (pps par p i ks)/\(∀ z∈pps par p i ks,∃ s j,z.1=s++(par,j) :: p)/\∀ z∈(pps par p i ks).head?,z.1=(par,i) :: p:=by
 induction ks generalizing i with
 | nil=>rw [bA];exact⟨trivial,fun z hz=>(by cases hz),fun z hz=>(by cases hz)⟩
 | cons t ts ih=>
  obtain⟨c1,c2⟩:=h t (n9 ..) ((par,i) :: p)
  obtain⟨d1,d2,d3⟩:=ih (fun u hu=>h u (m9 _ hu)) (i+1)
  rw [aX]
  refine⟨mX c1 d1 fun x hx y hy=>?_,fun z hz=>?_,fun z hz=>?_⟩
  ·obtain⟨s,hs⟩:=c2 x (List.mem_of_getLast? hx)
   exact⟨par,i+1,p,d3 y hy,.inr ⟨s,i,hs,rfl⟩⟩
  ·rcases o3.1 hz with q | q
   ·obtain⟨s,hs⟩:=c2 z q
    exact⟨s,i,hs⟩
   ·exact d2 z q
  ·rw [bX] at hz
   simp at hz
   subst hz
   rfl
theorem aN1(t:Tr):∀ p,Ch (pp p t)/\∀ z∈pp p t,∃ s,z.1=s++p:=by
 refine Tr.ind (P:=fun t=>∀ p,Ch (pp p t)/\∀ z∈pp p t,∃ s,z.1=s++p) (fun t ih p=>?_) t
 obtain⟨d1,d2,d3⟩:=sJ ih t p 0
 rw [bX]
 refine⟨mX (a:=[(p,t)]) trivial d1 fun x hx y hy=>?_,fun z hz=>?_⟩
 ·simp at hx
  subst hx
  exact⟨t,0,p,d3 y hy,.inl ⟨rfl,rfl,rfl⟩⟩
 ·rcases u0.1 hz with q | q
  ·subst q
   exact⟨[],rfl⟩
  ·obtain⟨s,j,hs⟩:=d2 z q
   exact⟨s++[(t,j)],by simp [hs]⟩
theorem qY{t:Tr}{pre:List El}{x y:El}(h:pre++[x]++[y] <+: pp [] t):Nx x y:=by
 obtain⟨r,hr⟩:=h
 have:=(aN1 t []).1
 rw [<- hr,show pre++[x]++[y]++r=pre++x :: y :: r by simp] at this
 exact aT0 this
theorem pI{t:Tr}{x:El}(h:[x] <+: pp [] t):x=([],t):=by
 rw [bX] at h
 obtain⟨r,hr⟩:=h
 simp at hr
 exact hr.1
mutual
def bF(P:Tr->Prop):Tr->Prop | .mk f ks=>P (.mk f ks)/\oA P ks
def oA(P:Tr->Prop):List Tr->Prop | []=>True | t :: ts=>bF P t/\oA P ts
end
theorem aI{P:Tr->Prop}(t:Tr):bF P t↔P t/\oA P t.ks:=by cases t;rw [bF];rfl
theorem aT{P:Tr->Prop}(ks:List Tr):oA P ks ↔ ∀ t∈ks,bF P t:=by
 induction ks with
 | nil=>rw [oA];simp
 | cons t ts ih=>rw [oA,ih];simp
theorem cB{P:Tr->Prop}{t u:Tr}(h:bF P t)(hu:u∈t.ks):bF P u:=(aT _).1 ((aI t).1 h).2 u hu
theorem fD{P:Tr->Prop}(t:Tr):∀ p,bF P t->∀ z∈pp p t,bF P z.2:=by
 refine Tr.ind (P:=fun t=>∀ p,bF P t->∀ z∈pp p t,bF P z.2) (fun t ih p he z hz=>?_) t
 rw [bX] at hz
 rcases u0.1 hz with q | q
 ·subst q;exact he
 ·have:∀ (ks:List Tr) (i:Nat),(∀ u∈ks,u∈t.ks)->z∈pps t p i ks->bF P z.2:=by
   intro ks
   induction ks with
   | nil=>intro i _ h;rw [bA] at h;cases h
   | cons u us ih2=>
    intro i hs h
    rw [aX] at h
    rcases o3.1 h with g | g
    ·exact ih u (hs u (n9 ..)) _ (cB he (hs u (n9 ..))) z g
    ·exact ih2 (i+1) (fun v hv=>hs v (m9 _ hv)) g
  exact this t.ks 0 (fun _ h=>h) q
section
open Go Go.RowKit Go.Shelf
theorem tH{W W':World}(hb:Below W.heap.size W W'):W.grownBy W' none:=⟨hb.os,hb.tape,hb.output,hb.size,fun k hk _=>hb.block k hk⟩
structure CKeep(N:Nat->Prop)(W W':World):Prop where
 size:W.heap.size<=W'.heap.size
 same:∀ (k:Nat) (cur:Array Value) (t:TypeId) (fr:Nat×Nat),N k->W.heap[k]?=some (.cells cur t fr)->W'.heap[k]?=some (.cells cur t fr)
theorem CKeep.trans{N:Nat->Prop}{A B C:World}(h:CKeep N A B)(k:CKeep N B C):CKeep N A C:=⟨o0 h.size k.size,fun i cur t fr hi hc=>k.same i cur t fr hi (h.same i cur t fr hi hc)⟩
theorem CKeep.put{N:Nat->Prop}{W:World}{l:Nat}{o:Obj}(o':Obj)(h:W.heap[l]?=some o)(hc:o.isCells=false):CKeep N W (W.putObj l o'):=
 ⟨(grownBy_putObj' W l o').size,fun k cur t fr _ hk=>by
  have hne:k≠l:=fun e=>by subst e;rw [hk] at h;cases h;cases hc
  exact(World.putObj_heap_other hne).trans hk⟩
theorem Fr.ckeep{S N:Nat->Prop}{W W':World}(h:Fr S W W')(hs:∀ k,S k->¬ N k):CKeep N W W':=
 ⟨h.size,fun k _ _ _ hk hc=>(h.block k (aC hc) (fun q=>hs k q hk)).trans hc⟩
theorem Fr.keepsFrom{S:Nat->Prop}{N:Nat}{W W':World}(h:Fr S W W')(hs:∀ k,S k->k<N):KeepsFrom N W W':=
 ⟨h.size,fun k o hk hc _=>(h.block k (aC hc) (fun q=>by have:=hs k q;omega)).trans hc⟩
def bF5{α:Type}(n:Nat)(P:Program)(gf:Nat)(lb:Array Value)(encs:α->Array Value)(N:Nat->Prop)(Told:List α->α->World->Prop)(S Sp:List α->Prop)(w:World):Prop:=
 ∀ (l:Nat) (J Jx:List α->World->Prop) (W:World),Below w.heap.size w W->OwnFrom W.heap.size J->OwnFrom W.heap.size Jx->(∀ pre V,J pre V->pre.length<=1000000) ->
  (∀ pre x V,J pre V->Told pre x V->YieldAt Fence.wide (n-1) P l (encs x) V fun e V'=>KeepsFrom W.heap.size V V'/\((e=.returned (.bool true)/\J (pre++[x]) V'/\CKeep N V V')\/(e=.returned (.bool false)/\Jx (pre++[x]) V'))) ->
  J [] W->CallsIn Fence.wide n P gf (#[.func (.yield l) #[] #[]]++lb) W fun e V=>(∃ v,e=.returned v)/\((∃ xs,S xs/\J xs V)\/(∃ pre,Sp pre/\Jx pre V))
theorem kW{β:Type}{B:Nat}{J:β->World->Prop}(h:OwnFrom B J){s:β}{A A':World}(hj:J s A)(hb:Below A.heap.size A A'):J s A':=h s A A' none hj (tH hb) (fun _ e=>by cases e)
theorem pZ{β:Type}{B B':Nat}{J:β->World->Prop}(h:OwnFrom B J)(hB:B<=B'):OwnFrom B' J:=fun s W W' row hs hg hr=>h s W W' row hs hg (fun r e=>⟨o0 hB (hr r e).1,(hr r e).2⟩)
theorem uW{B B':Nat}{W W':World}(h:KeepsFrom B W W')(hB:B<=B'):KeepsFrom B' W W':=⟨h.size,fun k o hk hc ho=>h.same k o (o0 hB hk) hc ho⟩
theorem nS{B:Nat}(W:World){l:Nat}(o:Obj)(hl:l<B):KeepsFrom B W (W.putObj l o):=
 ⟨(grownBy_putObj' W l o).size,fun k _ hk hc _=>(World.putObj_heap_other (by omega)).trans hc⟩
theorem oF{N:Nat->Prop}{W W':World}(hb:Below W.heap.size W W'):CKeep N W W':=⟨hb.size,fun k _ _ _ _ hc=>(hb.block k (aC hc)).trans hc⟩
theorem oE{B:Nat}{W W':World}(hb:Below W.heap.size W W'):KeepsFrom B W W':=⟨hb.size,fun k _ _ hc _=>(hb.block k (aC hc)).trans hc⟩
section
variable {α:Type} {P:Program}
def Rc(D:Nat)(r:Loop)(W:World):Prop:=W.heap[D+1]?=some (.loop r)/\W.heap[D]?=some (.deferred (some []))
theorem Rc.below{D:Nat}{r:Loop}{W W':World}(h:Rc D r W)(hb:Below W.heap.size W W'):Rc D r W':=
 ⟨(hb.block _ (aC h.1)).trans h.1,(hb.block _ (aC h.2)).trans h.2⟩
theorem Rc.from{D:Nat}{r:Loop}{W W':World}(h:Rc D r W)(hk:KeepsFrom D W W'):Rc D r W':=⟨hk.same _ _ (by omega) h.1 rfl,hk.same _ _ lz9 h.2 rfl⟩
theorem Rc.put{D:Nat}{r:Loop}{W:World}(h:Rc D r W)(r':Loop):Rc D r' (W.putObj (D+1) (.loop r')):=
 ⟨World.putObj_heap_same (aC h.1),(World.putObj_heap_other (by omega)).trans h.2⟩
theorem aM4{β:Type}{D:Nat}(r:Loop):OwnFrom (D+2) (fun (_:β) W=>Rc D r W):=fun _ A B row h hg hrow=>
 ⟨(hg.block _ (aC h.1) (fun e=>by have:=(hrow _ e.symm).1;omega)).trans h.1,(hg.block _ (aC h.2) (fun e=>by have:=(hrow _ e.symm).1;omega)).trans h.2⟩
theorem wY{D:Nat}{N:Nat->Prop}{r:Loop}{I:List α->World->Prop}{Ix:Code->List α->World->Prop}{xs:List α}{V W W3:World}{e:Exit}{a3:Act}
  (hI:OwnFrom D I) (hIx:∀ c,OwnFrom D (Ix c)) (hc:CKeep N V W) (hr:Rc D { r with state:=.busy } W)
  (hv:KeepsFrom (D+2) V W) (hp:ownPostG D (CKeep N) I Ix xs W e a3 W3):roundPost P (D+1) (fun e V'=>KeepsFrom (D+2) V V'/\((e=.returned (.bool true)/\(I xs V'/\Rc D { r with state:=.ready,pending:=none } V')/\CKeep N V V')\/(e=.returned (.bool false)/\∃ c,Ix c xs V'/\Rc D { r with state:=.done,pending:=some c } V'))) e a3 W3:=by
 have out:∀ c:Code,KeepsFrom D W W3->Ix c xs W3->∃ v V',(Instr.endRound (D+1) (some c)).run P W3=.ok v V'/\(KeepsFrom (D+2) V V'/\((Ending.returned v=.returned (.bool true)/\(I xs V'/\Rc D { r with state:=.ready,pending:=none } V')/\CKeep N V V')\/(Ending.returned v=.returned (.bool false)/\∃ c,Ix c xs V'/\Rc D { r with state:=.done,pending:=some c } V'))):=fun c hk hi=>by
  have h3:=hr.from hk
  exact⟨_,_,run_endRound (some c) h3.1,(hv.trans (uW hk (by omega))).trans (nS _ _ (by omega)),.inr ⟨rfl,c,(hIx c).putObj _ hi (by omega) h3.1 rfl,h3.put _⟩⟩
 cases e with
 | normal=>
  obtain⟨hk,hkp,hi⟩:=hp
  have h3:=hr.from hk
  exact⟨_,_,run_endRound none h3.1,(hv.trans (uW hk (by omega))).trans (nS _ _ (by omega)),.inl ⟨rfl,⟨hI.putObj _ hi (by omega) h3.1 rfl,h3.put _⟩,(hc.trans hkp).trans (CKeep.put _ h3.1 rfl)⟩⟩
 | ret=>exact out .ret hp.1 hp.2
 | exit id=>exact out (.exit id) hp.1 hp.2
 | goto t=>exact out (.goto t) hp.1 hp.2
 | panic ch=>exact hp.elim
 | outgrown=>exact hp.elim
theorem wZ{g:Operand}{ps:Array Tmp}{assign body:Code}{Q:Exit->Act->World->Prop}{a:Act}{w:World}{n:Nat}(h1:1<=n){gf:Nat}{lb:Array Value}
  (hg:a.eval g=.func (.func gf) #[] lb) (eg:∀ args w,(callFunc gf args).run P w=.ok (.enter gf args) w) {encs:α->Array Value} (hps:∀ x,(encs x).size=ps.size)
  {N:Nat->Prop} {Told:List α->α->World->Prop} {S Sp:List α->Prop} (hseq:bF5 (n-1) P gf lb encs N Told S Sp w)
  (I:List α->World->Prop) (Ix:Code->List α->World->Prop) (hI:OwnFrom w.heap.size I) (hIx:∀ c,OwnFrom w.heap.size (Ix c)) (hT:∀ pre x,OwnFrom w.heap.size (fun (_:Unit) W=>Told pre x W)) (hbd:∀ pre W,I pre W->pre.length<=1000000) (h0:I [] w) (Ax:α->Act->World->Prop) (hAx:∀ x a',OwnFrom w.heap.size (fun (_:Unit) W=>Ax x a' W))
  (hassign:∀ (l:Nat) (pre:List α) (x:α) (W:World) (K:Act->World->Prop),I pre W->Told pre x W->(∀ a' W',Below W.heap.size W W'->Ax x a' W'->K a' W') ->
   assign.wpIn (Fence.wide.inRound l) (n-1-1) P (Exit.then K (fun _ _ _=>False)) { tmps:=(ps.zip (encs x)).foldl (fun t (p,v)=>t.setIfInBounds p v) a.tmps,defers:=[] } W)
  (hbody:∀ (l:Nat) (pre:List α) (x:α) (a':Act) (W:World),I pre W->Told pre x W->Ax x a' W->body.wpIn (Fence.wide.inRound l) (n-1-1) P (ownPostG w.heap.size (CKeep N) I Ix (pre++[x]) W) a' W)
  (hdone:∀ (D:Nat) (xs:List α) (W:World),w.heap.size<=D->S xs->I xs W->W.heap[D]?=some (.deferred (some []))->Q .normal { a with defers:={ target:=.collected D,args:=#[] } :: a.defers } W)
  (hstop:∀ (D:Nat) (c:Code) (pre:List α) (W:World),w.heap.size<=D->Sp pre->Ix c pre W->W.heap[D]?=some (.deferred (some []))->c.wpIn Fence.wide n P Q { a with defers:={ target:=.collected D,args:=#[] } :: a.defers } W) :
  (Code.rangeFunc g ps assign body).wpIn Fence.wide n P Q a w:=by
 refine wpIn_rangeFunc fun fn hfn=>?_
 let r:Loop:={ state:=.ready,pending:=none,fn:=fn,tmps:=a.tmps,params:=ps,assign:=assign,body:=body,defers:=w.heap.size }
 have hB:Below w.heap.size w ((w.alloc (.deferred (some []))).alloc (.loop r)):=(bz9).alloc (by simp) _
 have hz:((w.alloc (.deferred (some []))).alloc (.loop r)).heap.size=w.heap.size+2:=by simp
 have hR:Rc w.heap.size r ((w.alloc (.deferred (some []))).alloc (.loop r)):=by
  refine⟨?_,(Below.heap_alloc _ _ _ (by simp)).trans (World.alloc_heap_new w _)⟩
  have:=World.alloc_heap_new (w.alloc (.deferred (some []))) (.loop r)
  rwa [v9] at this
 refine⟨w.heap.size+1,[{ target:=.collected w.heap.size,args:=#[] }],((w.alloc (.deferred (some []))).alloc (.loop r)),{ target:=.fn (.func gf) lb,args:=#[.func (.yield (w.heap.size+1)) #[] #[]] },((w.alloc (.deferred (some []))).alloc (.loop r)),gf,#[.func (.yield (w.heap.size+1)) #[] #[]]++lb,((w.alloc (.deferred (some []))).alloc (.loop r)),
  run_enterLoop_outer _ _ _ _ _,?_,fun _ _=>trivial,?_,fun _=>h1,?_⟩
 ·simp only [resolve,hg]
  simp [go_sem]
 ·simp [invoke,go_sem,eg]
 ·refine(hseq (w.heap.size+1) (fun pre W=>I pre W/\Rc w.heap.size r W) (fun pre W=>∃ c,Ix c pre W/\Rc w.heap.size { r with state:=.done,pending:=some c } W) _ hB
   ?_ ?_ (fun pre V h=>hbd pre V h.1) ?_ ⟨hI.alloc _ (hI.alloc _ h0),hR⟩).mono ?_
  ·rw [hz]
   exact(pZ hI (by omega)).and (aM4 _)
  ·rw [hz]
   rintro pre A B row ⟨c,hi,hr⟩ hg hrow
   exact⟨c,pZ (hIx c) (by omega) pre A B row hi hg hrow,aM4 (β:=Unit) _ () A B row hr hg hrow⟩
  ·rw [hz]
   rintro pre x V ⟨hi,hr⟩ ht
   refine⟨fn,_,assign,body,run_yield hr.1 (hps x),roundIn_of_wpIn hfn (hassign _ pre x V _ hi ht ?_)⟩
   intro a' W' hb hax
   have hr':=hr.below hb
   refine⟨_,run_beginRound hr'.1 rfl,?_⟩
   have hr2:Rc w.heap.size { r with state:=.busy } (W'.putObj (w.heap.size+1) (.loop { r with state:=.busy })):=hr'.put _
   exact wpIn_mono (hbody _ pre x a' _ (hI.putObj _ (kW hI hi hb) (by omega) hr'.1 rfl) ((hT pre x).putObj (s:=()) _ (kW (hT pre x) (s:=()) ht hb) (by omega) hr'.1 rfl) ((hAx x a').putObj (s:=()) _ hax (by omega) hr'.1 rfl)) fun e a3 W3 hp=>
    wY (r:=r) hI hIx ((oF hb).trans (CKeep.put _ hr'.1 rfl)) hr2 ((oE hb).trans (nS _ _ (by omega))) hp
  ·rintro e V ⟨⟨v,rfl⟩,(⟨xs,hS,hi,hr⟩ | ⟨pre,hSp,c,hi,hr⟩)⟩
   ·exact⟨none,_,run_endLoop hr.1 (by simp [r]),hdone _ xs _ lz9 hS (hI.putObj _ hi (by omega) hr.1 rfl) ((World.putObj_heap_other (by omega)).trans hr.2)⟩
   ·exact⟨some c,_,run_endLoop hr.1 (by simp),hstop _ c pre _ lz9 hSp ((hIx c).putObj _ hi (by omega) hr.1 rfl) ((World.putObj_heap_other (by omega)).trans hr.2)⟩
end
theorem eD{W W':World}{row:Option Nat}{B:Nat}(hg:W.grownBy W' row)(hr:∀ r,row=some r->B<=r/\∃ o:Obj,W.heap[r]?=some o/\o.isCells=false){k:Nat}{cur:Array Value}{t:TypeId}{fr:Nat×Nat}(hc:W.heap[k]?=some (.cells cur t fr)) :
  W'.heap[k]?=some (.cells cur t fr):=by
 refine(hg.block k (aC hc) (fun e=>?_)).trans hc
 obtain⟨_,o,ho,hq⟩:=hr k e.symm
 rw [hc] at ho
 cases ho
 cases hq
theorem cO{N:Nat->Prop}{W W':World}{p:Addr}{v:Value}(h:CKeep N W W')(hp:N p.block)(hc:W.cell? p=some v):W'.cell? p=some v:=by
 unfold World.cell? at hc ⊢
 cases ho:W.heap[p.block]? with
 | none=>simp [ho] at hc
 | some o=>
  cases o with
  | cells cur t fr=>rw [h.same _ _ _ _ hp ho];rw [ho] at hc;exact hc
  | _=>simp [ho] at hc
end
theorem cQ:Tryz.prog.underlying 23=some (.slice 25):=by kernel_rfl
theorem gT:(Tryz.prog.info? 25).map (fun i=>(i.zero,i.size,i.bytes))=some (some (.agg #[.int .i64 0,.int .i64 0,.int .i64 0,.int .i64 0,.slice none 0 0,.slice none 0 0]),6,80):=by kernel_rfl
def Six(W:World)(g o:Nat)(f:Fl):Prop:=
 W.cell? ⟨g,o,none⟩=some (.int .i64 f.k)/\W.cell? ⟨g,o+1,none⟩=some (.int .i64 f.n)/\W.cell? ⟨g,o+2,none⟩=some (.int .i64 f.mn)/\W.cell? ⟨g,o+3,none⟩=some (.int .i64 f.mx)/\W.cell? ⟨g,o+4,none⟩=some (.slice f.rq f.rs.length f.rc)/\W.cell? ⟨g,o+5,none⟩=some (.slice f.kq f.kl f.kc)
theorem Six.ck{N:Nat->Prop}{W W':World}{g o:Nat}{f:Fl}(h:Six W g o f)(hc:CKeep N W W')(hg:N g):Six W' g o f:=
 ⟨cO hc (p:=⟨g,o,none⟩) hg h.1,cO hc (p:=⟨g,o+1,none⟩) hg h.2.1,cO hc (p:=⟨g,o+2,none⟩) hg h.2.2.1,cO hc (p:=⟨g,o+3,none⟩) hg h.2.2.2.1,cO hc (p:=⟨g,o+4,none⟩) hg h.2.2.2.2.1,cO hc (p:=⟨g,o+5,none⟩) hg h.2.2.2.2.2⟩
def ArgK(W:World)(v:Value)(ks:List Tr):Prop:=
 (∃ p cap,v=.slice p 0 cap/\ks=[]/\(p=none->cap=0))\/∃ g off cap,v=.slice (some ⟨g,off,none⟩) ks.length cap/\g<W.heap.size/\ks.length<=cap/\cap<=maxLen/\∀ (i:Nat) (t:Tr),ks[i]?=some t->Six W g (off+i*6) t.f
theorem ArgK.slice{W:World}{v:Value}{ks:List Tr}(h:ArgK W v ks):∃ q cap,v=.slice q ks.length cap/\ks.length<=maxLen/\ks.length<=cap /\
  (∀ (i:Nat) (t:Tr),ks[i]?=some t->∃ g off,q=some ⟨g,off,none⟩/\g<W.heap.size/\Six W g (off+i*6) t.f):=by
 rcases h with⟨p,cap,rfl,rfl,-⟩ | ⟨g,off,cap,rfl,h2,h3,h4,h5⟩
 ·exact⟨p,cap,rfl,o9 _,o9 _,fun i x hx=>by simp at hx⟩
 ·exact⟨_,cap,rfl,o0 h3 h4,h3,fun i x hx=>⟨g,off,rfl,h2,h5 i x hx⟩⟩
def CK(W W':World):Prop:=CKeep (fun k=>k<W.heap.size) W W'
theorem CK.of_below{W W':World}(h:Below W.heap.size W W'):CK W W':=⟨h.size,fun k _ _ _ _ hc=>(h.block k (aC hc)).trans hc⟩
theorem CK.trans{A B C:World}(h:CK A B)(k:CK B C):CK A C:=⟨o0 h.size k.size,fun i cur t fr hi hc=>k.same i cur t fr (o8 hi h.size) (h.same i cur t fr hi hc)⟩
theorem CK.step{A B C:World}(h:CK A B)(k:CKeep (fun i=>i<A.heap.size) B C):CK A C:=⟨o0 h.size k.size,fun i cur t fr hi hc=>k.same i cur t fr hi (h.same i cur t fr hi hc)⟩
theorem ArgK.ck{W W':World}{v:Value}{ks:List Tr}(h:ArgK W v ks)(hc:CK W W'):ArgK W' v ks:=by
 rcases h with h | ⟨g,off,cap,h1,h2,h3,h4,h5⟩
 ·exact .inl h
 ·exact .inr ⟨g,off,cap,h1,o8 h2 hc.size,h3,h4,fun i x hx=>(h5 i x hx).ck hc h2⟩
theorem ArgR.ck{W W':World}{v:Value}{L:List (Int×Int)}(h:ArgR W v L)(hc:CK W W'):ArgR W' v L:=by
 rcases h with h | ⟨g,off,cap,h1,h2,h3,h4,h5⟩
 ·exact .inl h
 ·exact .inr ⟨g,off,cap,h1,o8 h2 hc.size,h3,h4,fun i x hx=>⟨cO hc (p:=⟨g,off+2*i,none⟩) h2 (h5 i x hx).1,cO hc (p:=⟨g,off+2*i+1,none⟩) h2 (h5 i x hx).2⟩⟩
def NO(W:World)(t:Tr):Prop:=(∀ a,t.f.rq=some a->t.f.rs≠[]->∃ cur,W.heap[a.block]?=some (.cells cur 53 (0,0)))/\(∀ a,t.f.kq=some a->t.ks≠[]->∃ cur,W.heap[a.block]?=some (.cells cur 25 (0,0)))
theorem NO.ck{W W':World}{t:Tr}(h:NO W t)(hc:CK W W'):NO W' t:=
 ⟨fun a e z=>by obtain⟨cur,q⟩:=h.1 a e z;exact⟨cur,hc.same _ _ _ _ (aC q) q⟩,fun a e z=>by obtain⟨cur,q⟩:=h.2 a e z;exact⟨cur,hc.same _ _ _ _ (aC q) q⟩⟩
theorem NO.rows{base:Nat}{W:World}{f:Fl}{ks:List Tr}(hr:W.ownsRow base 53 2 (.slice f.rq f.rs.length f.rc) f.rs.length (aL f.rs))(hk:∀ a,f.kq=some a->ks≠[]->∃ cur,W.heap[a.block]?=some (.cells cur 25 (0,0))):NO W (.mk f ks):=
 ⟨fun a e _=>(aF hr (g:=a.block) (by rw [show f.rq=some a from e];rfl)).2.2,hk⟩
structure NA(W:World)(t:Tr):Prop where
 r:ArgR W (.slice t.f.rq t.f.rs.length t.f.rc) t.f.rs
 k:ArgK W (.slice t.f.kq t.f.kl t.f.kc) t.ks
 fit:Fit t.f.rs
 len:t.f.rs.length+3<=8796093022208
 own:NO W t
theorem NA.ck{W W':World}{t:Tr}(h:NA W t)(hc:CK W W'):NA W' t:=⟨h.r.ck hc,h.k.ck hc,h.fit,h.len,h.own.ck hc⟩
theorem NA.kl{W:World}{t:Tr}(h:NA W t):t.f.kl=t.ks.length:=by
 obtain⟨q,cap,e,-⟩:=h.k.slice
 injection e
def TA(W:World)(t:Tr):Prop:=bF (NA W) t
theorem iD{P Q:Tr->Prop}(h:∀ t,P t->Q t)(t:Tr):bF P t->bF Q t:=by
 refine Tr.ind (P:=fun t=>bF P t->bF Q t) (fun t ih he=>?_) t
 exact(aI t).2 ⟨h t ((aI t).1 he).1,(aT _).2 fun u hu=>ih u hu (cB he hu)⟩
theorem TA.ck{W W':World}{t:Tr}(h:TA W t)(hc:CK W W'):TA W' t:=iD (fun _ q=>NA.ck q hc) t h
theorem TA.kept{W W':World}{t:Tr}(h:TA W t)(hb:Below W.heap.size W W'):TA W' t:=h.ck (CK.of_below hb)
theorem TA.node{W:World}{t:Tr}(h:TA W t):NA W t:=((aI t).1 h).1
theorem TA.kid{W:World}{t u:Tr}(h:TA W t)(hu:u∈t.ks):TA W u:=cB h hu
structure NB(W:World)(t:Tr):Prop where
 r:ArgR W (.slice t.f.rq t.f.rs.length t.f.rc) t.f.rs
 k:ArgK W (.slice t.f.kq t.f.kl t.f.kc) t.ks
 fit:Fit t.f.rs
 len:t.f.rs.length+3<=8796093022208
theorem NB.ck{W W':World}{t:Tr}(h:NB W t)(hc:CK W W'):NB W' t:=⟨h.r.ck hc,h.k.ck hc,h.fit,h.len⟩
theorem NB.kl{W:World}{t:Tr}(h:NB W t):t.f.kl=t.ks.length:=by
 obtain⟨q,cap,e,-⟩:=h.k.slice
 injection e
def TB(W:World)(t:Tr):Prop:=bF (NB W) t
theorem TB.ck{W W':World}{t:Tr}(h:TB W t)(hc:CK W W'):TB W' t:=iD (fun _ q=>NB.ck q hc) t h
theorem TB.kept{W W':World}{t:Tr}(h:TB W t)(hb:Below W.heap.size W W'):TB W' t:=h.ck (CK.of_below hb)
theorem TB.node{W:World}{t:Tr}(h:TB W t):NB W t:=((aI t).1 h).1
theorem TB.kid{W:World}{t u:Tr}(h:TB W t)(hu:u∈t.ks):TB W u:=cB h hu
theorem TB.at{W:World}{t:Tr}(h:TB W t){p:Way}{z:El}(hz:z∈pp p t):TB W z.2:=fD t p h z hz
theorem TA.tb{W:World}{t:Tr}(h:TA W t):TB W t:=iD (fun _ q=>⟨q.r,q.k,q.fit,q.len⟩) t h
instance {W:World} {t:Tr}:Coe (TA W t) (TB W t):=⟨TA.tb⟩
def BoxN(W:World)(b:Nat)(f:Fl):Prop:=W.heap[b]?=some (.cells #[.int .i64 f.k,.int .i64 f.n,.int .i64 f.mn,.int .i64 f.mx,.slice f.rq f.rs.length f.rc,.slice f.kq f.kl f.kc] 25 (0,0))
theorem BoxN.six{W:World}{b:Nat}{f:Fl}(h:BoxN W b f):Six W b 0 f:=
 ⟨aB h (i:=0) rfl,aB h (i:=1) rfl,aB h (i:=2) rfl,aB h (i:=3) rfl,aB h (i:=4) rfl,aB h (i:=5) rfl⟩
def cP(k:Int):Bool:=decide (1<=k)&&decide (k<=9)
def bC(k:Int):Bool:=k==2||k==7||k==8||k==9
def eX(a b:Int):Bool:=decide (0<=a)&&decide (a<=255)&&(b==-1 ||(decide (a<=b)&&decide (b<=255)))
def dY(k:Int)(n:Nat):Bool:=if k=5\/k=6 then decide (2<=n) else if k=7\/k=9 then n==1 else n==0
theorem uZ(k:Int)(w:World):Calls Tryz.prog 83 #[.int .i64 k] w fun e w'=>e=.returned (.bool (cP k))/\w'=w:=by
 have hid:∀ b,cP k=b->Calls Tryz.prog 83 #[.int .i64 k] w fun e w'=>e=.returned (.bool b)/\w'=w:=by
  intro b hb
  by_cases h1:(1:Int)<=k
  ·by_cases h2:k<=9
   ·have e:b=true:=by rw [<- hb];simp [cP,h1,h2]
    subst e
    clear hb
    go_enter Tryz.func83,Tryz.ntmps83
    go_wp2
    go_ret
    exact⟨rfl,rfl⟩
   ·have e:b=false:=by rw [<- hb];simp [cP,h2]
    subst e
    clear hb
    go_enter Tryz.func83,Tryz.ntmps83
    go_wp2
    go_ret
    exact⟨rfl,rfl⟩
  ·have e:b=false:=by rw [<- hb];simp [cP,h1]
   subst e
   clear hb
   go_enter Tryz.func83,Tryz.ntmps83
   go_wp2
   go_ret
   exact⟨rfl,rfl⟩
 exact hid _ rfl
theorem oD(k:Int)(w:World):Calls Tryz.prog 82 #[.int .i64 k] w fun e w'=>e=.returned (.bool (bC k))/\w'=w:=by
 have hid:∀ b,bC k=b->Calls Tryz.prog 82 #[.int .i64 k] w fun e w'=>e=.returned (.bool b)/\w'=w:=by
  intro b hb
  unfold bC at hb
  cases h1:(k==2) <;> cases h2:(k==7) <;> cases h3:(k==8) <;> cases h4:(k==9) <;> rw [h1,h2,h3,h4] at hb <;> simp at hb <;> subst hb
  all_goals
   go_enter Tryz.func82,Tryz.ntmps82
   go_wp2
   go_ret
   exact⟨rfl,rfl⟩
 exact hid _ rfl
theorem qP(a b:Int)(w:World):Calls Tryz.prog 85 #[.int .i64 a,.int .i64 b] w fun e w'=>e=.returned (.bool (eX a b))/\w'=w:=by
 have hid:∀ r,eX a b=r->Calls Tryz.prog 85 #[.int .i64 a,.int .i64 b] w fun e w'=>e=.returned (.bool r)/\w'=w:=by
  intro r hb
  unfold eX at hb
  by_cases h1:(0:Int)<=a
  ·by_cases h2:a<=255
   ·cases h3:(b==-1) with
    | true=>
     simp [h1,h2,h3] at hb
     subst hb
     go_enter Tryz.func85,Tryz.ntmps85
     go_wp2
     go_ret
     exact⟨rfl,rfl⟩
    | false=>
     by_cases h4:a<=b
     ·by_cases h5:b<=255
      ·simp [h1,h2,h3,h4,h5] at hb
       subst hb
       go_enter Tryz.func85,Tryz.ntmps85
       go_wp2
       go_ret
       exact⟨rfl,rfl⟩
      ·simp [h1,h2,h3,h4,h5] at hb
       subst hb
       go_enter Tryz.func85,Tryz.ntmps85
       go_wp2
       go_ret
       exact⟨rfl,rfl⟩
     ·simp [h1,h2,h3,h4] at hb
      subst hb
      go_enter Tryz.func85,Tryz.ntmps85
      go_wp2
      go_ret
      exact⟨rfl,rfl⟩
   ·simp [h1,h2] at hb
    subst hb
    go_enter Tryz.func85,Tryz.ntmps85
    go_wp2
    go_ret
    exact⟨rfl,rfl⟩
  ·simp [h1] at hb
   subst hb
   go_enter Tryz.func85,Tryz.ntmps85
   go_wp2
   go_ret
   exact⟨rfl,rfl⟩
 exact hid _ rfl
theorem aT9(n:Nat):((n:Int)==0)=(n==0):=by cases n <;> rfl
theorem bC6(n:Nat):((n:Int)==1)=(n==1):=by rw [Bool.eq_iff_iff];simp;omega
theorem uD(f:Fl)(w:World):Calls Tryz.prog 64 #[.agg #[.int .i64 f.k,.int .i64 f.n,.int .i64 f.mn,.int .i64 f.mx,.slice f.rq f.rs.length f.rc,.slice f.kq f.kl f.kc]] w fun e w'=>e=.returned (.bool (dY f.k f.kl))/\Below w.heap.size w w':=by
 obtain⟨r,hr⟩:∃ r,dY f.k f.kl=r:=⟨_,rfl⟩
 rw [hr]
 have HR:=aA hr
 have B1:Hid (Below w.heap.size w (w.alloc (.cells #[.int .i64 f.k,.int .i64 f.n,.int .i64 f.mn,.int .i64 f.mx,.slice f.rq f.rs.length f.rc,.slice f.kq f.kl f.kc] 25))):=bz9
 have N1:Hid (BoxN (w.alloc (.cells #[.int .i64 f.k,.int .i64 f.n,.int .i64 f.mn,.int .i64 f.mx,.slice f.rq f.rs.length f.rc,.slice f.kq f.kl f.kc] 25)) w.heap.size f):=aD w _
 obtain⟨c0,-,-,-,-,c5⟩:=N1.out.six
 simp only [m7] at c5
 clear hr
 cases h5:(f.k==5) <;> cases h6:(f.k==6) <;> cases h7:(f.k==7) <;> cases h9:(f.k==9)
 all_goals
  go_enter Tryz.func64,Tryz.ntmps64
  go_wp2
  go_ret
  refine⟨?_,B1.out⟩
  rw [<- HR.out]
  unfold dY
  simp at h5 h6 h7 h9
  simp [h5,h6,h7,h9]
  try first | exact aT9 _ | exact bC6 _ | omega
section
open Go Go.RowKit Go.Shelf
def aS5(x:El):Array Value:=#[.int .i64 ((x.1.length:Int)+1),.agg #[.int .i64 x.2.f.k,.int .i64 x.2.f.n,.int .i64 x.2.f.mn,.int .i64 x.2.f.mx,.slice x.2.f.rq x.2.f.rs.length x.2.f.rc,.slice x.2.f.kq x.2.f.kl x.2.f.kc]]
theorem pW(par:Tr)(p:Way)(a b:List Tr):∀ i,pps par p i (a++b)=pps par p i a++pps par p (i+a.length) b:=by
 induction a with
 | nil=>intro i;rw [bA];rfl
 | cons x a ih=>intro i;rw [t4,aX,aX,ih (i+1),r8,o7,show i+1+a.length=i+(a.length+1) by omega]
theorem pV{par:Tr}{p:Way}{ks:List Tr}{j:Nat}{u:Tr}(h:ks[j]?=some u):pps par p 0 (ks.take (j+1))=pps par p 0 (ks.take j)++pp ((par,j) :: p) u:=by
 have hj:=(m8.1 h).1
 rw [s7,h,aBH,pW,aX,bA,t9,aAG,m7,Nat.min_eq_left (by omega)]
theorem zE{par:Tr}{p:Way}{ks:List Tr}(j:Nat):pps par p 0 (ks.take j) <+: pps par p 0 ks:=by
 have:=pW par p (ks.take j) (ks.drop j) 0
 rw [aBG] at this
 rw [this]
 exact List.prefix_append _ _
def Nn(b0 b1:Nat):Nat->Prop:=fun k=>k<b0\/b1<=k
theorem pU{L pre:List El}{p:Way}{t:Tr}{r:List El}(h:pre++pp p t <+: L)(hr:r <+: pps t p 0 t.ks):pre++(p,t) :: r <+: L:=by
 refine List.IsPrefix.trans ?_ h
 rw [bX]
 exact(List.prefix_append_right_inj _).2 (List.cons_prefix_cons.2 ⟨rfl,hr⟩)
def aV0(w0:World)(b1:Nat)(L:List El)(J Jx:List El->World->Prop)(xs:List El)(e:Ending)(V':World):Prop:=
 ∃ r:Bool,e=.returned (.bool r)/\((r=true/\J xs V'/\CK w0 V'/\b1<=V'.heap.size)\/(r=false/\∃ pre',pre' <+: L/\Jx pre' V'))
theorem bM9{w0:World}{L:List El}{l b1:Nat}{J Jx:List El->World->Prop}{B:Nat}(hJ:OwnFrom B J)(n:Nat)(hL:∀ pre V,J pre V->pre.length<=1000000)
  (hY:∀ pre x V,J pre V->pre++[x] <+: L->YieldAt Fence.wide (n-1) Tryz.prog l (aS5 x) V fun e V'=>KeepsFrom B V V'/\((e=.returned (.bool true)/\J (pre++[x]) V'/\CKeep (Nn w0.heap.size b1) V V')\/(e=.returned (.bool false)/\Jx (pre++[x]) V'))) :
  ∀ (m:Nat) (t:Tr) (p:Way) (pre:List El) (V:World),t.sz<=m->pre++pp p t <+: L->TB w0 t->CK w0 V->J pre V->p.length<=pre.length->b1<=V.heap.size ->
   CallsIn Fence.wide n Tryz.prog 61 #[.agg #[.int .i64 t.f.k,.int .i64 t.f.n,.int .i64 t.f.mn,.int .i64 t.f.mx,.slice t.f.rq t.f.rs.length t.f.rc,.slice t.f.kq t.f.kl t.f.kc],.int .i64 ((p.length:Int)+1),.func (.yield l) #[] #[]] V (aV0 w0 b1 L J Jx (pre++pp p t)):=by
 intro m
 induction m with
 | zero=>intro t p pre V hm;exact absurd (dO t) (by omega)
 | succ m ih=>
  intro t p pre V hm hpre hta hck hj hpl hb1
  have hfn:∀ f,Fence.wide.fn f:=fun _=>trivial
  have IH:=aA ih
  have HL:=aA hL
  have HPRE:=aA hpre
  have HTA:=aA hta
  have HM:=aA hm
  have hlen:=hL pre V hj
  obtain⟨q,cap,hkv,hk1,hk2,hk3⟩:=hta.node.k.slice
  injection hkv with hkq hkl hkc
  subst hkq
  have HKL:=aA hkl
  have HK3:=aA hk3
  have hkm:t.ks.length<=9223372036854775807:=hk1
  clear hkl hkc hk3 hk1
  have B1:Hid (Below V.heap.size V (V.alloc (.cells #[.int .i64 t.f.k,.int .i64 t.f.n,.int .i64 t.f.mn,.int .i64 t.f.mx,.slice t.f.rq t.f.rs.length t.f.rc,.slice t.f.kq t.f.kl t.f.kc] 25))):=bz9
  have N1:Hid (BoxN (V.alloc (.cells #[.int .i64 t.f.k,.int .i64 t.f.n,.int .i64 t.f.mn,.int .i64 t.f.mx,.slice t.f.rq t.f.rs.length t.f.rc,.slice t.f.kq t.f.kl t.f.kc] 25)) V.heap.size t.f):=aD V _
  have J1:Hid (J pre (V.alloc (.cells #[.int .i64 t.f.k,.int .i64 t.f.n,.int .i64 t.f.mn,.int .i64 t.f.mx,.slice t.f.rq t.f.rs.length t.f.rc,.slice t.f.kq t.f.kl t.f.kc] 25))):=hJ.alloc _ hj
  have C1:Hid (CK w0 (V.alloc (.cells #[.int .i64 t.f.k,.int .i64 t.f.n,.int .i64 t.f.mn,.int .i64 t.f.mx,.slice t.f.rq t.f.rs.length t.f.rc,.slice t.f.kq t.f.kl t.f.kc] 25))):=hck.trans (CK.of_below B1.out)
  have Hb1:=aA hb1
  clear ih hL hpre hta hm hj hck hb1
  refine callsIn_of_wp Tryz.func61 rfl trivial ?_ rfl
  simp only [Tryz.ntmps61,aBT,o7,List.length_nil,Nat.reduceAdd,Nat.reduceSub,Array.replicate_succ,Array.replicate_zero,List.push_toArray,List.append_toArray,aAI,t4]
  have cs:=N1.out.six
  obtain⟨fn,tmps,assign,body,hy,hR⟩:=hY pre (p,t) _ J1.out (pU HPRE.out List.nil_prefix)
  simp only [aS5] at hy
  obtain⟨c0,c1,c2,c3,c4,c5⟩:=cs
  simp only [m7] at c1 c2 c3 c4 c5
  gi_wp2
  refine⟨(fun z=>by cases z),hR.mono ?_⟩
  rintro e W3 ⟨-,(⟨rfl,hJ3,hk3⟩ | ⟨rfl,hJx3⟩)⟩
  ·have cc5:W3.cell? ⟨V.heap.size,5,none⟩=some (.slice t.f.kq t.f.kl t.f.kc):=cO hk3 (p:=⟨V.heap.size,5,none⟩) (.inr Hb1.out) c5
   have J3:=aA hJ3
   have C3:Hid (CK w0 W3):=C1.out.step ⟨hk3.size,fun i cur ty fr hi hc=>hk3.same i cur ty fr (.inl hi) hc⟩
   have S3:Hid (b1<=W3.heap.size):=o0 Hb1.out (o0 B1.out.size hk3.size)
   rw [HKL.out] at cc5
   clear hJ3 hk3 hy hR c0 c1 c2 c3 c4 c5 J1 C1 N1 B1
   gi_wp2
   gi_loopw [17] (fun i wr=>∃ j:Nat,j<=t.ks.length/\i=.int .i64 (j:Int)/\J (pre++(p,t) :: pps t p 0 (t.ks.take j)) wr/\CK w0 wr/\b1<=wr.heap.size) (fun i _=>t.ks.length-(intOf i).toNat)
   case atStart=>exact⟨0,o9 _,rfl,by rw [aAL,bA];exact J3.out,C3.out,S3.out⟩
   case round=>
    clear J3 C3 S3 cc5
    obtain⟨j,hj,rfl,hj1,hj2,hj3⟩:=hrel
    have HJ:=aA hj1
    have HC:=aA hj2
    have HS:=aA hj3
    clear hj1 hj2 hj3
    by_cases hjl:j<t.ks.length
    ·have e0:(j:Int)<(t.ks.length:Int):=by omega
     obtain⟨u,hu⟩:∃ u,t.ks[j]?=some u:=⟨_,g9 hjl⟩
     obtain⟨g,off,hq,hg,hsix⟩:=HK3.out j u hu
     rw [hq]
     have HU:=aA hu
     have hin:u∈t.ks:=n8 hu
     obtain⟨c0,c1,c2,c3,c4,c5⟩:=hsix.ck HC.out hg
     have B4:Hid (Below wr.heap.size wr (wr.alloc (.cells #[.int .i64 u.f.k,.int .i64 u.f.n,.int .i64 u.f.mn,.int .i64 u.f.mx,.slice u.f.rq u.f.rs.length u.f.rc,.slice u.f.kq u.f.kl u.f.kc] 25))):=bz9
     have N4:Hid (BoxN (wr.alloc (.cells #[.int .i64 u.f.k,.int .i64 u.f.n,.int .i64 u.f.mn,.int .i64 u.f.mx,.slice u.f.rq u.f.rs.length u.f.rc,.slice u.f.kq u.f.kl u.f.kc] 25)) wr.heap.size u.f):=aD wr _
     obtain⟨d0,d1,d2,d3,d4,d5⟩:=N4.out.six
     simp only [m7] at d1 d2 d3 d4 d5
     have hj1:=HL.out _ _ HJ.out
     have IHU:=aA (IH.out u ((t,j) :: p) (pre++(p,t) :: pps t p 0 (t.ks.take j)) (wr.alloc (.cells #[.int .i64 u.f.k,.int .i64 u.f.n,.int .i64 u.f.mn,.int .i64 u.f.mx,.slice u.f.rq u.f.rs.length u.f.rc,.slice u.f.kq u.f.kl u.f.kc] 25)) (by have:=bW hin;have:=HM.out;omega)
      (by rw [r8,t4,<- pV hu];exact pU HPRE.out (zE _)) (HTA.out.kid hin) (HC.out.trans (CK.of_below B4.out)) (hJ.alloc _ HJ.out) (by simp;omega) (o0 HS.out B4.out.size))
     have e1:((((t,j) :: p).length:Nat):Int)+1=((p.length:Int)+1)+1:=by simp
     rw [e1] at IHU
     clear hsix hu
     gi_wp2
     refine⟨(fun z=>by cases z),(callsIn_wide.2 (callsIn_wide.1 IHU.out)).mono ?_⟩
     rintro e W5 ⟨r5,rfl,h5⟩
     have H5:=aA h5
     clear h5 c0 c1 c2 c3 c4 c5 d0 d1 d2 d3 d4 d5 IHU N4 B4
     cases r5 with
     | true=>
      rcases H5.out with⟨-,h51,h52,h53⟩ | ⟨z,-⟩
      ·have HN:Hid (J (pre++(p,t) :: pps t p 0 (t.ks.take (j+1))) W5):=(by rw [pV HU.out,<- t4,<- r8];exact h51)
       have H52:=aA h52
       have H53:=aA h53
       clear h51 h52 h53 H5
       gi_wp2
       go_roundw
       case rel=>exact⟨j+1,by omega,by go_num,HN.out,H52.out,H53.out⟩
       case measure=>simp only [intOf];omega
      ·cases z
     | false=>
      rcases H5.out with⟨z,-⟩ | ⟨-,pre',h51,h52⟩
      ·cases z
      ·have HN:=aA (⟨pre',h51,h52⟩:∃ pre',pre' <+: L/\Jx pre' W5)
       clear H5 h51 h52
       gi_wp2
       go_ret
       exact⟨false,rfl,.inr ⟨rfl,HN.out⟩⟩
    ·have e0:¬ (j:Int)<(t.ks.length:Int):=by omega
     have HN:Hid (J (pre++pp p t) wr):=(by rw [bX,show t.ks=t.ks.take j by rw [o4 (by omega)]];exact HJ.out)
     gi_wp2
     go_ret
     exact⟨true,rfl,.inl ⟨rfl,HN.out,HC.out,HS.out⟩⟩
  ·have HN:=aA hJx3
   clear hJx3
   gi_wp2
   go_ret
   exact⟨false,rfl,.inr ⟨rfl,_,pU HPRE.out List.nil_prefix,HN.out⟩⟩
theorem sM(f:Fl)(w:World) :
  Calls Tryz.prog 38 #[.agg #[.int .i64 f.k,.int .i64 f.n,.int .i64 f.mn,.int .i64 f.mx,.slice f.rq f.rs.length f.rc,.slice f.kq f.kl f.kc]] w fun e w'=>e=.returned (.func (.func 60) #[] #[.pointer (some ⟨w.heap.size,0,none⟩)])/\w'=w.alloc (.cells #[.int .i64 f.k,.int .i64 f.n,.int .i64 f.mn,.int .i64 f.mx,.slice f.rq f.rs.length f.rc,.slice f.kq f.kl f.kc] 25):=by
 go_enter Tryz.func38,Tryz.ntmps38
 go_wp2
 go_ret
 exact⟨rfl,rfl⟩
def aU5(t:Tr)(pre:List El)(x:El)(_:World):Prop:=pre++[x] <+: pp [] t
theorem uM(n:Nat){w0 w:World}{b:Nat}{t:Tr}(hB:BoxN w b t.f)(hta:TB w0 t)(hck:CK w0 w) :
  bF5 n Tryz.prog 60 #[.pointer (some ⟨b,0,none⟩)] aS5 (Nn w0.heap.size w.heap.size) (aU5 t) (fun xs=>xs=pp [] t) (fun pre=>pre <+: pp [] t) w:=by
 intro l J Jx V hV hJ hJx hb hY h0
 have hfn:∀ f,Fence.wide.fn f:=fun _=>trivial
 have D:=aA (bM9 (w0:=w0) (L:=pp [] t) (b1:=w.heap.size) (Jx:=Jx) hJ n hb (fun pre x V=>hY pre x V) t.sz t [] [] V lz9 (by rw [aAI];exact List.prefix_refl _) hta (hck.step ⟨hV.size,fun k _ _ _ _ hc=>(hV.block k (aC hc)).trans hc⟩) h0 lz9 hV.size)
 have HB:Hid (BoxN V b t.f):=(hV.block _ (aC hB)).trans hB
 obtain⟨c0,c1,c2,c3,c4,c5⟩:=HB.out.six
 simp only [m7] at c1 c2 c3 c4 c5
 clear hJ hJx hb hY h0 hB hta hck hV
 refine callsIn_of_wp Tryz.func60 rfl trivial ?_ rfl
 simp only [Tryz.ntmps60,aBT,o7,List.length_nil,Nat.reduceAdd,Nat.reduceSub,Array.replicate_succ,Array.replicate_zero,List.push_toArray,List.append_toArray,aAI,t4]
 gi_wp2
 refine⟨(fun z=>by cases z),(callsIn_wide.2 (callsIn_wide.1 D.out)).mono ?_⟩
 rintro e W5 ⟨r5,rfl,h5⟩
 have H5:=aA h5
 clear h5 D
 gi_wp2
 go_end0
 refine⟨⟨_,rfl⟩,?_⟩
 rcases H5.out with⟨-,h51,-,-⟩ | ⟨-,pre',h51,h52⟩
 ·exact .inl ⟨_,rfl,by rw [aAI] at h51;exact h51⟩
 ·exact .inr ⟨pre',h51,h52⟩
theorem bN2{w0 W W':World}{B:Nat}{row:Option Nat}(h:CK w0 W)(hg:W.grownBy W' row)(hr:∀ r,row=some r->B<=r/\∃ o:Obj,W.heap[r]?=some o/\o.isCells=false):CK w0 W':=
 ⟨o0 h.size hg.size,fun k cur t fr hk hc=>eD hg hr (h.same k cur t fr hk hc)⟩
def fT(a:Act)(q d:Nat)(x:El):Act:={ tmps:=(a.tmps.setIfInBounds q (.int .i64 ((x.1.length:Int)+1))).setIfInBounds d (.agg #[.int .i64 x.2.f.k,.int .i64 x.2.f.n,.int .i64 x.2.f.mn,.int .i64 x.2.f.mx,.slice x.2.f.rq x.2.f.rs.length x.2.f.rc,.slice x.2.f.kq x.2.f.kl x.2.f.kc]),defers:=[] }
def iX(a:Act)(D:Nat):Act:={ a with defers:={ target:=.collected D,args:=#[] } :: a.defers }
theorem xB{g:Operand}{ps:Array Tmp}{assign body:Code}{Q:Exit->Act->World->Prop}{a:Act}{w:World}{n:Nat}(hn:1<=n)(q d:Nat)(b:Nat){w0:World}{t:Tr}
  (hg:a.eval g=.func (.func 60) #[] #[.pointer (some ⟨b,0,none⟩)]) (hps:ps=#[q,d]) (hB:BoxN w b t.f) (hta:TB w0 t) (hck:CK w0 w)
  (I:List El->World->Prop) (Ix:Code->List El->World->Prop) (hI:OwnFrom w.heap.size I) (hIx:∀ c,OwnFrom w.heap.size (Ix c)) (hbd:∀ pre W,I pre W->pre.length<=1000000) (h0:I [] w)
  (Ax:Act->El->Act->World->Prop) (hAx:∀ y x a',OwnFrom w.heap.size (fun (_:Unit) W=>Ax y x a' W))
  (hassign:∀ (l:Nat) (pre:List El) (x:El) (W:World) (K:Act->World->Prop),I pre W->CK w0 W->w.heap.size<=W.heap.size->aU5 t pre x W->(∀ a' W',Below W.heap.size W W'->Ax (fT a q d x) x a' W'->K a' W') ->
   assign.wpIn (Fence.wide.inRound l) (n-1-1) Tryz.prog (Exit.then K (fun _ _ _=>False)) (fT a q d x) W)
  (hbody:∀ (l:Nat) (pre:List El) (x:El) (a':Act) (V:World),I pre V->CK w0 V->w.heap.size<=V.heap.size->aU5 t pre x V->Ax (fT a q d x) x a' V->body.wpIn (Fence.wide.inRound l) (n-1-1) Tryz.prog (ownPostG w.heap.size (CKeep (Nn w0.heap.size w.heap.size)) I Ix (pre++[x]) V) a' V)
  (hdone:∀ (D:Nat) (V:World),w.heap.size<=D->I (pp [] t) V->CK w0 V->V.heap[D]?=some (.deferred (some []))->Q .normal (iX a D) V)
  (hstop:∀ (D:Nat) (c:Code) (pre:List El) (V:World),w.heap.size<=D->pre <+: pp [] t->Ix c pre V->V.heap[D]?=some (.deferred (some []))->c.wpIn Fence.wide n Tryz.prog Q (iX a D) V) :
  (Code.rangeFunc g ps assign body).wpIn Fence.wide n Tryz.prog Q a w:=by
 subst hps
 refine wZ (α:=El) hn (gf:=60) hg (enters_of Tryz.func60 (by kernel_rfl) rfl) (encs:=aS5) (fun _=>rfl)
  (uM (n-1) hB hta hck) (fun pre V=>I pre V/\CK w0 V/\w.heap.size<=V.heap.size) Ix ?_ hIx (fun pre x _ _ _ _ h _ _=>h) (fun pre W h=>hbd pre W h.1) ⟨h0,hck,t8 _⟩ (fun x=>Ax (fT a q d x) x) (fun x=>hAx _ x) ?_ ?_ ?_ hstop
 ·intro pre A A' row hi hg hr
  exact⟨hI pre A A' row hi.1 hg hr,bN2 hi.2.1 hg hr,o0 hi.2.2 hg.size⟩
 ·intro l pre x V K hi ht hK
  have:=hassign l pre x V K hi.1 hi.2.1 hi.2.2 ht hK
  simpa [aS5,fT] using this
 ·intro l pre x a' V hi ht hax
  refine wpIn_mono (hbody l pre x a' V hi.1 hi.2.1 hi.2.2 ht hax) fun e a3 W3 hp=>?_
  cases e with
  | normal=>exact⟨hp.1,hp.2.1,hp.2.2,hi.2.1.step ⟨hp.2.1.size,fun k cur ty fr hk hc=>hp.2.1.same k cur ty fr (.inl hk) hc⟩,o0 hi.2.2 hp.1.size⟩
  | ret=>exact hp
  | exit id=>exact hp
  | goto t=>exact hp
  | panic ch=>exact hp
  | outgrown=>exact hp
 ·rintro D xs V hD rfl hi hK
  exact hdone D V hD hi.1 hi.2.1 hK
def Ax0(y:Act)(_:El)(a':Act)(_:World):Prop:=a'=y
theorem bD0(B:Nat)(y:Act)(x:El)(a':Act):OwnFrom B (fun (_:Unit) W=>Ax0 y x a' W):=fun _ _ _ _ h _ _=>h
end
section
open Go Go.RowKit Go.Shelf
attribute [local go_sem] Oper.semAt_some
def BoxI(W:World)(b:Nat)(x:Int):Prop:=W.heap[b]?=some (.cells #[.int .i64 x] 3 (0,0))
theorem BoxI.cell{W:World}{b:Nat}{x:Int}(h:BoxI W b x):W.cell? ⟨b,0,none⟩=some (.int .i64 x):=aB h (i:=0) rfl
theorem BoxI.row{W W':World}{b B:Nat}{x:Int}{row:Option Nat}(h:BoxI W b x)(hg:W.grownBy W' row)(hr:∀ r,row=some r->B<=r/\∃ o:Obj,W.heap[r]?=some o/\o.isCells=false):BoxI W' b x:=eD hg hr h
theorem BoxI.set{W:World}{b:Nat}{x:Int}(h:BoxI W b x)(y:Int):BoxI (W.setCell ⟨b,0,none⟩ (.int .i64 y)) b y:=aJ h 0 _
theorem BoxI.fr{W:World}{b:Nat}(v:Value):Fr (fun z=>z=b) W (W.setCell ⟨b,0,none⟩ v):=(Fr.refl (fun z=>z=b) W).setCell (p:=⟨b,0,none⟩) rfl _
def gA(t:Tr):Nat:=min (pp [] t).length 2001
theorem iG{n B:Nat}{w W W':World}{row:Option Nat}(h:Below n w W)(hn:n<=w.heap.size)(hB:n<=B)(hg:W.grownBy W' row)(hr:∀ r,row=some r->B<=r/\∃ o:Obj,W.heap[r]?=some o/\o.isCells=false):Below n w W':=
 h.trans ⟨hg.os,hg.tape,hg.output,hg.size,fun k hk=>hg.block k (by have:=h.size;omega) (fun e=>by have:=(hr k e.symm).1;omega)⟩
theorem nD{n:Nat}{w W:World}{D:Nat}(o:Obj)(h:Below n w W)(hD:n<=D):Below n w (W.putObj D o):=
 h.trans ⟨rfl,rfl,rfl,(grownBy_putObj' W D o).size,fun k hk=>World.putObj_heap_other (by omega)⟩
theorem bN0(n:Nat)(hn:3<=n){w:World}{t:Tr}(hta:TB w t) :
  CallsIn Fence.wide n Tryz.prog 98 #[.agg #[.int .i64 t.f.k,.int .i64 t.f.n,.int .i64 t.f.mn,.int .i64 t.f.mx,.slice t.f.rq t.f.rs.length t.f.rc,.slice t.f.kq t.f.kl t.f.kc]] w fun e w'=>e=.returned (.int .i64 (gA t:Int))/\Below w.heap.size w w':=by
 have hfn:∀ f,Fence.wide.fn f:=fun _=>trivial
 refine callsIn_of_wp_marks Tryz.func98 rfl trivial ?_ rfl
 simp only [Tryz.ntmps98,aBT,o7,List.length_nil,Nat.reduceAdd,Nat.reduceSub,Array.replicate_succ,Array.replicate_zero,List.push_toArray,List.append_toArray,aAI,t4]
 refine wpIn_wide.2 ?_
 have HTA:=aA hta
 have B1:Hid (Below w.heap.size w ((w.alloc (.cells #[.int .i64 t.f.k,.int .i64 t.f.n,.int .i64 t.f.mn,.int .i64 t.f.mx,.slice t.f.rq t.f.rs.length t.f.rc,.slice t.f.kq t.f.kl t.f.kc] 25)).alloc (.cells #[.int .i64 0] 3))):=(bz9).alloc (by simp) _
 have N1:Hid (BoxN ((w.alloc (.cells #[.int .i64 t.f.k,.int .i64 t.f.n,.int .i64 t.f.mn,.int .i64 t.f.mx,.slice t.f.rq t.f.rs.length t.f.rc,.slice t.f.kq t.f.kl t.f.kc] 25)).alloc (.cells #[.int .i64 0] 3)) w.heap.size t.f):=(Below.heap_alloc _ _ _ (by simp)).trans (aD w _)
 have N2:Hid (BoxI ((w.alloc (.cells #[.int .i64 t.f.k,.int .i64 t.f.n,.int .i64 t.f.mn,.int .i64 t.f.mx,.slice t.f.rq t.f.rs.length t.f.rc,.slice t.f.kq t.f.kl t.f.kc] 25)).alloc (.cells #[.int .i64 0] 3)) (w.heap.size+1) 0):=(by
  have:=aD (w.alloc (.cells #[.int .i64 t.f.k,.int .i64 t.f.n,.int .i64 t.f.mn,.int .i64 t.f.mx,.slice t.f.rq t.f.rs.length t.f.rc,.slice t.f.kq t.f.kl t.f.kc] 25)) (.cells #[.int .i64 0] 3)
  rwa [v9] at this)
 obtain⟨c0,c1,c2,c3,c4,c5⟩:=N1.out.six
 simp only [m7] at c1 c2 c3 c4 c5
 go_wp2_with (go_at_call 38;(with_reducible refine(sM _ _).mono ?_);rintro e w3 ⟨rfl,rfl⟩)
 have N3:BoxN (((w.alloc (.cells #[.int .i64 t.f.k,.int .i64 t.f.n,.int .i64 t.f.mn,.int .i64 t.f.mx,.slice t.f.rq t.f.rs.length t.f.rc,.slice t.f.kq t.f.kl t.f.kc] 25)).alloc (.cells #[.int .i64 0] 3)).alloc (.cells #[.int .i64 t.f.k,.int .i64 t.f.n,.int .i64 t.f.mn,.int .i64 t.f.mx,.slice t.f.rq t.f.rs.length t.f.rc,.slice t.f.kq t.f.kl t.f.kc] 25)) (w.heap.size+1+1) t.f:=(by
  have:=aD ((w.alloc (.cells #[.int .i64 t.f.k,.int .i64 t.f.n,.int .i64 t.f.mn,.int .i64 t.f.mx,.slice t.f.rq t.f.rs.length t.f.rc,.slice t.f.kq t.f.kl t.f.kc] 25)).alloc (.cells #[.int .i64 0] 3)) (.cells #[.int .i64 t.f.k,.int .i64 t.f.n,.int .i64 t.f.mn,.int .i64 t.f.mx,.slice t.f.rq t.f.rs.length t.f.rc,.slice t.f.kq t.f.kl t.f.kc] 25)
  rwa [v9,v9] at this)
 have I3:BoxI (((w.alloc (.cells #[.int .i64 t.f.k,.int .i64 t.f.n,.int .i64 t.f.mn,.int .i64 t.f.mx,.slice t.f.rq t.f.rs.length t.f.rc,.slice t.f.kq t.f.kl t.f.kc] 25)).alloc (.cells #[.int .i64 0] 3)).alloc (.cells #[.int .i64 t.f.k,.int .i64 t.f.n,.int .i64 t.f.mn,.int .i64 t.f.mx,.slice t.f.rq t.f.rs.length t.f.rc,.slice t.f.kq t.f.kl t.f.kc] 25)) (w.heap.size+1) 0:=(Below.heap_alloc _ _ _ (by simp)).trans N2.out
 have B3:Below w.heap.size w (((w.alloc (.cells #[.int .i64 t.f.k,.int .i64 t.f.n,.int .i64 t.f.mn,.int .i64 t.f.mx,.slice t.f.rq t.f.rs.length t.f.rc,.slice t.f.kq t.f.kl t.f.kc] 25)).alloc (.cells #[.int .i64 0] 3)).alloc (.cells #[.int .i64 t.f.k,.int .i64 t.f.n,.int .i64 t.f.mn,.int .i64 t.f.mx,.slice t.f.rq t.f.rs.length t.f.rc,.slice t.f.kq t.f.kl t.f.kc] 25)):=B1.out.alloc (by simp;omega) _
 generalize (((w.alloc (.cells #[.int .i64 t.f.k,.int .i64 t.f.n,.int .i64 t.f.mn,.int .i64 t.f.mx,.slice t.f.rq t.f.rs.length t.f.rc,.slice t.f.kq t.f.kl t.f.kc] 25)).alloc (.cells #[.int .i64 0] 3)).alloc (.cells #[.int .i64 t.f.k,.int .i64 t.f.n,.int .i64 t.f.mn,.int .i64 t.f.mx,.slice t.f.rq t.f.rs.length t.f.rc,.slice t.f.kq t.f.kl t.f.kc] 25))=w4 at N3 I3 B3 ⊢
 have L3:=aC N3
 have L4:=aC I3
 obtain⟨bi,hbi⟩:∃ bi,w.heap.size+1=bi:=⟨_,rfl⟩
 rw [hbi] at I3 N3 L3 L4 ⊢
 obtain⟨bn,hbn⟩:∃ bn,bi+1=bn:=⟨_,rfl⟩
 rw [hbn] at N3 L3 ⊢
 have hwi:w.heap.size<=bi:=by omega
 clear N1 N2 B1 c0 c1 c2 c3 c4 c5 hbi hbn
 refine(wpIn_wide (n:=n)).1 ?_
 refine xB (by omega) 6 7 bn rfl rfl N3 HTA.out (CK.of_below B3) (fun pre V=>BoxI V bi (pre.length:Int)/\pre.length<=2000/\Below w.heap.size w V) (fun c pre V=>c=.exit 0/\BoxI V bi 2001/\pre.length=2001/\Below w.heap.size w V)
  ?_ ?_ (fun pre W h=>by omega) ⟨I3,by simp,B3⟩ Ax0 (bD0 _) ?_ ?_ ?_ ?_
 ·rintro pre A A' row ⟨h1,h2,h3⟩ hg hr
  exact⟨h1.row hg hr,h2,iG h3 lz9 B3.size hg hr⟩
 ·rintro c pre A A' row ⟨h0,h1,h2,h3⟩ hg hr
  exact⟨h0,h1.row hg hr,h2,iG h3 lz9 B3.size hg hr⟩
 ·intro l pre x V K _ _ _ _ hK
  gi_wp2
  exact hK _ _ (Below.refl _ _) rfl
 ·rintro l pre x a' V ⟨h1,h2,h3⟩ hck hsz ht rfl
  have H1:=aA h1
  have H3:=aA h3
  have k0:=h1.cell
  have fz:=aK h1 0
  have HS:=aA hsz
  clear h1 h3 hck ht hsz
  have F1:Hid (Fr (fun z=>z=bi) V (V.setCell ⟨bi,0,none⟩ (.int .i64 ((pre.length:Int)+1)))):=BoxI.fr _
  have X1:Hid (BoxI (V.setCell ⟨bi,0,none⟩ (.int .i64 ((pre.length:Int)+1))) bi ((pre.length:Int)+1)):=H1.out.set _
  have HP:Hid (KeepsFrom w4.heap.size V (V.setCell ⟨bi,0,none⟩ (.int .i64 ((pre.length:Int)+1)))/\CKeep (Nn w.heap.size w4.heap.size) V (V.setCell ⟨bi,0,none⟩ (.int .i64 ((pre.length:Int)+1)))/\Below w.heap.size w (V.setCell ⟨bi,0,none⟩ (.int .i64 ((pre.length:Int)+1)))):=
   ⟨F1.out.keepsFrom (fun k hk=>by omega),F1.out.ckeep (fun k hk=>by rintro (z | z) <;> omega),bB H3.out F1.out lz9 (fun k e=>by omega)⟩
  have k1:=X1.out.cell
  simp only [fT]
  by_cases hlt:2000<=pre.length
  ·have e1:(2000:Int)<(pre.length:Int)+1:=by omega
   gi_wp2
   refine⟨HP.out.1,rfl,by have:=X1.out;rwa [show (pre.length:Int)+1=2001 by omega] at this ⊢,by simp;omega,HP.out.2.2⟩
  ·have e1:¬ (2000:Int)<(pre.length:Int)+1:=by omega
   gi_wp2
   refine⟨HP.out.1,HP.out.2.1,by simpa using X1.out,by simp;omega,HP.out.2.2⟩
 ·rintro D V hD ⟨h1,h2,h3⟩ hck hK
  have k0:=h1.cell
  have e1:gA t=(pp [] t).length:=by unfold gA;omega
  have H3:=aA h3
  have HK:=aA hK
  have HD:=aA hD
  simp only [iX]
  go_wp2
  refine⟨by simp,.inl ⟨_,_,rfl,run_takeDeferred HK.out,?_⟩⟩
  refine⟨.int .i64 (gA t:Int),by simp [results,Tryz.results98,go_sem,e1],rfl,nD _ H3.out (o0 B3.size HD.out)⟩
 ·rintro D c pre V hD hpre ⟨rfl,h1,h2,h3⟩ hK
  have k0:=h1.cell
  have e1:gA t=2001:=by unfold gA;have:=hpre.length_le;omega
  have H3:=aA h3
  have HK:=aA hK
  have HD:=aA hD
  refine(wpIn_wide (n:=n)).2 ?_
  simp only [iX]
  go_wp2
  refine⟨by simp,.inl ⟨_,_,rfl,run_takeDeferred HK.out,?_⟩⟩
  refine⟨.int .i64 (gA t:Int),by simp [results,Tryz.results98,go_sem,e1],rfl,nD _ H3.out (o0 B3.size HD.out)⟩
theorem bP4{w:World}{t:Tr}(hta:TB w t):Calls Tryz.prog 98 #[.agg #[.int .i64 t.f.k,.int .i64 t.f.n,.int .i64 t.f.mn,.int .i64 t.f.mx,.slice t.f.rq t.f.rs.length t.f.rc,.slice t.f.kq t.f.kl t.f.kc]] w fun e w'=>e=.returned (.int .i64 (gA t:Int))/\Below w.heap.size w w':=callsIn_wide.1 (bN0 3 (by decide) hta)
theorem nI{w:World}{t:Tr}(hta:TB w t):Calls Tryz.prog 86 #[.agg #[.int .i64 t.f.k,.int .i64 t.f.n,.int .i64 t.f.mn,.int .i64 t.f.mx,.slice t.f.rq t.f.rs.length t.f.rc,.slice t.f.kq t.f.kl t.f.kc]] w fun e w'=>e=.returned (.bool (decide (2000<(pp [] t).length)))/\Below w.heap.size w w':=by
 have HTA:=aA hta
 have B1:Hid (Below w.heap.size w (w.alloc (.cells #[.int .i64 t.f.k,.int .i64 t.f.n,.int .i64 t.f.mn,.int .i64 t.f.mx,.slice t.f.rq t.f.rs.length t.f.rc,.slice t.f.kq t.f.kl t.f.kc] 25))):=bz9
 have N1:Hid (BoxN (w.alloc (.cells #[.int .i64 t.f.k,.int .i64 t.f.n,.int .i64 t.f.mn,.int .i64 t.f.mx,.slice t.f.rq t.f.rs.length t.f.rc,.slice t.f.kq t.f.kl t.f.kc] 25)) w.heap.size t.f):=aD w _
 obtain⟨c0,c1,c2,c3,c4,c5⟩:=N1.out.six
 simp only [m7] at c1 c2 c3 c4 c5
 have e1:(decide ((2000:Int)<(gA t:Int)))=decide (2000<(pp [] t).length):=by
  rw [decide_eq_decide]
  unfold gA
  omega
 clear hta
 go_enter Tryz.func86,Tryz.ntmps86
 go_wp2_with (go_at_call 98;(with_reducible refine(bP4 (HTA.out.kept B1.out)).mono ?_);rintro e w3 ⟨rfl,h3⟩;have B3:Hid (Below w.heap.size w w3):=aG B1.out h3 lz9;clear h3)
 go_ret
 exact⟨by rw [<- e1];rfl,B3.out⟩
end
structure dF where
 f:Fl
 s:Int
def Seven(W:World)(g o:Nat)(x:dF):Prop:=Six W g o x.f/\W.cell? ⟨g,o+6,none⟩=some (.int .i64 x.s)
structure CB(W:World)(b:Nat)(c f:Bool)(ah gr:Int)(A:Nat->dF):Prop where
 blk:∃ cur,W.heap[b]?=some (.cells cur 83 (0,0))
 c0:W.cell? ⟨b,0,none⟩=some (.bool c)
 c1:W.cell? ⟨b,1,none⟩=some (.bool f)
 c2:W.cell? ⟨b,2,none⟩=some (.int .i64 ah)
 c3:W.cell? ⟨b,3,none⟩=some (.int .i64 gr)
 sp:∀ d,d<41->Seven W b (4+d*7) (A d)
theorem CB.lt{W:World}{b:Nat}{c f:Bool}{ah gr:Int}{A:Nat->dF}(h:CB W b c f ah gr A):b<W.heap.size:=by
 obtain⟨cur,h⟩:=h.blk
 exact aC h
theorem CB.ck{N:Nat->Prop}{W W':World}{b:Nat}{c f:Bool}{ah gr:Int}{A:Nat->dF}(h:CB W b c f ah gr A)(hk:CKeep N W W')(hb:N b):CB W' b c f ah gr A:=by
 obtain⟨cur,hc⟩:=h.blk
 exact⟨⟨cur,hk.same _ _ _ _ hb hc⟩,cO hk (p:=⟨b,0,none⟩) hb h.c0,cO hk (p:=⟨b,1,none⟩) hb h.c1,cO hk (p:=⟨b,2,none⟩) hb h.c2,cO hk (p:=⟨b,3,none⟩) hb h.c3,fun d hd=>⟨(h.sp d hd).1.ck hk hb,cO hk (p:=⟨b,4+d*7+6,none⟩) hb (h.sp d hd).2⟩⟩
theorem CB.kept{W W':World}{b:Nat}{c f:Bool}{ah gr:Int}{A:Nat->dF}(h:CB W b c f ah gr A)(hb:Below W.heap.size W W'):CB W' b c f ah gr A:=h.ck (CK.of_below hb) h.lt
theorem CB.row{W W':World}{b B:Nat}{c f:Bool}{ah gr:Int}{A:Nat->dF}{row:Option Nat}(h:CB W b c f ah gr A)(hg:W.grownBy W' row)(hr:∀ r,row=some r->B<=r/\∃ o:Obj,W.heap[r]?=some o/\o.isCells=false):CB W' b c f ah gr A:=
 h.ck (N:=fun _=>True) ⟨hg.size,fun _ _ _ _ _ hc=>eD hg hr hc⟩ trivial
theorem bK2{b i j:Nat}(h:i≠j):(⟨b,i,none⟩:Addr)≠⟨b,j,none⟩:=fun e=>h (by injection e)
theorem aE{W:World}{b i j:Nat}{u v:Value}(h:W.cell? ⟨b,i,none⟩=some v)(hij:i≠j):(W.setCell ⟨b,j,none⟩ u).cell? ⟨b,i,none⟩=some v:=by
 rw [World.cell?_setCell_other]
 ·exact h
 ·exact bK2 hij.symm
theorem Six.off{W:World}{b o j:Nat}{u:Value}{f:Fl}(h:Six W b o f)(hj:j<o\/o+6<=j):Six (W.setCell ⟨b,j,none⟩ u) b o f:=
 ⟨aE h.1 (by omega),aE h.2.1 (by omega),aE h.2.2.1 (by omega),aE h.2.2.2.1 (by omega),aE h.2.2.2.2.1 (by omega),aE h.2.2.2.2.2 (by omega)⟩
theorem cR{W:World}{b:Nat}{t:TypeId}(h:∃ cur,W.heap[b]?=some (.cells cur t (0,0)))(j:Nat)(u:Value):∃ cur,(W.setCell ⟨b,j,none⟩ u).heap[b]?=some (.cells cur t (0,0)):=by
 obtain⟨cur,hc⟩:=h
 exact⟨_,aJ hc j u⟩
theorem Seven.off{W:World}{b o j:Nat}{u:Value}{x:dF}(h:Seven W b o x)(hj:j<o\/o+7<=j):Seven (W.setCell ⟨b,j,none⟩ u) b o x:=
 ⟨h.1.off (by omega),aE h.2 (by omega)⟩
theorem CB.setAh{W:World}{b:Nat}{c f:Bool}{ah gr:Int}{A:Nat->dF}(h:CB W b c f ah gr A)(x:Int):CB (W.setCell ⟨b,2,none⟩ (.int .i64 x)) b c f x gr A:=
 ⟨cR h.blk _ _,aE h.c0 (by omega),aE h.c1 (by omega),s8 _ _ _ h.c2,aE h.c3 (by omega),fun d hd=>(h.sp d hd).off (by omega)⟩
theorem CB.setGr{W:World}{b:Nat}{c f:Bool}{ah gr:Int}{A:Nat->dF}(h:CB W b c f ah gr A)(x:Int):CB (W.setCell ⟨b,3,none⟩ (.int .i64 x)) b c f ah x A:=
 ⟨cR h.blk _ _,aE h.c0 (by omega),aE h.c1 (by omega),aE h.c2 (by omega),s8 _ _ _ h.c3,fun d hd=>(h.sp d hd).off (by omega)⟩
def nL(A:Nat->dF)(d:Nat)(x:dF):Nat->dF:=fun i=>if i=d then x else A i
theorem CB.setSeen{W:World}{b:Nat}{c f:Bool}{ah gr:Int}{A:Nat->dF}(h:CB W b c f ah gr A){d:Nat}(hd:d<41)(x:Int):CB (W.setCell ⟨b,4+d*7+6,none⟩ (.int .i64 x)) b c f ah gr (nL A d ⟨(A d).f,x⟩):=
 ⟨cR h.blk _ _,aE h.c0 (by omega),aE h.c1 (by omega),aE h.c2 (by omega),aE h.c3 (by omega),fun i hi=>by
  unfold nL
  by_cases e:i=d
  ·subst e
   rw [if_pos rfl]
   exact⟨(h.sp i hi).1.off (by omega),s8 _ _ _ (h.sp i hi).2⟩
  ·rw [if_neg e]
   exact(h.sp i hi).off (by omega)⟩
def jJ(W:World)(b o:Nat)(x:dF):World:=
 ((((((W.setCell ⟨b,o,none⟩ (.int .i64 x.f.k)).setCell ⟨b,o+1,none⟩ (.int .i64 x.f.n)).setCell ⟨b,o+2,none⟩ (.int .i64 x.f.mn)).setCell ⟨b,o+3,none⟩ (.int .i64 x.f.mx)).setCell ⟨b,o+4,none⟩ (.slice x.f.rq x.f.rs.length x.f.rc)).setCell ⟨b,o+5,none⟩ (.slice x.f.kq x.f.kl x.f.kc)).setCell ⟨b,o+6,none⟩ (.int .i64 x.s)
theorem CB.setSpot{W:World}{b:Nat}{c f:Bool}{ah gr:Int}{A:Nat->dF}(h:CB W b c f ah gr A){d:Nat}(hd:d<41)(x:dF):CB (jJ W b (4+d*7) x) b c f ah gr (nL A d x):=by
 have off:∀ {i:Nat} {v:Value},W.cell? ⟨b,i,none⟩=some v->(i<4+d*7\/4+d*7+7<=i)->(jJ W b (4+d*7) x).cell? ⟨b,i,none⟩=some v:=by
  intro i v hv hi
  unfold jJ
  exact aE (aE (aE (aE (aE (aE (aE hv (by omega)) (by omega)) (by omega)) (by omega)) (by omega)) (by omega)) (by omega)
 refine⟨?_,off h.c0 (by omega),off h.c1 (by omega),off h.c2 (by omega),off h.c3 (by omega),fun i hi=>?_⟩
 ·unfold jJ
  exact cR (cR (cR (cR (cR (cR (cR h.blk _ _) _ _) _ _) _ _) _ _) _ _) _ _
 ·unfold nL
  by_cases e:i=d
  ·subst e
   rw [if_pos rfl]
   obtain⟨⟨k0,k1,k2,k3,k4,k5⟩,k6⟩:=h.sp i hi
   unfold jJ
   refine⟨⟨?_,?_,?_,?_,?_,?_⟩,?_⟩
   ·exact aE (aE (aE (aE (aE (aE (s8 _ _ _ k0) (by omega)) (by omega)) (by omega)) (by omega)) (by omega)) (by omega)
   ·exact aE (aE (aE (aE (aE (s8 _ _ _ (aE k1 (by omega))) (by omega)) (by omega)) (by omega)) (by omega)) (by omega)
   ·exact aE (aE (aE (aE (s8 _ _ _ (aE (aE k2 (by omega)) (by omega))) (by omega)) (by omega)) (by omega)) (by omega)
   ·exact aE (aE (aE (s8 _ _ _ (aE (aE (aE k3 (by omega)) (by omega)) (by omega))) (by omega)) (by omega)) (by omega)
   ·exact aE (aE (s8 _ _ _ (aE (aE (aE (aE k4 (by omega)) (by omega)) (by omega)) (by omega))) (by omega)) (by omega)
   ·exact aE (s8 _ _ _ (aE (aE (aE (aE (aE k5 (by omega)) (by omega)) (by omega)) (by omega)) (by omega))) (by omega)
   ·exact s8 _ _ _ (aE (aE (aE (aE (aE (aE k6 (by omega)) (by omega)) (by omega)) (by omega)) (by omega)) (by omega))
  ·rw [if_neg e]
   obtain⟨⟨k0,k1,k2,k3,k4,k5⟩,k6⟩:=h.sp i hi
   exact⟨⟨off k0 (by omega),off k1 (by omega),off k2 (by omega),off k3 (by omega),off k4 (by omega),off k5 (by omega)⟩,off k6 (by omega)⟩
theorem zB(W:World)(b o:Nat)(x:dF):Fr (fun z=>z=b) W (jJ W b o x):=by
 unfold jJ
 exact(((((((Fr.refl (fun z=>z=b) W).setCell (p:=⟨b,o,none⟩) rfl _).setCell (p:=⟨b,o+1,none⟩) rfl _).setCell (p:=⟨b,o+2,none⟩) rfl _).setCell (p:=⟨b,o+3,none⟩) rfl _).setCell (p:=⟨b,o+4,none⟩) rfl _).setCell (p:=⟨b,o+5,none⟩) rfl _).setCell (p:=⟨b,o+6,none⟩) rfl _
section
attribute [local go_sem] aU
def cS(pk:Int)(seen:Int)(kl:Nat)(k:Int):Bool:=
 if pk=5 then bC k ||(k==3&&seen==0) ||(k==4&&seen==(kl:Int)-1)
 else if pk=9 then bC k
 else if pk=6 then cP k&&k != 6
 else cP k
theorem xX{w:World}{b:Nat}{c f:Bool}{ah gr:Int}{A:Nat->dF}(h:CB w b c f ah gr A){d:Nat}(hd:d<41)(k:Int)(hkl:(A d).f.kl<=9223372036854775807) :
  Calls Tryz.prog 62 #[.pointer (some ⟨b,0,none⟩),.int .i64 ((d:Int)+1),.int .i64 k] w fun e w'=>e=.returned (.bool (cS (A d).f.k (A d).s (A d).f.kl k))/\Below w.heap.size w w':=by
 obtain⟨⟨k0,k1,k2,k3,k4,k5⟩,k6⟩:=h.sp d hd
 have hlt:=h.lt
 have e1:((d:Int)+1)-1=(d:Int):=by omega
 have e2:(d:Int)<41:=by omega
 have B1:Hid (Below w.heap.size w (w.alloc (.cells #[.int .i64 (A d).f.k,.int .i64 (A d).f.n,.int .i64 (A d).f.mn,.int .i64 (A d).f.mx,.slice (A d).f.rq (A d).f.rs.length (A d).f.rc,.slice (A d).f.kq (A d).f.kl (A d).f.kc,.int .i64 (A d).s] 80))):=bz9
 have N1:=aD w (.cells #[.int .i64 (A d).f.k,.int .i64 (A d).f.n,.int .i64 (A d).f.mn,.int .i64 (A d).f.mx,.slice (A d).f.rq (A d).f.rs.length (A d).f.rc,.slice (A d).f.kq (A d).f.kl (A d).f.kc,.int .i64 (A d).s] 80)
 obtain⟨r,hr⟩:∃ r,cS (A d).f.k (A d).s (A d).f.kl k=r:=⟨_,rfl⟩
 rw [hr]
 have HR:=aA hr
 clear hr
 go_enter Tryz.func62,Tryz.ntmps62
 go_upto_region 2 with fail
 have m0:(w.alloc (.cells #[.int .i64 (A d).f.k,.int .i64 (A d).f.n,.int .i64 (A d).f.mn,.int .i64 (A d).f.mx,.slice (A d).f.rq (A d).f.rs.length (A d).f.rc,.slice (A d).f.kq (A d).f.kl (A d).f.kc,.int .i64 (A d).s] 80)).cell? ⟨w.heap.size,0,none⟩=some (.int .i64 (A d).f.k):=aB N1 (i:=0) rfl
 have m5:(w.alloc (.cells #[.int .i64 (A d).f.k,.int .i64 (A d).f.n,.int .i64 (A d).f.mn,.int .i64 (A d).f.mx,.slice (A d).f.rq (A d).f.rs.length (A d).f.rc,.slice (A d).f.kq (A d).f.kl (A d).f.kc,.int .i64 (A d).s] 80)).cell? ⟨w.heap.size,5,none⟩=some (.slice (A d).f.kq (A d).f.kl (A d).f.kc):=aB N1 (i:=5) rfl
 have m6:(w.alloc (.cells #[.int .i64 (A d).f.k,.int .i64 (A d).f.n,.int .i64 (A d).f.mn,.int .i64 (A d).f.mx,.slice (A d).f.rq (A d).f.rs.length (A d).f.rc,.slice (A d).f.kq (A d).f.kl (A d).f.kc,.int .i64 (A d).s] 80)).cell? ⟨w.heap.size,6,none⟩=some (.int .i64 (A d).s):=aB N1 (i:=6) rfl
 have hlw:=aC N1
 generalize (w.alloc (.cells #[.int .i64 (A d).f.k,.int .i64 (A d).f.n,.int .i64 (A d).f.mn,.int .i64 (A d).f.mx,.slice (A d).f.rq (A d).f.rs.length (A d).f.rc,.slice (A d).f.kq (A d).f.kl (A d).f.kc,.int .i64 (A d).s] 80))=W1 at B1 m0 m5 m6 hlw ⊢
 clear N1 k0 k1 k2 k3 k4 k5 k6 hlt e1 e2 h hd
 generalize (A d).f.k=pk at m0 HR ⊢
 generalize (A d).f.kl=kl at m5 HR hkl ⊢
 generalize (A d).s=se at m6 HR ⊢
 cases h5:(pk==5) with
 | true=>
  obtain rfl:pk=5:=by simpa using h5
  go_upto_region 4 with fail
  refine wx9 ?_
  repeat (go_big_quiet_step (first | exact rfl))
  refine wpQuiet_nil ?_
  intro w2 hw
  have B2:Hid (Below w.heap.size w w2):=aG B1.out (aM hw) lz9
  clear hw B1
  have RR0:r=(bC k ||(k==3&&se==0) ||(k==4&&se==(kl:Int)-1)):=by rw [<- HR.out];simp [cS]
  have HK:=aA (oD k)
  obtain⟨tb,htb⟩:∃ tb,bC k=tb:=⟨_,rfl⟩
  rw [htb] at HK RR0
  obtain⟨b1,hb1⟩:∃ b1,(se==0)=b1:=⟨_,rfl⟩
  obtain⟨b2,hb2⟩:∃ b2,(se==(kl:Int)-1)=b2:=⟨_,rfl⟩
  rw [hb1,hb2] at RR0
  rw [hb1,hb2]
  have RRX:=aA RR0
  clear htb hb1 hb2 m0 m5 m6 RR0
  cases tb
  ·cases h3:(k==3)
   ·cases h4:(k==4)
    ·go_wp2_with (go_at_call 82;(with_reducible refine(HK.out _).mono ?_);rintro e w5 ⟨rfl,h5⟩;subst w5)
     go_ret
     exact⟨by rw [RRX.out,h3,h4];rfl,B2.out⟩
    ·go_wp2_with (go_at_call 82;(with_reducible refine(HK.out _).mono ?_);rintro e w5 ⟨rfl,h5⟩;subst w5)
     go_ret
     exact⟨by rw [RRX.out,h3,h4];simp,B2.out⟩
   ·obtain rfl:k=3:=by simpa using h3
    cases b1
    all_goals
     go_wp2_with (go_at_call 82;(with_reducible refine(HK.out _).mono ?_);rintro e w5 ⟨rfl,h5⟩;subst w5)
     go_ret
     exact⟨by rw [RRX.out];rfl,B2.out⟩
  ·go_wp2_with (go_at_call 82;(with_reducible refine(HK.out _).mono ?_);rintro e w5 ⟨rfl,h5⟩;subst w5)
   go_ret
   exact⟨by rw [RRX.out];rfl,B2.out⟩
 | false=>
  cases h9:(pk==9) with
  | true=>
   obtain rfl:pk=9:=by simpa using h9
   go_wp2_with (go_at_call 82;(with_reducible refine(oD _ _).mono ?_);rintro e w5 ⟨rfl,h5⟩;subst w5)
   go_ret
   exact⟨by rw [<- HR.out];simp [cS],B1.out⟩
  | false=>
   cases h6:(pk==6) with
   | true=>
    obtain rfl:pk=6:=by simpa using h6
    obtain⟨kb,hkb⟩:∃ kb,cP k=kb:=⟨_,rfl⟩
    have HK:=aA (uZ k)
    rw [hkb] at HK
    have R2:r=(kb&&k != 6):=by rw [<- HR.out,<- hkb];simp [cS]
    clear hkb
    cases kb with
    | true=>
     go_wp2_with (go_at_call 83;(with_reducible refine(HK.out _).mono ?_);rintro e w5 ⟨rfl,h5⟩;subst w5)
     go_ret
     exact⟨by rw [R2,aCB];rfl,B1.out⟩
    | false=>
     go_wp2_with (go_at_call 83;(with_reducible refine(HK.out _).mono ?_);rintro e w5 ⟨rfl,h5⟩;subst w5)
     go_ret
     exact⟨by rw [R2,Bool.false_and];rfl,B1.out⟩
   | false=>
    have R2:cP k=r:=by rw [<- HR.out];simp at h5 h9 h6;simp [cS,h5,h9,h6]
    go_wp2_with (go_at_call 83;(with_reducible refine(uZ _ _).mono ?_);rintro e w5 ⟨rfl,h5⟩;subst w5)
    go_ret
    exact⟨by rw [<- R2];rfl,B1.out⟩
end
section
attribute [local go_sem] aU
def inB(A:Nat->dF)(d:Nat)(num:Int):Bool:=(List.range d).any fun i=>(A i).f.k==7&&(A i).f.n==num
theorem mQ(A:Nat->dF)(d:Nat)(num:Int):inB A (d+1) num=(inB A d num ||((A d).f.k==7&&(A d).f.n==num)):=by
 unfold inB
 rw [List.range_succ,List.any_append]
 simp
theorem bM0{A:Nat->dF}{d e:Nat}{num:Int}(h:inB A d num=true)(hde:d<=e):inB A e num=true:=by
 unfold inB at *
 rw [aAX] at *
 obtain⟨x,hx,h⟩:=h
 exact⟨x,by rw [aBW] at *;omega,h⟩
theorem yA{w:World}{b:Nat}{c f:Bool}{ah gr:Int}{A:Nat->dF}(h:CB w b c f ah gr A){d:Nat}(hd:d<=41)(num:Int) :
  Calls Tryz.prog 65 #[.pointer (some ⟨b,0,none⟩),.int .i64 (d:Int),.int .i64 num] w fun e w'=>e=.returned (.bool (!inB A d num&&decide (num<=gr)))/\Below w.heap.size w w':=by
 have H:=aA h
 have hlt:=h.lt
 have e2:(d:Int)<=41:=by omega
 obtain⟨r,hr⟩:∃ r,(!inB A d num&&decide (num<=gr))=r:=⟨_,rfl⟩
 rw [hr]
 have HR:=aA hr
 clear h hr
 go_enter Tryz.func65,Tryz.ntmps65
 go_wp2
 go_loopw [15] (fun i wr=>∃ j:Nat,j<=d/\i=.int .i64 (j:Int)/\inB A j num=false/\Below w.heap.size w wr) (fun i _=>d-(intOf i).toNat)
 case atStart=>exact⟨0,o9 _,rfl,rfl,Below.refl _ _⟩
 case round=>
  obtain⟨j,hj,rfl,hin,hb⟩:=hrel
  have HI:=aA hin
  have HB:=aA hb
  have H1:Hid (CB wr b c f ah gr A):=H.out.kept hb
  clear hin hb hlt
  have hlt:=H1.out.lt
  by_cases hjl:j<d
  ·have e0:(j:Int)<(d:Int):=by omega
   obtain⟨⟨k0,k1,k2,k3,k4,k5⟩,k6⟩:=H1.out.sp j (by omega)
   have B2:Hid (Below w.heap.size w (wr.alloc (.cells #[.int .i64 (A j).f.k,.int .i64 (A j).f.n,.int .i64 (A j).f.mn,.int .i64 (A j).f.mx,.slice (A j).f.rq (A j).f.rs.length (A j).f.rc,.slice (A j).f.kq (A j).f.kl (A j).f.kc,.int .i64 (A j).s] 80))):=HB.out.alloc HB.out.size _
   have N2:=aD wr (.cells #[.int .i64 (A j).f.k,.int .i64 (A j).f.n,.int .i64 (A j).f.mn,.int .i64 (A j).f.mx,.slice (A j).f.rq (A j).f.rs.length (A j).f.rc,.slice (A j).f.kq (A j).f.kl (A j).f.kc,.int .i64 (A j).s] 80)
   have m0:(wr.alloc (.cells #[.int .i64 (A j).f.k,.int .i64 (A j).f.n,.int .i64 (A j).f.mn,.int .i64 (A j).f.mx,.slice (A j).f.rq (A j).f.rs.length (A j).f.rc,.slice (A j).f.kq (A j).f.kl (A j).f.kc,.int .i64 (A j).s] 80)).cell? ⟨wr.heap.size,0,none⟩=some (.int .i64 (A j).f.k):=aB N2 (i:=0) rfl
   have m1:(wr.alloc (.cells #[.int .i64 (A j).f.k,.int .i64 (A j).f.n,.int .i64 (A j).f.mn,.int .i64 (A j).f.mx,.slice (A j).f.rq (A j).f.rs.length (A j).f.rc,.slice (A j).f.kq (A j).f.kl (A j).f.kc,.int .i64 (A j).s] 80)).cell? ⟨wr.heap.size,1,none⟩=some (.int .i64 (A j).f.n):=aB N2 (i:=1) rfl
   have HS:=aA (mQ A j num)
   clear N2
   go_upto_region 4 with fail
   generalize (wr.alloc (.cells #[.int .i64 (A j).f.k,.int .i64 (A j).f.n,.int .i64 (A j).f.mn,.int .i64 (A j).f.mx,.slice (A j).f.rq (A j).f.rs.length (A j).f.rc,.slice (A j).f.kq (A j).f.kl (A j).f.kc,.int .i64 (A j).s] 80))=W2 at B2 m0 m1 ⊢
   cases h7:((A j).f.k==7)
   ·have HN:Hid (inB A (j+1) num=false):=(by rw [HS.out,HI.out,h7];rfl)
    clear HS
    go_wp2
    go_roundw
    case rel=>exact⟨j+1,by omega,by go_num,HN.out,B2.out⟩
    case measure=>simp only [intOf];omega
   ·cases hn:((A j).f.n==num)
    ·have HN:Hid (inB A (j+1) num=false):=(by rw [HS.out,HI.out,h7,hn];rfl)
     clear HS
     go_wp2
     go_roundw
     case rel=>exact⟨j+1,by omega,by go_num,HN.out,B2.out⟩
     case measure=>simp only [intOf];omega
    ·have HN:Hid (inB A d num=true):=bM0 (d:=j+1) (by rw [HS.out,HI.out,h7,hn];rfl) (by omega)
     clear HS
     go_wp2
     go_ret
     exact⟨by rw [<- HR.out,HN.out];rfl,B2.out⟩
  ·have e0:¬ (j:Int)<(d:Int):=by omega
   obtain rfl:j=d:=by omega
   have k3:=H1.out.c3
   go_wp2
   go_ret
   exact⟨by rw [<- HR.out,HI.out];rfl,HB.out⟩
theorem CB.frz{W:World}{b:Nat}{c f:Bool}{ah gr:Int}{A:Nat->dF}(h:CB W b c f ah gr A)(j:Nat):W.frozen? ⟨b,j,none⟩=false:=by
 obtain⟨cur,hc⟩:=h.blk
 exact aK hc j
theorem oZ{W:World}{k b j:Nat}{f:Fl}{u:Value}(h:BoxN W k f)(hk:k≠b):BoxN (W.setCell ⟨b,j,none⟩ u) k f:=(((Fr.refl (fun z=>z=b) W).setCell (p:=⟨b,j,none⟩) rfl u).block _ (aC h) hk).trans h
theorem tF{w:World}{b:Nat}{c f:Bool}{ah gr:Int}{A:Nat->dF}(h:CB w b c f ah gr A){d:Nat}(hd:d+1<41)(x:Fl)(ha:0<=ah/\ah<=1000000)(hg:0<=gr/\gr<=1000000)(hs:0<=(A d).s/\(A d).s<=1000000) :
  Calls Tryz.prog 66 #[.pointer (some ⟨b,0,none⟩),.int .i64 ((d:Int)+1),.agg #[.int .i64 x.k,.int .i64 x.n,.int .i64 x.mn,.int .i64 x.mx,.slice x.rq x.rs.length x.rc,.slice x.kq x.kl x.kc]] w fun e w'=>e=.returned (.tuple #[])/\CB w' b c f (ah+1) (gr+(if x.k=7 then 1 else 0)) (nL (nL A d ⟨(A d).f,(A d).s+1⟩) (d+1) ⟨x,0⟩)/\Fr (fun z=>z=b) w w':=by
 have H:=aA h
 have hlt:=h.lt
 have B1:Hid (Below w.heap.size w (w.alloc (.cells #[.int .i64 x.k,.int .i64 x.n,.int .i64 x.mn,.int .i64 x.mx,.slice x.rq x.rs.length x.rc,.slice x.kq x.kl x.kc] 25))):=bz9
 have N1:Hid (BoxN (w.alloc (.cells #[.int .i64 x.k,.int .i64 x.n,.int .i64 x.mn,.int .i64 x.mx,.slice x.rq x.rs.length x.rc,.slice x.kq x.kl x.kc] 25)) w.heap.size x):=aD w _
 have H1:Hid (CB (w.alloc (.cells #[.int .i64 x.k,.int .i64 x.n,.int .i64 x.mn,.int .i64 x.mx,.slice x.rq x.rs.length x.rc,.slice x.kq x.kl x.kc] 25)) b c f ah gr A):=h.kept B1.out
 have F1:Hid (Fr (fun z=>z=b) w (w.alloc (.cells #[.int .i64 x.k,.int .i64 x.n,.int .i64 x.mn,.int .i64 x.mx,.slice x.rq x.rs.length x.rc,.slice x.kq x.kl x.kc] 25))):=Fr.of_below B1.out
 have hne:w.heap.size≠b:=by omega
 clear h H
 obtain⟨g2,hg2⟩:∃ g2,gr+(if x.k=7 then 1 else 0)=g2:=⟨_,rfl⟩
 rw [hg2]
 have HG:=aA hg2
 clear hg2
 go_enter Tryz.func66,Tryz.ntmps66
 go_upto_region 1 with fail
 generalize (w.alloc (.cells #[.int .i64 x.k,.int .i64 x.n,.int .i64 x.mn,.int .i64 x.mx,.slice x.rq x.rs.length x.rc,.slice x.kq x.kl x.kc] 25))=w1 at B1 N1 H1 F1 ⊢
 have c2:=H1.out.c2
 have f2:=H1.out.frz 2
 have lb:=H1.out.lt
 have H2:Hid (CB (w1.setCell ⟨b,2,none⟩ (.int .i64 (ah+1))) b c f (ah+1) gr A):=H1.out.setAh _
 have N2:Hid (BoxN (w1.setCell ⟨b,2,none⟩ (.int .i64 (ah+1))) w.heap.size x):=oZ N1.out hne
 have F2:Hid (Fr (fun z=>z=b) w (w1.setCell ⟨b,2,none⟩ (.int .i64 (ah+1)))):=F1.out.setCell (p:=⟨b,2,none⟩) rfl _
 clear B1 N1 H1 F1
 go_upto_region 2 with fail
 generalize (w1.setCell ⟨b,2,none⟩ (.int .i64 (ah+1)))=w2 at H2 N2 F2 ⊢
 clear c2 f2 lb hlt
 obtain⟨c0,-⟩:=N2.out.six
 have c3:=H2.out.c3
 have f3:=H2.out.frz 3
 have lb:=H2.out.lt
 have e1:((d:Int)+1)-1=(d:Int):=by omega
 have e2:(d:Int)<41:=by omega
 have e3:(d:Int)+1<41:=by omega
 by_cases hk:x.k=7
 ·have hkb:(x.k==7)=true:=by simpa using hk
  have E2:=HG.out
  rw [if_pos hk] at E2
  subst E2
  have H3:Hid (CB (w2.setCell ⟨b,3,none⟩ (.int .i64 (gr+1))) b c f (ah+1) (gr+1) A):=H2.out.setGr _
  have N3:Hid (BoxN (w2.setCell ⟨b,3,none⟩ (.int .i64 (gr+1))) w.heap.size x):=oZ N2.out hne
  have F3:Hid (Fr (fun z=>z=b) w (w2.setCell ⟨b,3,none⟩ (.int .i64 (gr+1)))):=F2.out.setCell (p:=⟨b,3,none⟩) rfl _
  clear H2 N2 F2 hk
  go_upto_region 4 with fail
  generalize (w2.setCell ⟨b,3,none⟩ (.int .i64 (gr+1)))=w3 at H3 N3 F3 ⊢
  clear c0 c3 f3 lb
  have p6:=(H3.out.sp d (by omega)).2
  have lb:=H3.out.lt
  have f6:=H3.out.frz (4+d*7+6)
  have H5:=aA ((H3.out.setSeen (d:=d) (by omega) ((A d).s+1)).kept ((Below.refl _ _).drew))
  have N5:Hid (BoxN (w3.setCell ⟨b,4+d*7+6,none⟩ (.int .i64 ((A d).s+1))).drew w.heap.size x):=oZ N3.out hne
  have F5:Hid (Fr (fun z=>z=b) w (w3.setCell ⟨b,4+d*7+6,none⟩ (.int .i64 ((A d).s+1))).drew):=(F3.out.setCell (p:=⟨b,4+d*7+6,none⟩) rfl _).trans (Fr.of_below ((Below.refl _ _).drew))
  clear H3 N3 F3
  go_region
  go_upto_region 5 with fail
  generalize (w3.setCell ⟨b,4+d*7+6,none⟩ (.int .i64 ((A d).s+1))).drew=w5 at H5 N5 F5 ⊢
  clear p6 f6 lb
  have lb:=H5.out.lt
  have ln:=aC N5.out
  obtain⟨n0,n1,n2,n3,n4,n5⟩:=N5.out.six
  simp only [m7] at n1 n2 n3 n4 n5
  have fr:=fun j=>H5.out.frz j
  obtain⟨⟨q0,q1,q2,q3,q4,q5⟩,q6⟩:=H5.out.sp (d+1) (by omega)
  have H7:=aA ((H5.out.setSpot (d:=d+1) (by omega) ⟨x,0⟩).kept ((Below.refl _ _).drew))
  have F7:Hid (Fr (fun z=>z=b) w (jJ w5 b (4+(d+1)*7) ⟨x,0⟩).drew):=(F5.out.trans (zB _ _ _ _)).trans (Fr.of_below ((Below.refl _ _).drew))
  unfold jJ at H7 F7
  clear H5 F5
  go_region
  go_wp2
  go_end0
  exact⟨rfl,H7.out,F7.out⟩
 ·have hkb:(x.k==7)=false:=by simpa using hk
  have E2:=HG.out
  rw [if_neg hk,Int.add_zero] at E2
  subst E2
  have H3:=H2
  have N3:=N2
  have F3:=F2
  clear H2 N2 F2 hk
  go_upto_region 4 with fail
  clear c0 c3 f3 lb
  have p6:=(H3.out.sp d (by omega)).2
  have lb:=H3.out.lt
  have f6:=H3.out.frz (4+d*7+6)
  have H5:=aA ((H3.out.setSeen (d:=d) (by omega) ((A d).s+1)).kept ((Below.refl _ _).drew))
  have N5:Hid (BoxN (w2.setCell ⟨b,4+d*7+6,none⟩ (.int .i64 ((A d).s+1))).drew w.heap.size x):=oZ N3.out hne
  have F5:Hid (Fr (fun z=>z=b) w (w2.setCell ⟨b,4+d*7+6,none⟩ (.int .i64 ((A d).s+1))).drew):=(F3.out.setCell (p:=⟨b,4+d*7+6,none⟩) rfl _).trans (Fr.of_below ((Below.refl _ _).drew))
  clear H3 N3 F3
  go_region
  go_upto_region 5 with fail
  generalize (w2.setCell ⟨b,4+d*7+6,none⟩ (.int .i64 ((A d).s+1))).drew=w5 at H5 N5 F5 ⊢
  clear p6 f6 lb
  have lb:=H5.out.lt
  have ln:=aC N5.out
  obtain⟨n0,n1,n2,n3,n4,n5⟩:=N5.out.six
  simp only [m7] at n1 n2 n3 n4 n5
  have fr:=fun j=>H5.out.frz j
  obtain⟨⟨q0,q1,q2,q3,q4,q5⟩,q6⟩:=H5.out.sp (d+1) (by omega)
  have H7:=aA ((H5.out.setSpot (d:=d+1) (by omega) ⟨x,0⟩).kept ((Below.refl _ _).drew))
  have F7:Hid (Fr (fun z=>z=b) w (jJ w5 b (4+(d+1)*7) ⟨x,0⟩).drew):=(F5.out.trans (zB _ _ _ _)).trans (Fr.of_below ((Below.refl _ _).drew))
  unfold jJ at H7 F7
  clear H5 F5
  go_region
  go_wp2
  go_end0
  exact⟨rfl,H7.out,F7.out⟩
end
end Go.Proofs.YtlamifbjklpdbaaGreat
