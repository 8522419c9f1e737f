/-
  Parts of the proof.
-/
import Derived.Test.YtpfdapnfkghgkaaGreatDoorRows
import Derived.WalkKit
import Derived.WalkSpells
import Derived.WalkLawsBesides
import Derived.Below
import Derived.Laws.AppendOwn
import Derived.Laws.MakeOwn
import Derived.Laws.CopyOwn
import Derived.BigQuiet
import Derived.ProofKit
import Derived.OpenShut
import Derived.Stop.Joined
import Derived.ChangeOld
import Derived.ChangeSlices
import Derived.Carry
import Derived.Maps.AppendAt
import Derived.OwnWalk
import Derived.Deep.RegionLaw
import Derived.Deep.RegionWith
import Derived.Deep.DeepCutAuto
import Derived.Laws.OwnMore
import Derived.RangeFuncNested
import Derived.RangeFuncBound
import Derived.RangeFuncCalls
import Derived.RangeFuncLeaves
import Derived.RangeFuncBox
import Derived.Shelf.Abstract
import Derived.Shelf.RegionOpen
import Derived.OwnWalkIn
import Derived.TacticsInMore
import Derived.LoopNIn
import Derived.LoopIn
import Derived.Lib.MapLaws
import Derived.Lib.RuneCountTail
import Derived.Lib.Strings
import Derived.Lib.IndexMore
namespace Go.Proofs.YtpfdapnfkghgkaaGreatDoor
open Go Go.RowKit
theorem lz9{n:Nat}:n<=n:=Nat.le_refl n
theorem bz9{w:World}{o:Obj}:Below w.heap.size w (w.alloc o):=(Below.refl w.heap.size w).alloc (Nat.le_refl w.heap.size) o
def lR(l:List Int):List Value:=l.map (Value.int .i64)
structure Fr(S:Nat->Prop)(w w':World):Prop where
 os:w'.os=w.os
 tape:w'.tape=w.tape
 output:w'.output=w.output
 size:w.heap.size<=w'.heap.size
 block:∀ k,k < w.heap.size->¬ S k->w'.heap[k]?=w.heap[k]?
theorem Fr.refl(S:Nat->Prop)(w:World):Fr S w w:=⟨rfl,rfl,rfl,Nat.le_refl _,fun _ _ _=>rfl⟩
theorem Fr.trans{S:Nat->Prop}{a b c:World}(h:Fr S a b)(k:Fr S b c):Fr S a c:=
 ⟨k.os.trans h.os,k.tape.trans h.tape,k.output.trans h.output,Nat.le_trans h.size k.size,fun i hi hs=>(k.block i (Nat.lt_of_lt_of_le hi h.size) hs).trans (h.block i hi hs)⟩
theorem Fr.below{S:Nat->Prop}{a b:World}{n:Nat}(h:Fr S a b)(hn:n<=a.heap.size)(hs:∀ k,S k->n<=k):Below n a b:=
 ⟨h.os,h.tape,h.output,h.size,fun i hi=>h.block i (Nat.lt_of_lt_of_le hi hn) (fun q=>by have:=hs i q;omega)⟩
theorem Fr.of_below{S:Nat->Prop}{a b:World}(h:Below a.heap.size a b):Fr S a b:=⟨h.os,h.tape,h.output,h.size,fun i hi _=>h.block i hi⟩
theorem Fr.alloc{S:Nat->Prop}{a w:World}(h:Fr S a w)(o:Obj):Fr S a (w.alloc o):=h.trans (Fr.of_below ((Below.refl _ _).alloc lz9 o))
theorem Fr.drew{S:Nat->Prop}{a w:World}(h:Fr S a w):Fr S a w.drew:=h.trans (Fr.of_below (Below.refl _ _).drew)
theorem Fr.setCell{S:Nat->Prop}{a w:World}(h:Fr S a w){p:Addr}(hp:S p.block)(u:Value):Fr S a (w.setCell p u):=
 h.trans ⟨rfl,rfl,rfl,by simp [World.setCell],fun k _ hk=>Below.heap_setCell _ _ _ _ (fun e=>hk (e ▸ hp))⟩
theorem Fr.setNew{S:Nat->Prop}{a w:World}(h:Fr S a w){p:Addr}(hp:a.heap.size<=p.block)(u:Value):Fr S a (w.setCell p u):=
 ⟨h.os,h.tape,h.output,by have:=h.size;simp [World.setCell];exact this,fun k hk hs=>(Below.heap_setCell _ _ _ _ (by omega)).trans (h.block k hk hs)⟩
theorem Fr.then{S:Nat->Prop}{a b c:World}(h:Fr S a b)(k:Below b.heap.size b c):Fr S a c:=h.trans (Fr.of_below k)
theorem Fr.grown{S:Nat->Prop}{a w w':World}{row:Option Nat}(h:Fr S a w)(hg:w.grownBy w' row)(hr:∀ k,row=some k->S k):Fr S a w':=
 h.trans ⟨hg.os,hg.tape,hg.output,hg.size,fun k hk hs=>hg.block k hk (fun e=>hs (hr k e.symm))⟩
theorem aA{w:World}{k:Nat}{o:Obj}(h:w.heap[k]?=some o):k < w.heap.size:=(Array.getElem?_eq_some_iff.1 h).1
theorem aK{w:World}{k:Nat}{cur:Array Value}{t:TypeId}{fr:Nat × Nat}(h:w.heap[k]?=some (.cells cur t fr))(j:Nat)(v:Value):(w.setCell ⟨k,j,none⟩ v).heap[k]?=some (.cells (cur.setIfInBounds j v) t fr):=by
 simp [World.setCell,Array.getElem?_modify,h]
theorem dS{W:World}{x y:Nat}{c c':Array Value}{t t':TypeId}{f f':Nat × Nat}(h:W.heap[x]?=some (.cells c t f))(h':W.heap[y]?=some (.cells c' t' f'))(ht:t≠t'):x≠y:=fun e=>by
 rw [e,h'] at h
 injection h with h
 injection h with _ h _
 exact ht h.symm
theorem aB{W:World}{wb:Nat}{c:Array Value}{t:TypeId}(h:W.heap[wb]?=some (.cells c t (0,0))){i:Nat}{v:Value}(hi:c[i]?=some v):W.cell? ⟨wb,i,none⟩=some v:=by simp [World.cell?,h,hi]
theorem aP{W:World}{wb:Nat}{c:Array Value}{t:TypeId}(h:W.heap[wb]?=some (.cells c t (0,0)))(i:Nat):W.frozen? ⟨wb,i,none⟩=false:=by simp [World.frozen?,h]
theorem aE{n:Nat}{a b c:World}(h:Below n a b)(k:Below b.heap.size b c)(hn:n<=a.heap.size):Below n a c:=h.trans (k.mono (Nat.le_trans hn h.size))
theorem bM{n:Nat}{a b c:World}{S:Nat->Prop}(h:Below n a b)(k:Fr S b c)(hn:n<=a.heap.size)(hs:∀ k,S k->n<=k):Below n a c:=h.trans (k.below (Nat.le_trans hn h.size) hs)
theorem dL{α:Type}(l:List α)(k:Nat)(h:k < l.length):l.take (k+1)=l.take k ++ [l[k]]:=by simp
def Ext(W:World):Type:={ w:World // Below W.heap.size W w }
theorem qP{P:Program}{id:Nat}{Q:Exit->Act->World->Prop}{a:Act}{w:World}{l:List Oper}(hm:P.follows .mixedOrders=true)(hB:Region.lexB .any l.toArray=true)
  (h:wpQuiet P l.toArray (fun w'=>∃ x:Ext w,w'=x.val) (fun a'=>∀ w',(∃ x:Ext w,w'=x.val)->Q .normal a' w') l a):(Code.region id l.toArray true).wp P Q a w:=
 wp_region_quiet (C:=fun w'=>∃ x:Ext w,w'=x.val) hm hB ⟨⟨w.drew,(Below.refl _ _).drew⟩,rfl⟩ (by simpa using h)
theorem wx9{P:Program}{id:Nat}{Q:Exit->Act->World->Prop}{a:Act}{w:World}{l:List Oper}(h:wpQuiet P l.toArray (fun w'=>∃ x:Ext w,w'=x.val) (fun a'=>∀ w',(∃ x:Ext w,w'=x.val)->Q .normal a' w') l a)(hm:P.follows .mixedOrders=true:=by kernel_rfl)(hB:Region.lexB .any l.toArray=true:=by kernel_rfl):(Code.region id l.toArray true).wp P Q a w:=qP hm hB h
theorem bI{P:Program}{f:FuncId}{args:Array Value}{W:World}{x:Ext W}{v:Value}
  (h:Calls P f args x.val fun e w'=>e=.returned v/\Below x.val.heap.size x.val w'):Calls P f args x.val fun e w''=>e=.returned v/\∃ y:Ext W,w''=y.val:=
 h.mono fun _ w' ⟨he,hb⟩=>⟨he,⟨w',x.2.trans (hb.mono x.2.size)⟩,rfl⟩
theorem qV{P:Program}{f:FuncId}{args:Array Value}{W:World}{x:Ext W}{v:Value}
  (h:Calls P f args x.val fun e w'=>e=.returned v/\w'=x.val):Calls P f args x.val fun e w''=>e=.returned v/\∃ y:Ext W,w''=y.val:=
 h.mono fun _ _ ⟨he,hb⟩=>⟨he,x,hb⟩
theorem aR{W:World}(x:Ext W)(b o:Nat)(h:b < W.heap.size):x.val.cell? ⟨b,o,none⟩=W.cell? ⟨b,o,none⟩:=x.2.cell (p:=⟨b,o,none⟩) h
theorem aD{W w1:World}(h:∃ x:Ext W,w1=x.val):Below W.heap.size W w1:=by
 obtain⟨x,rfl⟩:=h
 exact x.2
section
section
variable {P:Program} {l:List Oper} {o:Oper} {Q:Exit->Act->World->Prop}
def Q1(P:Program)(l:List Oper)(o:Oper)(Q:Exit->Act->World->Prop):Exit->Act->World->Prop
 | .normal,a,w=>wpList P (l ++ [o]).toArray Q [o] a w
 | e,a,w=>Q e a w
end
end
section
open Go Go.ChangeShapes Go.WideShapes Go.ChangeAt Go.RowKit
theorem own:ownKnob Tryz.prog.godebug=none:=by kernel_rfl
theorem aX3:laidOutB Tryz.prog=true:=by kernel_rfl
end
theorem aJ7:(Tryz.prog.info? 3).map (fun i=>(i.zero,i.size,i.bytes))=some (some (.int .i64 0),1,8):=by kernel_rfl
theorem aI3:Tryz.prog.underlying 80=some (.slice 3):=by kernel_rfl
theorem aS{P:Program}{t:TypeId}{z:Value}{s b:Nat}(h:(P.info? t).map (fun i=>(i.zero,i.size,i.bytes))=some (some z,s,b)):∃ i,P.info? t=some i/\i.zero=some z/\i.size=s/\i.bytes=b:=by
 cases hi:P.info? t with
 | none=>rw [hi] at h;cases h
 | some i=>
  rw [hi] at h
  simp at h
  exact⟨i,rfl,h.1,h.2.1,h.2.2⟩
theorem aQ{S:Nat->Prop}{w w':World}{base:Nat}{t:TypeId}{size n:Nat}{v:Value}{xs:List Value}(h:w.ownsRow base t size v n xs)(hf:Fr S w w')(hs:∀ k,v.ownBlock=some k->¬ S k):w'.ownsRow base t size v n xs:=by
 obtain⟨h1,h2 | ⟨g,cap,cur,q1,q2,q3,q4⟩⟩:=h
 ·exact⟨h1,.inl h2⟩
 ·exact⟨h1,.inr ⟨g,cap,cur,q1,q2,(hf.block _ (aA q3) (hs g (by rw [q1];rfl))).trans q3,q4⟩⟩
theorem jB{w:World}{base base':Nat}{t:TypeId}{size n:Nat}{v:Value}{xs:List Value}(h:w.ownsRow base t size v n xs)(hb:base'<=base):w.ownsRow base' t size v n xs:=by
 obtain⟨h1,h2 | ⟨g',cap',cur,q1,q2,q4⟩⟩:=h
 ·exact⟨h1,.inl h2⟩
 ·exact⟨h1,.inr ⟨g',cap',cur,q1,Nat.le_trans hb q2,q4⟩⟩
theorem aL{w:World}{base:Nat}{e:TypeId}{size n:Nat}{v:Value}{xs:List Value}(h:w.ownsRow base e size v n xs):∃ q c,v=.slice q n c:=by
 rcases h.2 with⟨rfl,rfl⟩ | ⟨g,cap,cur,rfl,_⟩
 ·exact⟨_,_,rfl⟩
 ·exact⟨_,_,rfl⟩
theorem aH{w:World}{base:Nat}{e:TypeId}{size n:Nat}{v:Value}{xs:List Value}(h:w.ownsRow base e size v n xs){g:Nat}(hg:v.ownBlock=some g):base<=g/\g < w.heap.size/\∃ cur,w.heap[g]?=some (.cells cur e (0,0)):=by
 rcases h.2 with⟨rfl,rfl⟩ | ⟨g',cap,cur,rfl,h1,h2,_⟩
 ·cases hg
 ·cases hg;exact⟨h1,aA h2,cur,h2⟩
theorem aN{w:World}{base:Nat}{e t:TypeId}{size n:Nat}{v:Value}{xs:List Value}(h:w.ownsRow base e size v n xs){b:Nat}{cs:Array Value}(hb:w.heap[b]?=some (.cells cs t (0,0)))(ht:t≠e):v.ownBlock≠some b:=fun q=>by
 obtain⟨_,_,cur,hc⟩:=aH h q
 exact dS hb hc ht rfl
theorem bC{w:World}{base:Nat}{e:TypeId}{size n g c:Nat}{xs:List Value}(h:w.ownsRow base e size (.slice (some ⟨g,0,none⟩) n c) n xs){j:Nat}{u:Value}(hj:xs[j]?=some u):w.cell? ⟨g,j,none⟩=some u:=by
 rcases h.2 with⟨q,_⟩ | ⟨g',cap,cur,q1,_,q3,_,_,q6,q7⟩
 ·cases q
 ·cases q1
  have:cur[j]?=some u:=by
   rw [<- q7,List.getElem?_take] at hj
   split at hj
   ·simpa using hj
   ·cases hj
  simp [World.cell?,q3,this]
theorem vD{w:World}{base:Nat}{e:TypeId}{size n:Nat}{v:Value}{xs:List Value}(h:w.ownsRow base e size v n xs):n<=maxLen:=by
 rcases h.2 with⟨_,q⟩ | ⟨g,cap,cur,q,_,_,hc,hm,_⟩
 ·omega
 ·omega
theorem aI{w:World}{base:Nat}{e:TypeId}{size n:Nat}{v:Value}{xs:List Value}(h:w.ownsRow base e size v n xs)(hn:0 < n):∃ g c,v=.slice (some ⟨g,0,none⟩) n c:=by
 rcases h.2 with⟨_,q⟩ | ⟨g,cap,cur,rfl,_⟩
 ·omega
 ·exact⟨_,_,rfl⟩
theorem jA{w:World}{base:Nat}{e:TypeId}{size n g c:Nat}{xs:List Value}(h:w.ownsRow base e size (.slice (some ⟨g,0,none⟩) n c) n xs){k:Nat}(hk:k<=n):w.ownsRow base e size (.slice (some ⟨g,0,none⟩) k c) k (xs.take (k * size)):=by
 have hm:k * size<=n * size:=Nat.mul_le_mul_right _ hk
 refine⟨by rw [List.length_take,h.1];omega,.inr ?_⟩
 rcases h.2 with⟨q,_⟩ | ⟨g',cap,cur,q1,q2,q3,q4,q5,q6,q7⟩
 ·cases q
 ·cases q1
  exact⟨g,c,cur,rfl,q2,q3,by omega,q5,q6,by rw [<- q7,List.take_take,Nat.min_eq_left hm]⟩
def moved(v v':Value)(n:Nat):Prop:=v'.ownBlock=v.ownBlock\/v'.ownBlock=none\/∃ g,n<=g/\v'.ownBlock=some g
theorem moved.refl(v:Value)(n:Nat):moved v v n:=.inl rfl
theorem moved.trans{v v' v'':Value}{n m:Nat}(h:moved v v' n)(k:moved v' v'' m)(hm:n<=m):moved v v'' n:=by
 rcases k with k | k | ⟨g,k1,k2⟩
 ·rcases h with h | h | ⟨g,h1,h2⟩
  ·exact .inl (k.trans h)
  ·exact .inr (.inl (k.trans h))
  ·exact .inr (.inr ⟨g,h1,k.trans h2⟩)
 ·exact .inr (.inl k)
 ·exact .inr (.inr ⟨g,by omega,k2⟩)
theorem mM{v v':Value}{n k:Nat}(h:moved v v' n)(hk:k < n)(hv:v'.ownBlock=some k):v.ownBlock=some k:=by
 rcases h with h | h | ⟨g,h1,h2⟩
 ·exact h ▸ hv
 ·rw [h] at hv;cases hv
 ·rw [h2] at hv;cases hv;omega
theorem dM{P:Program}{ops:Array Oper}{o:Oper}{a:Act}{w:World}{K:Act->World->Prop}{Q:Exit->Act->World->Prop}{E:Prop}(hgd:o.guard=none)(s x:Operand)(t:TypeId)
  (ho:o.op=.call { callee:=.builtin .append,args:=#[s,x],argTypes:=#[t,t] })
  (base:Nat) (e:TypeId) (i:TypeInfo) (z:Value) (size bytes:Nat) (ht:P.underlying t=some (.slice e)) (hi:P.info? e=some i) (hz:i.zero=some z)
  (hsize:i.size=size) (hby:i.bytes=bytes) (hzs:z.cells.size=size) (hsz:0 < size)
  (v:Value) (n:Nat) (xs:List Value) (hs:a.eval s=v) (hown:w.ownsRow base e size v n xs)
  (ad:Addr) (m c:Nat) (news:List Value) (hx:a.eval x=.slice (some ad) m c) (hl:news.length=m * size) (hnews:∀ j u,news[j]?=some u->w.cell? (ad.add j)=some u) (h1:∀ u∈news,u.oneCell'=true)
  (h63:n+m<=maxLen) (hbytes:(n+m) * bytes<=140737488355328) (hbase:base<=w.heap.size)
  (h:∀ v' w',w'.ownsRow base e size v' (n+m) (xs ++ news)->w.grownBy w' v.ownBlock->(v'.ownBlock=v.ownBlock\/v'.ownBlock=some w.heap.size)->K (a.put o.dst v') w') :
  if Region.wanted o (yielded ops a.tmps)=true then Oper.wp P o a w K Q else E:=by
 have hw:Region.wanted o (yielded ops a.tmps)=true:=by simp [Region.wanted,hgd]
 rw [if_pos hw]
 obtain⟨v',w',hrun,h2,h3,_,h5⟩:=run_append_own_at (P:=P) w base t o.type e i z size bytes ht hi hz hsize hby hzs hsz v n xs hown ad m c news hl hnews h1 h63 hbytes hbase
 unfold Oper.wp
 simp [execOp,ho,resolve,invoke,builtin,hs,hx,hrun,Result.andThen]
 exact h v' w' h2 h3 h5
theorem fG(W:World)(a b:Value)(t:TypeId):∀ (j:Nat) (u:Value),[a,b][j]?=some u->(W.alloc (.cells #[a,b] t)).cell? ((⟨W.heap.size,0,none⟩:Addr).add j)=some u:=by
 intro j u h
 match j,h with
 | 0,h=>simp at h;subst h;simp [Addr.add]
 | 1,h=>simp at h;subst h;simp [Addr.add]
theorem aG(w:World)(o:Obj):(w.alloc o).heap[w.heap.size]?=some o:=by unfold World.alloc;simp
def In(L:List (Int × Int))(c:Int):Prop:=∃ r∈L,r.1<=c/\c<=r.2
structure Cls(L:List (Int × Int)):Prop where
 some:∀ r∈L,r.1<=r.2
 apart:L.Pairwise (fun a b=>a.2+1 < b.1)
theorem eA(c:Int):¬ In [] c:=fun⟨_,h,_⟩=>by cases h
theorem bJ(r:Int × Int)(L:List (Int × Int))(c:Int):In (r :: L) c ↔ (r.1<=c/\c<=r.2)\/In L c:=by
 simp [In]
theorem bV(A B:List (Int × Int))(c:Int):In (A ++ B) c ↔ In A c\/In B c:=by
 constructor
 ·rintro ⟨r,h,q⟩
  rcases List.mem_append.1 h with h | h
  ·exact .inl ⟨r,h,q⟩
  ·exact .inr ⟨r,h,q⟩
 ·rintro (⟨r,h,q⟩ | ⟨r,h,q⟩)
  ·exact⟨r,List.mem_append.2 (.inl h),q⟩
  ·exact⟨r,List.mem_append.2 (.inr h),q⟩
theorem dI(r:Int × Int)(c:Int):In [r] c ↔ r.1<=c/\c<=r.2:=by simp [In]
theorem oW:Cls []:=⟨fun _ h=>(by cases h),List.Pairwise.nil⟩
theorem jZ{r:Int × Int}{L:List (Int × Int)}(h:Cls (r :: L)):Cls L:=⟨fun x hx=>h.some x (List.mem_cons_of_mem _ hx),(List.pairwise_cons.1 h.apart).2⟩
theorem fL{r:Int × Int}{L:List (Int × Int)}(h:Cls (r :: L)):r.1<=r.2:=h.some r List.mem_cons_self
theorem kA{r x:Int × Int}{L:List (Int × Int)}(h:Cls (r :: L))(hx:x∈L):r.2+1 < x.1:=(List.pairwise_cons.1 h.apart).1 x hx
theorem dZ{r:Int × Int}{L:List (Int × Int)}(h:Cls (r :: L)){c:Int}(hc:In L c):r.2+1 < c:=by
 obtain⟨x,hx,h1,h2⟩:=hc
 have:=kA h hx
 omega
theorem qI:∀ (A B:List (Int × Int)),Cls A->Cls B->(∀ c,In A c ↔ In B c)->A=B
 | [],[],_,_,_=>rfl
 | [],b :: B,_,hB,h=>absurd ((h b.1).2 ⟨b,List.mem_cons_self,Int.le_refl _,fL hB⟩) (eA _)
 | a :: A,[],hA,_,h=>absurd ((h a.1).1 ⟨a,List.mem_cons_self,Int.le_refl _,fL hA⟩) (eA _)
 | a :: A,b :: B,hA,hB,h=>by
  have ha:=fL hA
  have hb:=fL hB
  have h1:a.1=b.1:=by
   have p:=(h a.1).1 ((bJ ..).2 (.inl ⟨Int.le_refl _,ha⟩))
   have q:=(h b.1).2 ((bJ ..).2 (.inl ⟨Int.le_refl _,hb⟩))
   rcases (bJ ..).1 p with p | p
   ·rcases (bJ ..).1 q with q | q
    ·omega
    ·have:=dZ hA q;omega
   ·have:=dZ hB p
    rcases (bJ ..).1 q with q | q
    ·omega
    ·have:=dZ hA q;omega
  have h2:a.2=b.2:=by
   rcases Int.lt_trichotomy a.2 b.2 with q | q | q
   ·have p:=(h (a.2+1)).2 ((bJ ..).2 (.inl ⟨by omega,by omega⟩))
    rcases (bJ ..).1 p with p | p
    ·omega
    ·have:=dZ hA p;omega
   ·exact q
   ·have p:=(h (b.2+1)).1 ((bJ ..).2 (.inl ⟨by omega,by omega⟩))
    rcases (bJ ..).1 p with p | p
    ·omega
    ·have:=dZ hB p;omega
  have e:a=b:=Prod.ext h1 h2
  subst e
  rw [qI A B (jZ hA) (jZ hB) fun c=>?_]
  constructor
  ·intro p
   have:=dZ hA p
   rcases (bJ ..).1 ((h c).1 ((bJ ..).2 (.inr p))) with q | q
   ·omega
   ·exact q
  ·intro p
   have:=dZ hB p
   rcases (bJ ..).1 ((h c).2 ((bJ ..).2 (.inr p))) with q | q
   ·omega
   ·exact q
def cK(C:List (Int × Int))(r:Int × Int):List (Int × Int):=
 if r.2 < r.1 then C else
  match C.getLast? with
  | none=>[r]
  | some x=>if x.2+1 < r.1 then C ++ [r] else C.dropLast ++ [(x.1,max x.2 r.2)]
theorem jI{C:List (Int × Int)}{r:Int × Int}(h:r.2 < r.1):cK C r=C:=if_pos h
theorem kF{r:Int × Int}(h:¬ r.2 < r.1):cK [] r=[r]:=by unfold cK;rw [if_neg h];rfl
theorem kH{C:List (Int × Int)}{x r:Int × Int}(h:¬ r.2 < r.1)(hf:x.2+1 < r.1):cK (C ++ [x]) r=C ++ [x] ++ [r]:=by
 unfold cK
 rw [if_neg h]
 simp [hf]
theorem iW{C:List (Int × Int)}{x r:Int × Int}(h:¬ r.2 < r.1)(hf:¬ x.2+1 < r.1):cK (C ++ [x]) r=C ++ [(x.1,max x.2 r.2)]:=by
 unfold cK
 rw [if_neg h]
 simp [hf]
theorem gP{α:Type}(C:List α):C=[]\/∃ D x,C=D ++ [x]:=by
 rcases List.eq_nil_or_concat C with h | ⟨D,x,h⟩
 ·exact .inl h
 ·exact .inr ⟨D,x,by rw [h,List.concat_eq_append]⟩
theorem jF{A:List (Int × Int)}{r:Int × Int}(hA:Cls A)(hr:r.1<=r.2)(h:∀ x∈A,x.2+1 < r.1):Cls (A ++ [r]):=
 ⟨fun x hx=>by
  rcases List.mem_append.1 hx with q | q
  ·exact hA.some x q
  ·simp at q;subst q;exact hr,
  List.pairwise_append.2 ⟨hA.apart,List.pairwise_singleton _ _,fun x hx y hy=>by simp at hy;subst hy;exact h x hx⟩⟩
theorem aP9{A:List (Int × Int)}{x:Int × Int}(h:Cls (A ++ [x])):Cls A/\x.1<=x.2/\∀ y∈A,y.2+1 < x.1:=
 ⟨⟨fun y hy=>h.some y (List.mem_append.2 (.inl hy)),(List.pairwise_append.1 h.apart).1⟩,h.some x (by simp),fun y hy=>(List.pairwise_append.1 h.apart).2.2 y hy x (by simp)⟩
theorem sC{C:List (Int × Int)}{r:Int × Int}(hC:Cls C)(hl:r.1<=r.2->∀ x∈C,x.1<=r.1) :
  Cls (cK C r)/\(∀ c,In (cK C r) c ↔ In C c\/(r.1<=c/\c<=r.2))/\(∀ m,(r.1<=r.2->r.1<=m)->(∀ x∈C,x.1<=m)->∀ x∈cK C r,x.1<=m):=by
 by_cases h:r.2 < r.1
 ·rw [jI h]
  exact⟨hC,fun c=>⟨.inl,fun q=>q.elim id fun q=>by omega⟩,fun m _ q=>q⟩
 ·have hr:r.1<=r.2:=by omega
  have hl:=hl hr
  rcases gP C with rfl | ⟨D,x,rfl⟩
  ·rw [kF h]
   refine⟨⟨fun y hy=>by simp at hy;subst hy;exact hr,List.pairwise_singleton _ _⟩,fun c=>?_,fun m hm _ y hy=>by simp at hy;subst hy;exact hm hr⟩
   rw [dI]
   exact⟨.inr,fun q=>q.elim (fun q=>absurd q (eA _)) id⟩
  ·obtain⟨hD,hx,hDx⟩:=aP9 hC
   have hxr:=hl x (by simp)
   by_cases hf:x.2+1 < r.1
   ·rw [kH h hf]
    refine⟨jF hC hr fun y hy=>?_,fun c=>by rw [bV,dI],fun m hm q y hy=>?_⟩
    ·rcases List.mem_append.1 hy with q | q
     ·have:=hDx y q;omega
     ·simp at q;subst q;exact hf
    ·rcases List.mem_append.1 hy with p | p
     ·exact q y p
     ·simp at p;subst p;exact hm hr
   ·rw [iW h hf]
    refine⟨jF hD (by simp only;omega) hDx,fun c=>?_,fun m hm q y hy=>?_⟩
    ·rw [bV,bV,dI,dI]
     constructor
     ·rintro (p | ⟨p1,p2⟩)
      ·exact .inl (.inl p)
      ·simp only at p1 p2
       by_cases hc:c<=x.2
       ·exact .inl (.inr ⟨p1,hc⟩)
       ·exact .inr ⟨by omega,by omega⟩
     ·rintro ((p | ⟨p1,p2⟩) | ⟨p1,p2⟩)
      ·exact .inl p
      ·exact .inr ⟨p1,by simp only;omega⟩
      ·exact .inr ⟨by simp only;omega,by simp only;omega⟩
    ·rcases List.mem_append.1 hy with p | p
     ·exact q y (List.mem_append.2 (.inl p))
     ·simp at p;subst p;exact q x (by simp)
def Fit(L:List (Int × Int)):Prop:=∀ r∈L,(-9223372036854775808<=r.1/\r.1<=9223372036854775807)/\(-9223372036854775808<=r.2/\r.2<=9223372036854775807)
theorem cL:Fit []:=fun _ h=>by cases h
theorem bW{A B:List (Int × Int)}(hA:Fit A)(hB:Fit B):Fit (A ++ B):=fun r hr=>(List.mem_append.1 hr).elim (hA r) (hB r)
theorem fK{a b:Int}(h:(-9223372036854775808<=a/\a<=9223372036854775807)/\(-9223372036854775808<=b/\b<=9223372036854775807)):Fit [(a,b)]:=fun r hr=>by simp at hr;subst hr;exact h
theorem fJ{A B:List (Int × Int)}(hA:Fit A)(h:∀ x∈B,x∈A):Fit B:=fun r hr=>hA r (h r hr)
theorem wE{C:List (Int × Int)}{r:Int × Int}(hC:Fit C)(hr:Fit [r]):Fit (cK C r):=by
 have q:=hr r (by simp)
 by_cases h:r.2 < r.1
 ·rw [jI h];exact hC
 ·rcases gP C with rfl | ⟨D,x,rfl⟩
  ·rw [kF h];exact hr
  ·have hx:=hC x (by simp)
   by_cases hf:x.2+1 < r.1
   ·rw [kH h hf];exact bW hC hr
   ·rw [iW h hf]
    exact bW (fJ hC fun y hy=>List.mem_append.2 (.inl hy)) (fK ⟨hx.1,by omega,by omega⟩)
theorem kG(C:List (Int × Int))(r:Int × Int):(cK C r).length<=C.length+1:=by
 by_cases h:r.2 < r.1
 ·rw [jI h];omega
 ·rcases gP C with rfl | ⟨D,x,rfl⟩
  ·rw [kF h];simp
  ·by_cases hf:x.2+1 < r.1
   ·rw [kH h hf];simp
   ·rw [iW h hf];simp
theorem aX7{A B:List (Int × Int)}(h:A.Perm B)(c:Int):In A c ↔ In B c:=
 ⟨fun⟨r,q,p⟩=>⟨r,h.mem_iff.1 q,p⟩,fun⟨r,q,p⟩=>⟨r,h.mem_iff.2 q,p⟩⟩
theorem aH4{a b:Int × Int}{A B:List (Int × Int)}(hb:Cls (b :: B))(h:a.2 < b.2)(c:Int) :
  (In (a :: A) c/\In (b :: B) c) ↔ (max a.1 b.1<=c/\c<=min a.2 b.2)\/(In A c/\In (b :: B) c):=by
 rw [bJ,bJ]
 constructor
 ·rintro ⟨p | p,q | q⟩
  ·exact .inl ⟨by omega,by omega⟩
  ·have:=dZ hb q;omega
  ·exact .inr ⟨p,.inl q⟩
  ·exact .inr ⟨p,.inr q⟩
 ·rintro (⟨p,q⟩ | ⟨p,q⟩)
  ·exact⟨.inl ⟨by omega,by omega⟩,.inl ⟨by omega,by omega⟩⟩
  ·exact⟨.inr p,q⟩
theorem zD{a b:Int × Int}{A B:List (Int × Int)}(ha:Cls (a :: A))(h:b.2<=a.2)(c:Int) :
  (In (a :: A) c/\In (b :: B) c) ↔ (max a.1 b.1<=c/\c<=min a.2 b.2)\/(In (a :: A) c/\In B c):=by
 rw [bJ,bJ]
 constructor
 ·rintro ⟨p | p,q | q⟩
  ·exact .inl ⟨by omega,by omega⟩
  ·exact .inr ⟨.inl p,q⟩
  ·have:=dZ ha p;omega
  ·exact .inr ⟨.inr p,q⟩
 ·rintro (⟨p,q⟩ | ⟨p,q⟩)
  ·exact⟨.inl ⟨by omega,by omega⟩,.inl ⟨by omega,by omega⟩⟩
  ·exact⟨p,.inr q⟩
def aM(L:List (Int × Int)):List Go.Value:=L.flatMap fun r=>[.int .i64 r.1,.int .i64 r.2]
theorem cO(L:List (Int × Int)):(aM L).length=L.length * 2:=by
 induction L with
 | nil=>rfl
 | cons r L ih=>simp [aM] at ih ⊢;omega
theorem iB(A B:List (Int × Int)):aM (A ++ B)=aM A ++ aM B:=by simp [aM]
theorem eX(L:List (Int × Int)):∀ v∈aM L,v.oneCell'=true:=fun v hv=>by
 simp [aM] at hv
 obtain⟨a,b,_,rfl | rfl⟩:=hv <;> rfl
theorem gR:∀ (L:List (Int × Int)) (i:Nat) (r:Int × Int),L[i]?=some r->(aM L)[2 * i]?=some (.int .i64 r.1)/\(aM L)[2 * i+1]?=some (.int .i64 r.2)
 | [],i,r,h=>by cases h
 | x :: L,0,r,h=>by
  simp at h
  subst h
  simp [aM]
 | x :: L,i+1,r,h=>by
  have:=gR L i r (by simpa using h)
  simp only [aM,List.flatMap_cons] at this ⊢
  rw [show 2 * (i+1)=2 * i+2 from by omega]
  simpa using this
theorem qJ:∀ (L:List (Int × Int)) (i:Nat) (a b:Int),((aM L).set (i * 2) (.int .i64 a)).set (i * 2+1) (.int .i64 b)=aM (L.set i (a,b))
 | [],i,a,b=>by simp [aM]
 | x :: L,0,a,b=>by simp [aM]
 | x :: L,i+1,a,b=>by
  have:=qJ L i a b
  simp only [aM,List.flatMap_cons,List.set_cons_succ] at this ⊢
  rw [show (i+1) * 2=i * 2+2 from by omega]
  simpa using this
theorem mZ:∀ (L:List (Int × Int)) (i:Nat) (r:Int × Int) (b:Int),L[i]?=some r->(aM L).set (i * 2+1) (.int .i64 b)=aM (L.set i (r.1,b))
 | [],i,r,b,h=>by cases h
 | x :: L,0,r,b,h=>by simp at h;subst h;simp [aM]
 | x :: L,i+1,r,b,h=>by
  have:=mZ L i r b (by simpa using h)
  simp only [aM,List.flatMap_cons,List.set_cons_succ] at this ⊢
  rw [show (i+1) * 2=i * 2+2 from by omega]
  simpa using this
theorem aC{p:Prop}(h:p):Hid p:=h
theorem bF:(Tryz.prog.info? 99).map (fun i=>(i.zero,i.size,i.bytes))=some (some (.agg #[.int .i64 0,.int .i64 0]),2,16):=by kernel_rfl
theorem aO:Tryz.prog.underlying 25=some (.slice 99):=by kernel_rfl
theorem kS(P:Program)(t:Array TypeId)(ty:TypeId)(w:World)(x y:Int):(Builtin.max_ t ty #[.int .i64 x,.int .i64 y]).run P w=.ok (.int .i64 (max x y)) w:=by
 have e:max x y=if y > x then y else x:=by split <;> omega
 rw [e]
 rfl
theorem mO(P:Program)(t:Array TypeId)(ty:TypeId)(w:World)(x y:Int):(Builtin.min_ t ty #[.int .i64 x,.int .i64 y]).run P w=.ok (.int .i64 (min x y)) w:=by
 have e:min x y=if y < x then y else x:=by split <;> omega
 rw [e]
 rfl
def ArgR(W:World)(v:Value)(L:List (Int × Int)):Prop:=
 (∃ p cap,v=.slice p 0 cap/\L=[]/\(p=none->cap=0))\/∃ g off cap,v=.slice (some ⟨g,off,none⟩) L.length cap/\g < W.heap.size/\L.length<=cap/\cap<=maxLen/\∀ (i:Nat) (r:Int × Int),L[i]?=some r->W.cell? ⟨g,off+2 * i,none⟩=some (.int .i64 r.1)/\W.cell? ⟨g,off+2 * i+1,none⟩=some (.int .i64 r.2)
theorem ArgR.kept{W W':World}{v:Value}{L:List (Int × Int)}(h:ArgR W v L)(hb:Below W.heap.size W W'):ArgR W' v L:=by
 rcases h with h | ⟨g,off,cap,h1,h2,h3,h4,h5⟩
 ·exact .inl h
 ·exact .inr ⟨g,off,cap,h1,Nat.lt_of_lt_of_le h2 hb.size,h3,h4,fun i x hx=>⟨(hb.cell (p:=⟨g,off+2 * i,none⟩) h2).trans (h5 i x hx).1,(hb.cell (p:=⟨g,off+2 * i+1,none⟩) h2).trans (h5 i x hx).2⟩⟩
theorem ArgR.slice{W:World}{v:Value}{L:List (Int × Int)}(h:ArgR W v L):∃ q cap,v=.slice q L.length cap/\L.length<=maxLen/\L.length<=cap /\
  (∀ (i:Nat) (r:Int × Int),L[i]?=some r->∃ g off,q=some ⟨g,off,none⟩/\g < W.heap.size/\W.cell? ⟨g,off+2 * i,none⟩=some (.int .i64 r.1)/\W.cell? ⟨g,off+2 * i+1,none⟩=some (.int .i64 r.2)):=by
 rcases h with⟨p,cap,rfl,rfl,-⟩ | ⟨g,off,cap,rfl,h2,h3,h4,h5⟩
 ·exact⟨p,cap,rfl,Nat.zero_le _,Nat.zero_le _,fun i x hx=>by simp at hx⟩
 ·exact⟨_,cap,rfl,Nat.le_trans h3 h4,h3,fun i x hx=>⟨g,off,rfl,h2,h5 i x hx⟩⟩
theorem ArgR.news{W:World}{ad:Addr}{n c:Nat}{L:List (Int × Int)}(h:ArgR W (.slice (some ad) n c) L):∀ j u,(aM L)[j]?=some u->W.cell? (ad.add j)=some u:=by
 intro j u hj
 have hjl:j < L.length * 2:=by have:=(List.getElem?_eq_some_iff.1 hj).1;rwa [cO] at this
 rcases h with⟨p,cap,e,rfl,-⟩ | ⟨g,off,cap,e,h2,h3,h4,h5⟩
 ·simp at hjl
 ·cases e
  obtain⟨q1,q2⟩:=h5 (j / 2) _ (List.getElem?_eq_getElem (by omega))
  obtain⟨r1,r2⟩:=gR L (j / 2) _ (List.getElem?_eq_getElem (by omega))
  have hadd:(⟨g,off,none⟩:Addr).add j=⟨g,off+j,none⟩:=by unfold Addr.add;split <;> simp_all
  rw [hadd]
  rcases Nat.mod_two_eq_zero_or_one j with e | e
  ·rw [show 2 * (j / 2)=j by omega] at q1 r1
   rw [q1,<- r1,hj]
  ·rw [show off+2 * (j / 2)+1=off+j by omega] at q2
   rw [show 2 * (j / 2)+1=j by omega] at r2
   rw [q2,<- r2,hj]
def RR(base:Nat)(w:World)(v:Value)(L:List (Int × Int)):Prop:=w.ownsRow base 99 2 v L.length (aM L)
theorem RR.arg{base:Nat}{w:World}{v:Value}{L:List (Int × Int)}(h:RR base w v L):ArgR w v L:=by
 have h':=h
 rcases h.2 with⟨rfl,hn⟩ | ⟨g,cap,cur,rfl,hg,hc,h1,h2,h3,h4⟩
 ·exact .inl ⟨none,0,rfl,List.eq_nil_of_length_eq_zero hn,fun _=>rfl⟩
 ·exact .inr ⟨g,0,cap,rfl,aA hc,h1,h2,fun i x hx=>by
   obtain⟨p1,p2⟩:=gR L i x hx
   rw [Nat.zero_add]
   exact⟨bC h' p1,bC h' p2⟩⟩
theorem RR.nil(base:Nat)(w:World):RR base w (.slice none 0 0) []:=⟨rfl,.inl ⟨rfl,rfl⟩⟩
theorem RR.fr{base:Nat}{w w':World}{v:Value}{L:List (Int × Int)}{S:Nat->Prop}(h:RR base w v L)(hf:Fr S w w')(hs:∀ k,v.ownBlock=some k->¬ S k):RR base w' v L:=aQ h hf hs
theorem RR.kept{base:Nat}{w w':World}{v:Value}{L:List (Int × Int)}(h:RR base w v L)(hb:Below w.heap.size w w'):RR base w' v L:=h.fr (S:=fun _=>False) (Fr.of_below hb) (fun _ _ q=>q)
theorem RR.mono{base base':Nat}{w:World}{v:Value}{L:List (Int × Int)}(h:RR base w v L)(hb:base'<=base):RR base' w v L:=jB h hb
theorem RR.shape{base:Nat}{w:World}{v:Value}{L:List (Int × Int)}(h:RR base w v L):∃ q c,v=.slice q L.length c:=aL h
structure IsC(C:List (Int × Int))(p:Int->Prop):Prop where
 cls:Cls C
 fit:Fit C
 mem:∀ c,In C c ↔ p c
theorem IsC.one{C D:List (Int × Int)}{p q:Int->Prop}(h:IsC C p)(k:IsC D q)(e:∀ c,p c ↔ q c):C=D:=
 qI C D h.cls k.cls fun c=>(h.mem c).trans ((e c).trans (k.mem c).symm)
theorem IsC.to{C:List (Int × Int)}{p q:Int->Prop}(h:IsC C p)(e:∀ c,p c ↔ q c):IsC C q:=⟨h.cls,h.fit,fun c=>(h.mem c).trans (e c)⟩
def lG(w:World)(p:Int->Prop)(n:Nat)(e:Ending)(w':World):Prop:=∃ v C,e=.returned v/\RR w.heap.size w' v C/\IsC C p/\C.length<=n/\Below w.heap.size w w'
structure Fl where
 k:Int
 n:Int
 mn:Int
 mx:Int
 rs:List (Int × Int)
 rq:Option Addr
 rc:Nat
 kq:Option Addr
 kl:Nat
 kc:Nat
inductive Tr where
 | mk (f:Fl) (ks:List Tr)
def Tr.f:Tr->Fl | .mk f _=>f
def Tr.ks:Tr->List Tr | .mk _ ks=>ks
abbrev Way:=List (Tr × Nat)
abbrev El:=Way × Tr
mutual
def pp:Way->Tr->List El
 | p,.mk f ks=>(p,.mk f ks) :: pps (.mk f ks) p 0 ks
def pps(par:Tr)(p:Way):Nat->List Tr->List El
 | _,[]=>[]
 | i,t :: ts=>pp ((par,i) :: p) t ++ pps par p (i+1) ts
end
theorem mH(p:Way)(t:Tr):pp p t=(p,t) :: pps t p 0 t.ks:=by
 cases t
 rw [pp]
 rfl
theorem eN(par:Tr)(p:Way)(i:Nat)(t:Tr)(ts:List Tr):pps par p i (t :: ts)=pp ((par,i) :: p) t ++ pps par p (i+1) ts:=by rw [pps]
theorem eP(par:Tr)(p:Way)(i:Nat):pps par p i []=[]:=by rw [pps]
mutual
def Tr.sz:Tr->Nat | .mk _ ks=>szs ks+1
def szs:List Tr->Nat | []=>0 | t :: ts=>t.sz+szs ts
end
theorem lK(t:Tr):t.sz=szs t.ks+1:=by cases t;rw [Tr.sz];rfl
theorem dU(t:Tr)(ts:List Tr):szs (t :: ts)=t.sz+szs ts:=by rw [szs]
theorem fR:szs []=0:=by rw [szs]
theorem jM(t:Tr):1<=t.sz:=by rw [lK];omega
theorem bD3{t:Tr}{ks:List Tr}(h:t∈ks):t.sz<=szs ks:=by
 induction ks with
 | nil=>cases h
 | cons x r ih=>
  rw [dU]
  rcases List.mem_cons.1 h with e | e
  ·subst e;omega
  ·have:=ih e;omega
theorem gY{t u:Tr}(h:u∈t.ks):u.sz < t.sz:=by rw [lK t];have:=bD3 h;omega
theorem Tr.ind{P:Tr->Prop}(h:∀ t,(∀ u∈t.ks,P u)->P t)(t:Tr):P t:=by
 have:∀ (m:Nat) (t:Tr),t.sz<=m->P t:=by
  intro m
  induction m with
  | zero=>intro t ht;have:=jM t;omega
  | succ m ih=>intro t ht;exact h t fun u hu=>ih u (by have:=gY hu;omega)
 exact this t.sz t lz9
theorem xY{ks:List Tr}(h:∀ t∈ks,∀ p,(pp p t).length=t.sz)(par:Tr)(p:Way)(i:Nat):(pps par p i ks).length=szs ks:=by
 induction ks generalizing i with
 | nil=>rw [eP,fR];rfl
 | cons t ts ih=>
  rw [eN,dU,List.length_append,h t (List.mem_cons_self ..),ih (fun u hu=>h u (List.mem_cons_of_mem _ hu))]
theorem tD(t:Tr):∀ p,(pp p t).length=t.sz:=by
 refine Tr.ind (P:=fun t=>∀ p,(pp p t).length=t.sz) (fun t ih p=>?_) t
 rw [mH,lK,List.length_cons,xY ih]
mutual
def dQ(P:Tr->Prop):Tr->Prop | .mk f ks=>P (.mk f ks)/\nY P ks
def nY(P:Tr->Prop):List Tr->Prop | []=>True | t :: ts=>dQ P t/\nY P ts
end
theorem aY{P:Tr->Prop}(t:Tr):dQ P t ↔ P t/\nY P t.ks:=by cases t;rw [dQ];rfl
theorem aW{P:Tr->Prop}(ks:List Tr):nY P ks ↔ ∀ t∈ks,dQ P t:=by
 induction ks with
 | nil=>rw [nY];simp
 | cons t ts ih=>rw [nY,ih];simp
theorem gO{P:Tr->Prop}{t u:Tr}(h:dQ P t)(hu:u∈t.ks):dQ P u:=(aW _).1 ((aY t).1 h).2 u hu
theorem aP2{P:Tr->Prop}(t:Tr):∀ p,dQ P t->∀ z∈pp p t,dQ P z.2:=by
 refine Tr.ind (P:=fun t=>∀ p,dQ P t->∀ z∈pp p t,dQ P z.2) (fun t ih p he z hz=>?_) t
 rw [mH] at hz
 rcases List.mem_cons.1 hz with q | q
 ·subst q;exact he
 ·have:∀ (ks:List Tr) (i:Nat),(∀ u∈ks,u∈t.ks)->z∈pps t p i ks->dQ P z.2:=by
   intro ks
   induction ks with
   | nil=>intro i _ h;rw [eP] at h;cases h
   | cons u us ih2=>
    intro i hs h
    rw [eN] at h
    rcases List.mem_append.1 h with g | g
    ·exact ih u (hs u (List.mem_cons_self ..)) _ (gO he (hs u (List.mem_cons_self ..))) z g
    ·exact ih2 (i+1) (fun v hv=>hs v (List.mem_cons_of_mem _ hv)) g
  exact this t.ks 0 (fun _ h=>h) q
section
open Go Go.RowKit Go.Shelf
structure oJ(N:Nat->Prop)(W W':World):Prop where
 size:W.heap.size<=W'.heap.size
 same:∀ (k:Nat) (cur:Array Value) (t:TypeId) (fr:Nat × Nat),N k->W.heap[k]?=some (.cells cur t fr)->W'.heap[k]?=some (.cells cur t fr)
theorem Fr.ckeep{S N:Nat->Prop}{W W':World}(h:Fr S W W')(hs:∀ k,S k->¬ N k):oJ N W W':=
 ⟨h.size,fun k _ _ _ hk hc=>(h.block k (aA hc) (fun q=>hs k q hk)).trans hc⟩
section
variable {α:Type} {P:Program}
end
theorem fS{N:Nat->Prop}{W W':World}{p:Addr}{v:Value}(h:oJ N W W')(hp:N p.block)(hc:W.cell? p=some v):W'.cell? p=some v:=by
 unfold World.cell? at hc ⊢
 cases ho:W.heap[p.block]? with
 | none=>simp [ho] at hc
 | some o=>
  cases o with
  | cells cur t fr=>rw [h.same _ _ _ _ hp ho];rw [ho] at hc;exact hc
  | _=>simp [ho] at hc
end
theorem cR:Tryz.prog.underlying 26=some (.slice 28):=by kernel_rfl
theorem fA:(Tryz.prog.info? 28).map (fun i=>(i.zero,i.size,i.bytes))=some (some (.agg #[.int .i64 0,.int .i64 0,.int .i64 0,.int .i64 0,.slice none 0 0,.slice none 0 0]),6,80):=by kernel_rfl
def Six(W:World)(g o:Nat)(f:Fl):Prop:=
 W.cell? ⟨g,o,none⟩=some (.int .i64 f.k)/\W.cell? ⟨g,o+1,none⟩=some (.int .i64 f.n)/\W.cell? ⟨g,o+2,none⟩=some (.int .i64 f.mn)/\W.cell? ⟨g,o+3,none⟩=some (.int .i64 f.mx)/\W.cell? ⟨g,o+4,none⟩=some (.slice f.rq f.rs.length f.rc)/\W.cell? ⟨g,o+5,none⟩=some (.slice f.kq f.kl f.kc)
theorem Six.ck{N:Nat->Prop}{W W':World}{g o:Nat}{f:Fl}(h:Six W g o f)(hc:oJ N W W')(hg:N g):Six W' g o f:=
 ⟨fS hc (p:=⟨g,o,none⟩) hg h.1,fS hc (p:=⟨g,o+1,none⟩) hg h.2.1,fS hc (p:=⟨g,o+2,none⟩) hg h.2.2.1,fS hc (p:=⟨g,o+3,none⟩) hg h.2.2.2.1,fS hc (p:=⟨g,o+4,none⟩) hg h.2.2.2.2.1,fS hc (p:=⟨g,o+5,none⟩) hg h.2.2.2.2.2⟩
def ArgK(W:World)(v:Value)(ks:List Tr):Prop:=
 (∃ p cap,v=.slice p 0 cap/\ks=[]/\(p=none->cap=0))\/∃ g off cap,v=.slice (some ⟨g,off,none⟩) ks.length cap/\g < W.heap.size/\ks.length<=cap/\cap<=maxLen/\∀ (i:Nat) (t:Tr),ks[i]?=some t->Six W g (off+i * 6) t.f
theorem ArgK.slice{W:World}{v:Value}{ks:List Tr}(h:ArgK W v ks):∃ q cap,v=.slice q ks.length cap/\ks.length<=maxLen/\ks.length<=cap /\
  (∀ (i:Nat) (t:Tr),ks[i]?=some t->∃ g off,q=some ⟨g,off,none⟩/\g < W.heap.size/\Six W g (off+i * 6) t.f):=by
 rcases h with⟨p,cap,rfl,rfl,-⟩ | ⟨g,off,cap,rfl,h2,h3,h4,h5⟩
 ·exact⟨p,cap,rfl,Nat.zero_le _,Nat.zero_le _,fun i x hx=>by simp at hx⟩
 ·exact⟨_,cap,rfl,Nat.le_trans h3 h4,h3,fun i x hx=>⟨g,off,rfl,h2,h5 i x hx⟩⟩
def CK(W W':World):Prop:=oJ (fun k=>k < W.heap.size) W W'
theorem CK.of_below{W W':World}(h:Below W.heap.size W W'):CK W W':=⟨h.size,fun k _ _ _ _ hc=>(h.block k (aA hc)).trans hc⟩
theorem ArgK.ck{W W':World}{v:Value}{ks:List Tr}(h:ArgK W v ks)(hc:CK W W'):ArgK W' v ks:=by
 rcases h with h | ⟨g,off,cap,h1,h2,h3,h4,h5⟩
 ·exact .inl h
 ·exact .inr ⟨g,off,cap,h1,Nat.lt_of_lt_of_le h2 hc.size,h3,h4,fun i x hx=>(h5 i x hx).ck hc h2⟩
theorem ArgR.ck{W W':World}{v:Value}{L:List (Int × Int)}(h:ArgR W v L)(hc:CK W W'):ArgR W' v L:=by
 rcases h with h | ⟨g,off,cap,h1,h2,h3,h4,h5⟩
 ·exact .inl h
 ·exact .inr ⟨g,off,cap,h1,Nat.lt_of_lt_of_le h2 hc.size,h3,h4,fun i x hx=>⟨fS hc (p:=⟨g,off+2 * i,none⟩) h2 (h5 i x hx).1,fS hc (p:=⟨g,off+2 * i+1,none⟩) h2 (h5 i x hx).2⟩⟩
def NO(W:World)(t:Tr):Prop:=(∀ a,t.f.rq=some a->t.f.rs≠[]->∃ cur,W.heap[a.block]?=some (.cells cur 99 (0,0)))/\(∀ a,t.f.kq=some a->t.ks≠[]->∃ cur,W.heap[a.block]?=some (.cells cur 28 (0,0)))
theorem NO.ck{W W':World}{t:Tr}(h:NO W t)(hc:CK W W'):NO W' t:=
 ⟨fun a e z=>by obtain⟨cur,q⟩:=h.1 a e z;exact⟨cur,hc.same _ _ _ _ (aA q) q⟩,fun a e z=>by obtain⟨cur,q⟩:=h.2 a e z;exact⟨cur,hc.same _ _ _ _ (aA q) q⟩⟩
theorem NO.rows{base:Nat}{W:World}{f:Fl}{ks:List Tr}(hr:W.ownsRow base 99 2 (.slice f.rq f.rs.length f.rc) f.rs.length (aM f.rs))(hk:∀ a,f.kq=some a->ks≠[]->∃ cur,W.heap[a.block]?=some (.cells cur 28 (0,0))):NO W (.mk f ks):=
 ⟨fun a e _=>(aH hr (g:=a.block) (by rw [show f.rq=some a from e];rfl)).2.2,hk⟩
structure NA(W:World)(t:Tr):Prop where
 r:ArgR W (.slice t.f.rq t.f.rs.length t.f.rc) t.f.rs
 k:ArgK W (.slice t.f.kq t.f.kl t.f.kc) t.ks
 fit:Fit t.f.rs
 len:t.f.rs.length+3<=8796093022208
 own:NO W t
theorem NA.ck{W W':World}{t:Tr}(h:NA W t)(hc:CK W W'):NA W' t:=⟨h.r.ck hc,h.k.ck hc,h.fit,h.len,h.own.ck hc⟩
theorem NA.kl{W:World}{t:Tr}(h:NA W t):t.f.kl=t.ks.length:=by
 obtain⟨q,cap,e,-⟩:=h.k.slice
 injection e
def TA(W:World)(t:Tr):Prop:=dQ (NA W) t
theorem dD{P Q:Tr->Prop}(h:∀ t,P t->Q t)(t:Tr):dQ P t->dQ Q t:=by
 refine Tr.ind (P:=fun t=>dQ P t->dQ Q t) (fun t ih he=>?_) t
 exact(aY t).2 ⟨h t ((aY t).1 he).1,(aW _).2 fun u hu=>ih u hu (gO he hu)⟩
theorem TA.ck{W W':World}{t:Tr}(h:TA W t)(hc:CK W W'):TA W' t:=dD (fun _ q=>NA.ck q hc) t h
theorem TA.kept{W W':World}{t:Tr}(h:TA W t)(hb:Below W.heap.size W W'):TA W' t:=h.ck (CK.of_below hb)
theorem TA.node{W:World}{t:Tr}(h:TA W t):NA W t:=((aY t).1 h).1
theorem TA.kid{W:World}{t u:Tr}(h:TA W t)(hu:u∈t.ks):TA W u:=gO h hu
theorem TA.at{W:World}{t:Tr}(h:TA W t){p:Way}{z:El}(hz:z∈pp p t):TA W z.2:=aP2 t p h z hz
def BoxN(W:World)(b:Nat)(f:Fl):Prop:=W.heap[b]?=some (.cells #[.int .i64 f.k,.int .i64 f.n,.int .i64 f.mn,.int .i64 f.mx,.slice f.rq f.rs.length f.rc,.slice f.kq f.kl f.kc] 28 (0,0))
theorem BoxN.six{W:World}{b:Nat}{f:Fl}(h:BoxN W b f):Six W b 0 f:=
 ⟨aB h (i:=0) rfl,aB h (i:=1) rfl,aB h (i:=2) rfl,aB h (i:=3) rfl,aB h (i:=4) rfl,aB h (i:=5) rfl⟩
section
inductive Er where
 | mk (k n mn mx:Int) (rs:List (Int × Int)) (ks:List Er)
mutual
def er:Tr->Er | .mk f ks=>.mk f.k f.n f.mn f.mx f.rs (ers ks)
def ers:List Tr->List Er | []=>[] | t :: ts=>er t :: ers ts
end
theorem aZ1(l:List Tr):ers l=l.map er:=by
 induction l with
 | nil=>rw [ers];rfl
 | cons t ts ih=>rw [ers,ih];rfl
theorem eL(t:Tr):er t=.mk t.f.k t.f.n t.f.mn t.f.mx t.f.rs (t.ks.map er):=by
 cases t
 rw [er,aZ1]
 rfl
theorem yR(a b:Tr):er a=er b ↔ a.f.k=b.f.k/\a.f.n=b.f.n/\a.f.mn=b.f.mn/\a.f.mx=b.f.mx/\a.f.rs=b.f.rs/\a.ks.map er=b.ks.map er:=by
 rw [eL a,eL b]
 constructor
 ·intro h
  injection h with h1 h2 h3 h4 h5 h6
  exact⟨h1,h2,h3,h4,h5,h6⟩
 ·rintro ⟨h1,h2,h3,h4,h5,h6⟩
  rw [h1,h2,h3,h4,h5,h6]
open Classical in
noncomputable def nZ (a b:Er):Bool:=decide (a=b)
theorem rD(a b:Er):nZ a b=true ↔ a=b:=by unfold nZ;simp
theorem xG(a:Er):nZ a a=true:=(rD a a).2 rfl
end
inductive Sgn where
 | lf (k n:Int) (rs:List (Int × Int))
 | op (n:Nat)
 | cl
 | al
 | rp (a b:Int)
inductive Ps where
 | lf (k n:Int) (rs:List (Int × Int))
 | grp (n:Nat) (x:Ps)
 | rep (a b:Int) (x:Ps)
 | row (l:List Ps)
 | alt (l:List Ps)
mutual
def Ps.sz:Ps->Nat
 | .lf _ _ _=>1
 | .grp _ x=>x.sz+1
 | .rep _ _ x=>x.sz+1
 | .row l=>eU l+1
 | .alt l=>eU l+1
def eU:List Ps->Nat
 | []=>0
 | x :: l=>x.sz+eU l
end
mutual
def Ps.dp:Ps->Nat
 | .lf _ _ _=>1
 | .grp _ x=>x.dp+1
 | .rep _ _ x=>x.dp+1
 | .row l=>eF l+1
 | .alt l=>eF l+1
def eF:List Ps->Nat
 | []=>0
 | x :: l=>max x.dp (eF l)
end
mutual
def pfl:Ps->List Sgn
 | .lf k n rs=>[.lf k n rs]
 | .grp n x=>.op n :: (pfl x ++ [.cl])
 | .rep a b x=>pfl x ++ [.rp a b]
 | .row l=>cD l
 | .alt l=>cE l
def cD:List Ps->List Sgn
 | []=>[]
 | x :: l=>pfl x ++ cD l
def cE:List Ps->List Sgn
 | []=>[]
 | x :: l=>pfl x ++ cY l
def cY:List Ps->List Sgn
 | []=>[]
 | x :: l=>.al :: (pfl x ++ cY l)
end
mutual
def te:Ps->Er
 | .lf k n rs=>.mk k n 0 0 rs []
 | .grp n x=>.mk 7 n 0 0 [] [te x]
 | .rep a b x=>.mk 9 0 a b [] [te x]
 | .row l=>if l.isEmpty then .mk 1 0 0 0 [] [] else .mk 5 0 0 0 [] (tes l)
 | .alt l=>.mk 6 0 0 0 [] (tes l)
def tes:List Ps->List Er
 | []=>[]
 | x :: l=>te x :: tes l
end
theorem gG(l:List Ps):tes l=l.map te:=by
 induction l with
 | nil=>rw [tes];rfl
 | cons x l ih=>rw [tes,ih];rfl
def Ps.kd:Ps->Int
 | .lf k _ _=>k
 | .grp _ _=>7
 | .rep _ _ _=>9
 | .row l=>if l.isEmpty then 1 else 5
 | .alt _=>6
def cC:Ps->Bool
 | .row _=>false
 | .alt _=>false
 | _=>true
def hZ:Ps->Bool
 | .alt _=>false
 | _=>true
def lM:Ps->Bool
 | .lf k _ _=>k==2 || k==8
 | .grp _ _=>true
 | .rep _ _ _=>true
 | _=>false
def wU(l:List Ps):Prop:=∀ (i:Nat) (x:Ps),l[i]?=some x->cC x=true/\(x.kd=3->i=0)/\(x.kd=4->i+1=l.length)
mutual
def wf:Ps->Prop
 | .lf k _ _=>k=2\/k=3\/k=4\/k=8
 | .grp _ x=>wf x
 | .rep _ _ x=>lM x=true/\wf x
 | .row l=>l.length≠1/\wU l/\wfs l
 | .alt l=>2<=l.length/\(∀ x∈l,hZ x=true)/\wfs l
def wfs:List Ps->Prop
 | []=>True
 | x :: l=>wf x/\wfs l
end
theorem dA(l:List Ps):wfs l ↔ ∀ x∈l,wf x:=by
 induction l with
 | nil=>rw [wfs];simp
 | cons x l ih=>rw [wfs,ih];simp
theorem bX(a b:List Ps):cD (a ++ b)=cD a ++ cD b:=by
 induction a with
 | nil=>rw [cD];rfl
 | cons x a ih=>rw [List.cons_append,cD,cD,ih,List.append_assoc]
theorem oC(a b:List Ps):cY (a ++ b)=cY a ++ cY b:=by
 induction a with
 | nil=>rw [cY];rfl
 | cons x a ih=>rw [List.cons_append,cY,cY,ih];simp
theorem dF(x:Ps):cD [x]=pfl x:=by rw [cD,cD,List.append_nil]
theorem vA(x:Ps):cY [x]=.al :: pfl x:=by rw [cY,cY,List.append_nil]
theorem aE9(x:Ps)(l:List Ps):cE (x :: l)=pfl x ++ cY l:=by rw [cE]
theorem iY(x:Ps):1<=x.sz:=by cases x <;> simp [Ps.sz]
theorem eI(x:Ps)(l:List Ps):eU (x :: l)=x.sz+eU l:=by rw [eU]
theorem iO:eU []=0:=by rw [eU]
theorem kQ{x:Ps}{l:List Ps}(h:x∈l):x.sz<=eU l:=by
 induction l with
 | nil=>cases h
 | cons y l ih=>
  rw [eI]
  rcases List.mem_cons.1 h with rfl | h
  ·omega
  ·have:=ih h;omega
def Ps.kids:Ps->List Ps
 | .lf _ _ _=>[]
 | .grp _ x=>[x]
 | .rep _ _ x=>[x]
 | .row l=>l
 | .alt l=>l
theorem tC{x y:Ps}(h:y∈x.kids):y.sz < x.sz:=by
 cases x with
 | lf=>cases h
 | grp n k=>simp [Ps.kids] at h;subst h;simp [Ps.sz]
 | rep a b k=>simp [Ps.kids] at h;subst h;simp [Ps.sz]
 | row l=>have:=kQ (show y∈l from h);simp [Ps.sz];omega
 | alt l=>have:=kQ (show y∈l from h);simp [Ps.sz];omega
theorem Ps.ind{P:Ps->Prop}(h:∀ x,(∀ y∈x.kids,P y)->P x)(x:Ps):P x:=by
 have:∀ (m:Nat) (x:Ps),x.sz<=m->P x:=by
  intro m
  induction m with
  | zero=>intro x hx;have:=iY x;omega
  | succ m ih=>intro x hx;exact h x fun y hy=>ih y (by have:=tC hy;omega)
 exact this x.sz x lz9
theorem bC5{x y:Ps}(h:wf x)(hy:y∈x.kids):wf y:=by
 cases x with
 | lf=>cases hy
 | grp n k=>simp [Ps.kids] at hy;subst hy;rw [wf] at h;exact h
 | rep a b k=>simp [Ps.kids] at hy;subst hy;rw [wf] at h;exact h.2
 | row l=>rw [wf] at h;exact(dA l).1 h.2.2 y hy
 | alt l=>rw [wf] at h;exact(dA l).1 h.2.2 y hy
def okp:Option Sgn->Sgn->Prop
 | p,.rp _ _=>(∃ k n rs,p=some (.lf k n rs)/\(k=2\/k=8))\/p=some .cl\/∃ a b,p=some (.rp a b)
 | p,.lf k _ _=>(k=2\/k=3\/k=4\/k=8)/\(k=3->p=none\/p=some .al\/∃ n,p=some (.op n))/\∀ n rs,p≠some (.lf 4 n rs)
 | p,.op _=>∀ n rs,p≠some (.lf 4 n rs)
 | _,.cl=>True
 | _,.al=>True
def adj:Option Sgn->List Sgn->Prop
 | _,[]=>True
 | p,x :: l=>okp p x/\adj (some x) l
def hk:Nat->List Nat->List Nat->List Sgn->Prop
 | _,o,_,[]=>o=[]
 | g,o,e,.op n :: l=>n=g+1/\g < 30/\hk (g+1) (n :: o) e l
 | g,o,e,.cl :: l=>∃ n o',o=n :: o'/\hk g o' (n :: e) l
 | g,o,e,.lf k n _ :: l=>(k=8->∃ i∈e,n=(i:Int))/\hk g o e l
 | g,o,e,_ :: l=>hk g o e l
def mkB(l:List Ps):Ps:=match l with
 | [x]=>x
 | l=>.row l
def mkP(l:List Ps):Ps:=match l with
 | [x]=>x
 | l=>.alt l
theorem iP(l:List Ps):pfl (mkB l)=cD l:=by
 unfold mkB
 split
 ·rw [dF]
 ·rw [pfl]
theorem mN(b:List Ps)(x:Ps):pfl (mkP (b ++ [x]))=cE (b ++ [x]):=by
 unfold mkP
 split
 ·rename_i y h;rw [h,aE9,cY,List.append_nil]
 ·rw [pfl]
theorem nK{l:List Ps}(h:wU l)(hw:wfs l):wf (mkB l)/\hZ (mkB l)=true:=by
 unfold mkB
 split
 ·rename_i x
  refine⟨(dA _).1 hw x (by simp),?_⟩
  have:=(h 0 x rfl).1
  cases x <;> simp_all [cC,hZ]
 ·rename_i hne
  refine⟨?_,rfl⟩
  rw [wf]
  refine⟨fun hl=>?_,h,hw⟩
  match l,hl with
  | [x],_=>exact hne x rfl
theorem aN5{l:List Ps}(hl:l≠[])(h:∀ x∈l,hZ x=true)(hw:wfs l):wf (mkP l):=by
 unfold mkP
 split
 ·rename_i x
  exact(dA _).1 hw x (by simp)
 ·rename_i hne
  rw [wf]
  refine⟨?_,h,hw⟩
  match l,hl with
  | [x],_=>exact absurd rfl (hne x)
  | _ :: _ :: _,_=>simp
structure Pf where
 n:Nat
 b:List Ps
 i:List Ps
def iR(f:Pf):List Sgn:=f.b.flatMap (fun x=>pfl x ++ [.al]) ++ cD f.i
def jJ:List Pf->List Sgn
 | []=>[]
 | [f]=>iR f
 | f :: g :: r=>jJ (g :: r) ++ .op f.n :: iR f
theorem rN(b:List Ps)(x:Ps):cE (b ++ [x])=b.flatMap (fun x=>pfl x ++ [.al]) ++ pfl x:=by
 have:∀ (b:List Ps) (x:Ps),Sgn.al :: (b.flatMap (fun x=>pfl x ++ [.al]) ++ pfl x)=cY (b ++ [x]):=by
  intro b
  induction b with
  | nil=>intro x;rw [List.nil_append,vA];rfl
  | cons y b ih=>intro x;rw [List.cons_append,cY,<- ih];simp
 cases b with
 | nil=>rw [List.nil_append,cE,cY];simp
 | cons y b=>rw [List.cons_append,cE,<- this];simp
def bH1:Option Sgn->List Ps->Prop
 | none,l=>l=[]
 | some (.op _),l=>l=[]
 | some .al,l=>l=[]
 | some (.lf k n rs),l=>∃ a,l=a ++ [.lf k n rs]
 | some _,l=>∃ a x,l=a ++ [x]/\lM x=true
structure bJ4(f:Pf):Prop where
 br:∀ x∈f.b,hZ x=true/\wf x
 an:wU f.i
 wf:wfs f.i
def no4(l:List Ps):Prop:=∀ x∈l,x.kd≠4
theorem sB{l:List Ps}{x:Ps}(h:wU l)(h4:no4 l)(hx:cC x=true)(h3:x.kd=3->l=[]):wU (l ++ [x]):=by
 intro i y hy
 rcases Nat.lt_trichotomy i l.length with g | g | g
 ·rw [List.getElem?_append_left g] at hy
  exact⟨(h i y hy).1,(h i y hy).2.1,fun q=>absurd q (h4 y (List.mem_of_getElem? hy))⟩
 ·subst g
  rw [List.getElem?_append_right lz9,Nat.sub_self] at hy
  simp at hy
  subst hy
  exact⟨hx,fun q=>by rw [h3 q];rfl,fun _=>by simp⟩
 ·rw [List.getElem?_append_right (by omega),List.getElem?_eq_none (by simp;omega)] at hy
  cases hy
theorem mA{x:Ps}(h:lM x=true):cC x=true/\x.kd≠3/\x.kd≠4:=by
 cases x with
 | lf k n rs=>
  simp [lM] at h
  rcases h with rfl | rfl <;> simp [cC,Ps.kd]
 | grp=>simp [cC,Ps.kd]
 | rep=>simp [cC,Ps.kd]
 | row=>simp [lM] at h
 | alt=>simp [lM] at h
theorem zI{p:Option Sgn}{l:List Ps}(h:bH1 p l)(ha:wU l)(hp:∀ n rs,p≠some (.lf 4 n rs)):no4 l:=by
 have key:∀ a x,l=a ++ [x]->x.kd≠4->no4 l:=by
  rintro a x rfl hx y hy h4
  obtain⟨i,hi,e⟩:=List.getElem_of_mem hy
  have h1:(a ++ [x])[i]?=some y:=by rw [List.getElem?_eq_getElem hi,e]
  have h2:=(ha i y h1).2.2 h4
  rw [List.length_append,List.length_singleton] at h2
  have h3:i=a.length:=by omega
  subst h3
  rw [List.getElem?_append_right lz9,Nat.sub_self] at h1
  simp at h1
  subst h1
  exact hx h4
 match p,h with
 | none,h=>rw [show l=[] from h];intro x hx;cases hx
 | some (.op _),h=>rw [show l=[] from h];intro x hx;cases hx
 | some .al,h=>rw [show l=[] from h];intro x hx;cases hx
 | some (.lf k n rs),⟨a,e⟩=>exact key a _ e (fun q=>hp n rs (by rw [show k=4 from q]))
 | some .cl,⟨a,x,e,hx⟩=>exact key a x e (mA hx).2.2
 | some (.rp _ _),⟨a,x,e,hx⟩=>exact key a x e (mA hx).2.2
theorem jL{l:List Ps}{x:Ps}(h:wfs l)(hx:wf x):wfs (l ++ [x]):=by
 rw [dA] at h ⊢
 intro y hy
 rcases List.mem_append.1 hy with q | q
 ·exact h y q
 ·simp at q;subst q;exact hx
theorem nG:∀ (L:List Sgn) (f:Pf) (st:List Pf) (p:Option Sgn) (g:Nat) (o e:List Nat),bJ4 f->(∀ h∈st,bJ4 h/\no4 h.i)->bH1 p f.i->adj p L->hk g o e L->o.length=st.length ->
  ∃ x,wf x/\pfl x=jJ (f :: st) ++ L
 | [],f,st,p,g,o,e,h1,h2,h3,h4,h5,h6=>by
  have h7:o=[]:=h5
  subst h7
  obtain rfl:=List.eq_nil_of_length_eq_zero h6.symm
  refine⟨mkP (f.b ++ [mkB f.i]),aN5 (by simp) ?_ ?_,?_⟩
  ·intro x hx
   rcases List.mem_append.1 hx with q | q
   ·exact(h1.br x q).1
   ·simp at q;subst q;exact(nK h1.an h1.wf).2
  ·exact jL ((dA _).2 fun x hx=>(h1.br x hx).2) (nK h1.an h1.wf).1
  ·rw [mN,rN,iP,List.append_nil]
   rfl
 | .lf k n rs :: L,f,st,p,g,o,e,h1,h2,h3,h4,h5,h6=>by
  obtain⟨⟨k1,k2,k3⟩,ha⟩:=h4
  obtain⟨x,hx,hf⟩:=nG L ⟨f.n,f.b,f.i ++ [.lf k n rs]⟩ st (some (.lf k n rs)) g o e
   ⟨h1.br,sB h1.an (zI h3 h1.an k3) rfl (fun q=>by
    rcases k2 q with rfl | rfl | ⟨m,rfl⟩ <;> exact h3),jL h1.wf (by rw [wf];exact k1)⟩ h2 ⟨f.i,rfl⟩ ha h5.2 h6
  refine⟨x,hx,hf.trans ?_⟩
  cases st with
  | nil=>simp [jJ,iR,bX,dF,pfl]
  | cons h st=>simp [jJ,iR,bX,dF,pfl]
 | .op n :: L,f,st,p,g,o,e,h1,h2,h3,h4,h5,h6=>by
  obtain⟨k3,ha⟩:=h4
  obtain⟨x,hx,hf⟩:=nG L ⟨n,[],[]⟩ (f :: st) (some (.op n)) (g+1) (n :: o) e
   ⟨fun x hx=>(by cases hx),fun i x hx=>(by simp at hx),by rw [wfs];trivial⟩ (fun h hh=>by
    rcases List.mem_cons.1 hh with rfl | hh
    ·exact⟨h1,zI h3 h1.an k3⟩
    ·exact h2 h hh) rfl ha h5.2.2 (by simp [h6])
  refine⟨x,hx,hf.trans ?_⟩
  simp [jJ,iR,cD]
 | .cl :: L,f,st,p,g,o,e,h1,h2,h3,h4,h5,h6=>by
  obtain⟨n,o',rfl,h7⟩:=h5
  match st,h6 with
  | u :: st,h6=>
   have hu:=h2 u (List.mem_cons_self ..)
   have hP:wf (mkP (f.b ++ [mkB f.i])):=by
    refine aN5 (by simp) (fun x hx=>?_) (jL ((dA _).2 fun x hx=>(h1.br x hx).2) (nK h1.an h1.wf).1)
    rcases List.mem_append.1 hx with q | q
    ·exact(h1.br x q).1
    ·simp at q;subst q;exact(nK h1.an h1.wf).2
   obtain⟨x,hx,hf⟩:=nG L ⟨u.n,u.b,u.i ++ [.grp f.n (mkP (f.b ++ [mkB f.i]))]⟩ st (some .cl) g o' (n :: e)
    ⟨hu.1.br,sB hu.1.an hu.2 rfl (fun q=>by cases q),jL hu.1.wf (by rw [wf];exact hP)⟩ (fun h hh=>h2 h (List.mem_cons_of_mem _ hh)) ⟨u.i,_,rfl,rfl⟩ h4.2 h7 (by simpa using h6)
   refine⟨x,hx,hf.trans ?_⟩
   have e1:pfl (.grp f.n (mkP (f.b ++ [mkB f.i])))=.op f.n :: (iR f ++ [.cl]):=by
    rw [pfl,mN,rN,iP];rfl
   cases st with
   | nil=>simp [jJ,iR,bX,dF,e1]
   | cons h st=>simp [jJ,iR,bX,dF,e1]
 | .al :: L,f,st,p,g,o,e,h1,h2,h3,h4,h5,h6=>by
  obtain⟨x,hx,hf⟩:=nG L ⟨f.n,f.b ++ [mkB f.i],[]⟩ st (some .al) g o e
   ⟨fun x hx=>(by
    rcases List.mem_append.1 hx with q | q
    ·exact h1.br x q
    ·simp at q;subst q;exact⟨(nK h1.an h1.wf).2,(nK h1.an h1.wf).1⟩),fun i x hx=>(by simp at hx),by rw [wfs];trivial⟩ h2 rfl h4.2 h5 h6
  refine⟨x,hx,hf.trans ?_⟩
  cases st with
  | nil=>simp [jJ,iR,iP,cD]
  | cons h st=>simp [jJ,iR,iP,cD]
 | .rp a b :: L,f,st,p,g,o,e,h1,h2,h3,h4,h5,h6=>by
  obtain⟨k,ha⟩:=h4
  have hh:∃ a0 x,f.i=a0 ++ [x]/\lM x=true:=by
   rcases k with⟨k,n,rs,rfl,hk⟩ | rfl | ⟨a,b,rfl⟩
   ·obtain⟨a0,e⟩:=h3
    exact⟨a0,_,e,by rcases hk with rfl | rfl <;> rfl⟩
   ·exact h3
   ·exact h3
  obtain⟨a0,y,e,hy⟩:=hh
  have hw:wfs a0/\wf y:=by
   have:=(dA _).1 h1.wf
   rw [e] at this
   exact⟨(dA _).2 fun z hz=>this z (List.mem_append_left _ hz),this y (by simp)⟩
  have hA:wU (a0 ++ [.rep a b y]):=by
   intro i z hz
   rcases Nat.lt_trichotomy i a0.length with g | g | g
   ·rw [List.getElem?_append_left g] at hz
    have:=h1.an i z (by rw [e,List.getElem?_append_left g];exact hz)
    rw [e] at this
    simpa using this
   ·subst g
    rw [List.getElem?_append_right lz9,Nat.sub_self] at hz
    simp at hz
    subst hz
    exact⟨rfl,fun q=>(by cases q),fun q=>(by cases q)⟩
   ·rw [List.getElem?_append_right (by omega),List.getElem?_eq_none (by simp;omega)] at hz
    cases hz
  obtain⟨x,hx,hf⟩:=nG L ⟨f.n,f.b,a0 ++ [.rep a b y]⟩ st (some (.rp a b)) g o _
   ⟨h1.br,hA,jL hw.1 (by rw [wf];exact⟨hy,hw.2⟩)⟩ h2 ⟨a0,_,rfl,rfl⟩ ha h5 h6
  refine⟨x,hx,hf.trans ?_⟩
  have e2:cD f.i=cD a0 ++ pfl y:=by rw [e,bX,dF]
  cases st with
  | nil=>simp [jJ,iR,bX,dF,e2,pfl]
  | cons h st=>simp [jJ,iR,bX,dF,e2,pfl]
theorem aW0{L:List Sgn}(ha:adj none L)(hh:hk 0 [] [] L):∃ x,wf x/\pfl x=L:=by
 obtain⟨x,h1,h2⟩:=nG L ⟨0,[],[]⟩ [] none 0 [] [] ⟨fun x hx=>(by cases hx),fun i x hx=>(by simp at hx),by rw [wfs];trivial⟩ (fun h hh=>by cases hh) rfl ha hh rfl
 exact⟨x,h1,by rw [h2];simp [jJ,iR,cD]⟩
section
open Go
def wd(s:ByteArray)(p:Nat):Nat:=(Utf8.decode s p).2
def bad(s:ByteArray)(p:Nat):Bool:=decide (Utf8.decode s p=(65533,1))
def ch(s:ByteArray)(p:Nat):Int:=if bad s p then -1 else (Utf8.decode s p).1
def bt(s:ByteArray)(i:Nat):Nat:=(s.data.toList.getD i 0).toNat
theorem fW(s:ByteArray)(i:Nat):bt s i < 256:=UInt8.toNat_lt _
theorem bN(s:ByteArray):s.data.toList.length=s.size:=(Lib.size_eq s).symm
theorem gD(s:ByteArray)(p:Nat):Utf8.decode s p=Lib.decodeN (s.size - p) (bt s p) (bt s (p+1)) (bt s (p+2)) (bt s (p+3)):=by
 rw [Lib.decode_N,bN];rfl
theorem bC6(s:ByteArray)(p:Nat):1<=wd s p:=Lib.width_pos s p
theorem aP5(s:ByteArray)(p:Nat):(Utf8.decode s p).1<=1114111:=Lib.rune_le s p
theorem fQ(n b0 b1 b2 b3:Nat):Lib.decodeN n b0 b1 b2 b3=(65533,1)\/(b0 < 128/\Lib.decodeN n b0 b1 b2 b3=(b0,1)) \/
  (1 < n/\b0 / 32=6/\b1 / 64=2/\128<=b0 % 32 * 64+b1 % 64/\Lib.decodeN n b0 b1 b2 b3=(b0 % 32 * 64+b1 % 64,2)) \/
  (2 < n/\b0 / 16=14/\b1 / 64=2/\b2 / 64=2/\2048<=b0 % 16 * 4096+b1 % 64 * 64+b2 % 64/\(b0 % 16 * 4096+b1 % 64 * 64+b2 % 64 < 55296\/57344<=b0 % 16 * 4096+b1 % 64 * 64+b2 % 64)/\Lib.decodeN n b0 b1 b2 b3=(b0 % 16 * 4096+b1 % 64 * 64+b2 % 64,3)) \/
  (3 < n/\b0 / 8=30/\b1 / 64=2/\b2 / 64=2/\b3 / 64=2/\65536<=b0 % 8 * 262144+b1 % 64 * 4096+b2 % 64 * 64+b3 % 64/\b0 % 8 * 262144+b1 % 64 * 4096+b2 % 64 * 64+b3 % 64<=1114111/\Lib.decodeN n b0 b1 b2 b3=(b0 % 8 * 262144+b1 % 64 * 4096+b2 % 64 * 64+b3 % 64,4)):=by
 unfold Lib.decodeN
 by_cases h0:b0 < 128
 ·rw [if_pos h0];exact .inr (.inl ⟨h0,rfl⟩)
 rw [if_neg h0]
 split
 ·rename_i h
  split
  ·rename_i g
   exact .inr (.inr (.inl ⟨h.2.1,h.1,h.2.2,g,rfl⟩))
  ·exact .inl rfl
 split
 ·rename_i h
  split
  ·rename_i g
   exact .inr (.inr (.inr (.inl ⟨h.2.2.1,h.1,h.2.1.2,h.2.2.2,g.1,by omega,rfl⟩)))
  ·exact .inl rfl
 split
 ·rename_i h
  split
  ·rename_i g
   exact .inr (.inr (.inr (.inr ⟨h.2.2.2.1,h.1,h.2.1.2,h.2.2.1.2,h.2.2.2.2,g.1,by omega,rfl⟩)))
  ·exact .inl rfl
 exact .inl rfl
theorem bH0(s:ByteArray)(p:Nat)(h:p < s.size):wd s p<=4/\p+wd s p<=s.size:=by
 unfold wd
 rw [gD]
 rcases fQ (s.size - p) (bt s p) (bt s (p+1)) (bt s (p+2)) (bt s (p+3)) with e | ⟨_,e⟩ | ⟨_,_,_,_,e⟩ | ⟨_,_,_,_,_,_,e⟩ | ⟨_,_,_,_,_,_,_,e⟩
 all_goals (rw [e];simp only;omega)
theorem yW{s:ByteArray}{p:Nat}(h:bad s p=true):ch s p=-1/\wd s p=1/\(Utf8.decode s p).1=65533:=by
 have e:Utf8.decode s p=(65533,1):=by simpa [bad] using h
 simp [ch,h,wd,e]
theorem mY{s:ByteArray}{p:Nat}(h:bad s p=false):ch s p=(Utf8.decode s p).1:=by simp [ch,h]
theorem aW1(l:List UInt8)(a b c:UInt8):Lib.hasPrefix l [a,b,c]=(decide (2 < l.length) && l.getD 0 0==a && l.getD 1 0==b && l.getD 2 0==c):=by
 unfold Lib.hasPrefix
 match l with
 | []=>simp [List.isPrefixOf]
 | [x]=>simp [List.isPrefixOf]
 | [x,y]=>simp [List.isPrefixOf]
 | x :: y :: z :: t=>
  rw [Bool.eq_iff_iff]
  simp [List.isPrefixOf]
  grind
theorem fV(s:ByteArray)(p:Nat):(s.extract p s.size).data.toList=s.data.toList.drop p:=by
 rw [ByteArray.data_extract,Array.toList_extract,List.extract_eq_take_drop,List.take_of_length_le (by rw [List.length_drop,bN];omega)]
theorem bA0(s:ByteArray)(p:Nat)(h:p < s.size)(hr:(Utf8.decode s p).1=65533):Lib.hasPrefix (s.data.toList.drop p) [239,191,189]=!bad s p:=by
 rw [aW1]
 have g0:(s.data.toList.drop p).getD 0 0=s.data.toList.getD p 0:=by simp [List.getD_eq_getElem?_getD]
 have g1:(s.data.toList.drop p).getD 1 0=s.data.toList.getD (p+1) 0:=by simp [List.getD_eq_getElem?_getD]
 have g2:(s.data.toList.drop p).getD 2 0=s.data.toList.getD (p+2) 0:=by simp [List.getD_eq_getElem?_getD]
 rw [g0,g1,g2]
 have toN:∀ (i:Nat) (k:UInt8),(s.data.toList.getD i 0==k)=decide (bt s i=k.toNat):=fun i k=>by
  unfold bt
  rw [Bool.eq_iff_iff]
  simp [UInt8.toNat_inj]
 rw [toN,toN,toN]
 have hl:(s.data.toList.drop p).length=s.size - p:=by rw [List.length_drop,bN]
 rw [hl]
 have e:=gD s p
 rw [e] at hr
 unfold bad
 rw [e]
 have q0:=fW s p
 have q1:=fW s (p+1)
 have q2:=fW s (p+2)
 have q3:=fW s (p+3)
 rw [Bool.eq_iff_iff]
 simp only [Bool.and_eq_true,decide_eq_true_eq,Bool.not_eq_true',decide_eq_false_iff_not]
 show (((2 < s.size - p/\bt s p=239)/\bt s (p+1)=191)/\bt s (p+2)=189) ↔ _
 rcases fQ (s.size - p) (bt s p) (bt s (p+1)) (bt s (p+2)) (bt s (p+3)) with k | ⟨_,k⟩ | ⟨_,_,_,_,k⟩ | ⟨_,_,_,_,_,_,k⟩ | ⟨_,_,_,_,_,_,_,k⟩
 ·rw [k]
  simp only [not_true,iff_false]
  rintro ⟨⟨⟨h1,h2⟩,h3⟩,h4⟩
  rw [h2,h3,h4] at k
  unfold Lib.decodeN at k
  simp at k
  omega
 ·rw [k] at hr ⊢
  simp only at hr
  omega
 ·rw [k] at hr ⊢
  simp only at hr
  omega
 ·rw [k] at hr ⊢
  simp only at hr
  simp
  omega
 ·rw [k] at hr ⊢
  simp only at hr
  omega
def bB4(s:ByteArray):Nat->Nat->List (Nat × Int)
 | 0,_=>[]
 | f+1,p=>if p < s.size then (p,ch s p) :: bB4 s f (p+wd s p) else []
def us(s:ByteArray):List (Nat × Int):=bB4 s s.size 0
end
def top(m:Bool):Int:=if m then 1114111 else 255
def bK(m:Bool)(c:Int):Prop:=0<=c/\c<=top m/\(m=true->c < 55296\/57343 < c)
def bS(m:Bool):List (Int × Int):=if m then [(0,55295),(57344,1114111)] else [(0,255)]
theorem dP(m:Bool):IsC (bS m) (bK m):=by
 cases m with
 | true=>
  refine⟨⟨by simp [bS],by simp [bS]⟩,fun r hr=>?_,fun c=>?_⟩
  ·simp [bS] at hr
   rcases hr with rfl | rfl <;> simp
  ·simp [bS,In,bK,top]
   omega
 | false=>
  refine⟨⟨by simp [bS],by simp [bS]⟩,fun r hr=>?_,fun c=>?_⟩
  ·simp [bS] at hr
   subst hr;simp
  ·simp [bS,In,bK,top]
theorem cF(m:Bool):(bS m).length<=2:=by cases m <;> simp [bS]
theorem bB5(m:Bool)(w:World):Calls Tryz.prog 148 #[.bool m] w fun e w'=>e=.returned (.int .i64 (top m))/\w'=w:=by
 cases m with
 | true=>
  go_enter Tryz.func148,Tryz.ntmps148
  go_wp2
  go_ret
  exact⟨rfl,rfl⟩
 | false=>
  go_enter Tryz.func148,Tryz.ntmps148
  go_wp2
  go_ret
  exact⟨rfl,rfl⟩
theorem aB7(m:Bool)(w:World):Calls Tryz.prog 129 #[.bool m] w fun e w'=>∃ v,e=.returned v/\RR w.heap.size w' v (bS m)/\Below w.heap.size w w':=by
 cases m with
 | true=>
  go_enter Tryz.func129,Tryz.ntmps129
  go_wp2_with (go_at_call 148;refine(bB5 _ _).mono ?_;rintro e w5 ⟨rfl,h5⟩;subst w5)
  go_ret
  exact⟨_,rfl,World.ownsRow_lit w #[.int .i64 0,.int .i64 55295,.int .i64 57344,.int .i64 1114111] 2 lz9 (by unfold maxLen;omega) rfl,bz9⟩
 | false=>
  go_enter Tryz.func129,Tryz.ntmps129
  go_wp2_with (go_at_call 148;refine(bB5 _ _).mono ?_;rintro e w5 ⟨rfl,h5⟩;subst w5)
  go_ret
  exact⟨_,rfl,World.ownsRow_lit w #[.int .i64 0,.int .i64 255] 1 lz9 (by unfold maxLen;omega) rfl,bz9⟩
section
open Go
structure Md where
 c:Bool
 f:Bool
abbrev Rs(α:Type):=Except (Nat × Nat) α
def aJ(s:ByteArray)(p:Nat)(t:List UInt8):Bool:=Lib.hasPrefix (s.data.toList.drop p) t
def un(m:Md)(s:ByteArray)(p:Nat):Int × Nat:=if m.c then (ch s p,wd s p) else ((bt s p:Int),1)
def chr(m:Md)(s:ByteArray)(p:Nat):Rs (Int × Nat):=if (un m s p).1 < 0 then .error (20,p) else .ok ((un m s p).1,p+(un m s p).2)
def fnd(s:ByteArray)(t:List UInt8)(k:Nat):Option Nat:=
 if Lib.index (s.data.toList.drop k) t < 0 then none else some (k+(Lib.index (s.data.toList.drop k) t).toNat)
def wit(s:ByteArray)(o p k:Nat):Rs Nat:=
 match fnd s [UInt8.ofNat (bt s (p+1)),93] (p+2+min k (s.size - (p+2))) with
 | none=>.error (33,o)
 | some e=>.ok e
def jX(m:Md)(s:ByteArray)(o p:Nat):Rs (Int × Nat):=
 match wit s o p 1 with
 | .error e=>.error e
 | .ok e=>if (un m (s.extract (p+2) e) 0).1 < 0\/(un m (s.extract (p+2) e) 0).2 < e - (p+2) then .error (35,p) else .ok ((un m (s.extract (p+2) e) 0).1,e+2)
def jD(m:Md)(s:ByteArray)(o p:Nat):Rs (Int × Nat):=
 if p=s.size then .error (33,o) else if aJ s p [91,46] then jX m s o p else chr m s p
def spn(m:Md)(s:ByteArray)(o p:Nat):Rs (List (Int × Int) × Nat):=
 match jD m s o p with
 | .error e=>.error e
 | .ok (lo,q)=>
  if aJ s q [45,93] || !aJ s q [45] then .ok ([(lo,lo)],q)
  else if aJ s (q+1) [91,58] || aJ s (q+1) [91,61] then .error (34,p)
  else match jD m s o (q+1) with
   | .error e=>.error e
   | .ok (hi,r)=>if hi < lo then .error (34,p) else .ok ([(lo,hi)],r)
def nmd(s:ByteArray):Bool × List (Int × Int):=
 if s.toList==[97,108,110,117,109] then (true,[(48,57),(65,90),(97,122)])
 else if s.toList==[97,108,112,104,97] then (true,[(65,90),(97,122)])
 else if s.toList==[98,108,97,110,107] then (true,[(9,9),(32,32)])
 else if s.toList==[99,110,116,114,108] then (true,[(0,31),(127,127)])
 else if s.toList==[100,105,103,105,116] then (true,[(48,57)])
 else if s.toList==[103,114,97,112,104] then (true,[(33,126)])
 else if s.toList==[108,111,119,101,114] then (true,[(97,122)])
 else if s.toList==[112,114,105,110,116] then (true,[(32,126)])
 else if s.toList==[112,117,110,99,116] then (true,[(33,47),(58,64),(91,96),(123,126)])
 else if s.toList==[115,112,97,99,101] then (true,[(9,13),(32,32)])
 else if s.toList==[117,112,112,101,114] then (true,[(65,90)])
 else if s.toList==[120,100,105,103,105,116] then (true,[(48,57),(65,70),(97,102)])
 else (false,[])
def nam(s:ByteArray)(o p:Nat):Rs (List (Int × Int) × Nat):=
 match wit s o p 0 with
 | .error e=>.error e
 | .ok e=>if (nmd (s.extract (p+2) e)).1 then .ok ((nmd (s.extract (p+2) e)).2,e+2) else .error (35,p)
def sgl(m:Md)(s:ByteArray)(o p:Nat):Rs (List (Int × Int) × Nat):=
 if aJ s p [91,58] then nam s o p
 else if aJ s p [91,61] then (match jX m s o p with
  | .error e=>.error e
  | .ok (c,q)=>.ok ([(c,c)],q))
 else spn m s o p
def itm(m:Md)(s:ByteArray)(o p:Nat):Rs (List (Int × Int) × Nat):=
 if !aJ s p [45] || aJ s p [45,93] then sgl m s o p else if p+1=s.size then .error (33,o) else .error (34,p)
def its(m:Md)(s:ByteArray)(o:Nat):Nat->Nat->List (Int × Int)->Rs (List (Int × Int) × Nat)
 | 0,_,_=>.error (33,o)
 | f+1,p,l=>if aJ s p [93] then .ok (l,p+1) else match itm m s o p with
  | .error e=>.error e
  | .ok (l',q)=>its m s o f q (l ++ l')
structure Tk where
 kind:Nat
 n:Nat
 mn:Int
 mx:Int
 q:Int->Prop
def rU(Q:Int->Prop)(c:Int):Prop:=Q c\/(Q (c - 32)/\65<=c - 32/\c - 32<=90)\/(Q (c+32)/\97<=c+32/\c+32<=122)
def cP(m:Md)(L:List (Int × Int))(t:Bool)(c:Int):Prop:=
 bK m.c c/\(if t then ¬ (if m.f then rU (In L) c else In L c) else if m.f then rU (In L) c else In L c)
def bB(m:Md)(L:List (Int × Int))(t:Bool):Tk:=⟨1,0,0,0,cP m L t⟩
def kT(k:Nat):Tk:=⟨k,0,0,0,fun _=>False⟩
def cQ(a b:Int):Tk:=⟨2,0,a,b,fun _=>False⟩
def cX(n:Nat):Tk:=⟨6,n,0,0,fun _=>False⟩
def brk(m:Md)(s:ByteArray)(p:Nat):Rs (Tk × Nat):=
 match sgl m s p (if aJ s (p+1) [94] then p+2 else p+1) with
 | .error e=>.error e
 | .ok (l,r)=>match its m s p (s.size+1) r l with
  | .error e=>.error e
  | .ok (l2,r2)=>.ok (bB m l2 (aJ s (p+1) [94]),r2)
def dig(b:UInt8):Bool:=48<=b && b<=57
def bQ(s:ByteArray)(p:Nat):List UInt8:=(s.data.toList.drop p).takeWhile dig
def fE(l:List UInt8):Nat:=l.foldl (fun n d=>min (10 * n+(d.toNat - 48)) 256) 0
def ivQ(s:ByteArray)(p:Nat):Nat:=p+2+(bQ s (p+2)).length
def ivB(s:ByteArray)(p:Nat):Int:=if aJ s (ivQ s p) [44] then (if (bQ s (ivQ s p+1)).length=0 then -1 else (fE (bQ s (ivQ s p+1)):Int)) else (fE (bQ s (p+2)):Int)
def ivR(s:ByteArray)(p:Nat):Nat:=if aJ s (ivQ s p) [44] then ivQ s p+1+(bQ s (ivQ s p+1)).length else ivQ s p
def dY(s:ByteArray)(p:Nat):Rs (Tk × Nat):=
 if (bQ s (p+2)).length=0\/aJ s (ivR s p) [92,125]=false then .error (36,p)
 else if 255 < fE (bQ s (p+2))\/255 < ivB s p\/(ivB s p≠-1/\ivB s p < fE (bQ s (p+2))) then .error (37,p)
 else .ok (cQ (fE (bQ s (p+2))) (ivB s p),ivR s p+2)
def cS(last:Nat):Bool:=last==0 || last==3 || last==5 || last==7
def esc(m:Md)(s:ByteArray)(p last:Nat):Rs (Tk × Nat):=
 if p+1=s.size then .error (31,p)
 else if bt s (p+1)=40 then .ok (kT 3,p+2)
 else if bt s (p+1)=41 then .ok (kT 4,p+2)
 else if bt s (p+1)=124 then .ok (kT 5,p+2)
 else if 49<=bt s (p+1)/\bt s (p+1)<=57 then .ok (cX (bt s (p+1) - 48),p+2)
 else if bt s (p+1)=43\/bt s (p+1)=63\/bt s (p+1)=123 then
  if cS last then .error (38,p)
  else if bt s (p+1)=43 then .ok (cQ 1 (-1),p+2)
  else if bt s (p+1)=63 then .ok (cQ 0 1,p+2)
  else dY s p
 else if bt s (p+1)=46\/bt s (p+1)=91\/bt s (p+1)=93\/bt s (p+1)=42\/bt s (p+1)=94\/bt s (p+1)=36\/bt s (p+1)=92\/bt s (p+1)=47 then
  .ok (bB m [((bt s (p+1):Int),(bt s (p+1):Int))] false,p+2)
 else .error (32,p)
def iU(s:ByteArray)(p:Nat):Bool:=decide (p+1=s.size) || aJ s (p+1) [92,41] || aJ s (p+1) [92,124]
def tok(m:Md)(s:ByteArray)(p last:Nat):Rs (Tk × Nat):=
 if aJ s p [92] then esc m s p last
 else if aJ s p [42] && !cS last then .ok (cQ 0 (-1),p+1)
 else if aJ s p [94] && (p==0 || last==3 || last==5) then .ok (kT 7,p+1)
 else if aJ s p [36] && iU s p then .ok (kT 8,p+1)
 else if aJ s p [46] then .ok (bB m [] true,p+1)
 else if aJ s p [91] then brk m s p
 else match chr m s p with
  | .error e=>.error e
  | .ok (c,q)=>.ok (bB m [(c,c)] false,q)
abbrev Tp:=Tk × Nat × Nat
def cH(T:List Tp):Nat:=match T.getLast? with
 | none=>0
 | some t=>t.1.kind
def lx(m:Md)(s:ByteArray):Nat->Nat->List Tp->Rs (List Tp)
 | 0,_,_=>.error (30,0)
 | f+1,p,T=>
  if p < s.size then (match tok m s p (cH T) with
   | .error e=>.error e
   | .ok (t,q)=>lx m s f q (T ++ [(t,p,q)]))
  else .ok T
def gB(m:Md)(s:ByteArray):Rs (List Tp):=if 2000 < s.size then .error (30,0) else lx m s (s.size+1) 0 []
theorem bE{s:ByteArray}{p:Nat}{t:List UInt8}(h:aJ s p t=true)(ht:t≠[]):p+t.length<=s.size:=by
 have:=(List.isPrefixOf_iff_prefix.1 h).length_le
 rw [List.length_drop,bN] at this
 have:0 < t.length:=List.length_pos_iff.2 ht
 omega
theorem uK{s:ByteArray}{p:Nat}{t:List UInt8}:aJ s p t=true ↔ ∀ i x,t[i]?=some x->s.data.toList[p+i]?=some x:=by
 unfold aJ Lib.hasPrefix
 rw [List.isPrefixOf_iff_prefix,List.prefix_iff_getElem?]
 constructor
 ·intro h i x hx
  have:=h i (List.getElem?_eq_some_iff.1 hx).1
  rw [List.getElem?_drop] at this
  rw [this]
  exact congrArg some (List.getElem?_eq_some_iff.1 hx).2
 ·intro h i hi
  rw [List.getElem?_drop]
  exact h i _ (List.getElem?_eq_getElem hi)
theorem kD{s:ByteArray}{p:Nat}{x:UInt8}:s.data.toList[p]?=some x ↔ p < s.size/\bt s p=x.toNat:=by
 rw [<- bN]
 constructor
 ·intro h
  obtain⟨h1,h2⟩:=List.getElem?_eq_some_iff.1 h
  refine⟨h1,?_⟩
  unfold bt
  rw [List.getD_eq_getElem?_getD,h];rfl
 ·rintro ⟨h1,h2⟩
  rw [List.getElem?_eq_getElem h1]
  unfold bt at h2
  rw [List.getD_eq_getElem?_getD,List.getElem?_eq_getElem h1] at h2
  exact congrArg some (UInt8.toNat_inj.1 h2)
theorem pH{s:ByteArray}{p:Nat}{x:UInt8}:aJ s p [x]=true ↔ p < s.size/\bt s p=x.toNat:=by
 rw [uK]
 constructor
 ·intro h;exact kD.1 (h 0 x rfl)
 ·intro h i y hy
  match i,hy with
  | 0,hy=>cases hy;exact kD.2 h
  | i+1,hy=>simp at hy
theorem eE{s:ByteArray}{p:Nat}{x y:UInt8}:aJ s p [x,y]=true ↔ p+1 < s.size/\bt s p=x.toNat/\bt s (p+1)=y.toNat:=by
 rw [uK]
 constructor
 ·intro h
  have h0:=kD.1 (h 0 x rfl)
  have h1:=kD.1 (h 1 y rfl)
  exact⟨h1.1,h0.2,h1.2⟩
 ·intro h i z hz
  match i,hz with
  | 0,hz=>cases hz;exact kD.2 ⟨by omega,h.2.1⟩
  | 1,hz=>cases hz;exact kD.2 ⟨h.1,h.2.2⟩
  | i+2,hz=>simp at hz
theorem pS(s:ByteArray)(t:List UInt8)(k j:Nat):Lib.occAt (s.data.toList.drop k) t j=aJ s (k+j) t:=by
 unfold Lib.occAt aJ Lib.hasPrefix
 rw [List.drop_drop]
theorem eG{s:ByteArray}{t:List UInt8}{k e:Nat}(h:fnd s t k=some e):k<=e/\aJ s e t=true/\∀ j,k<=j->j < e->aJ s j t=false:=by
 unfold fnd at h
 split at h
 ·cases h
 ·rename_i hn
  cases h
  rcases Lib.index_spec (s.data.toList.drop k) t with⟨h1,-⟩ | ⟨i,h1,h2,h3,h4⟩
  ·rw [h1] at hn;omega
  ·rw [h1,Int.toNat_natCast]
   rw [pS] at h3
   refine⟨by omega,h3,fun j hj1 hj2=>?_⟩
   have:=h4 (j - k) (by omega)
   rw [pS,show k+(j - k)=j by omega] at this
   exact this
theorem aO6{s:ByteArray}{t:List UInt8}{k:Nat}(h:fnd s t k=none)(ht:t≠[]):∀ j,k<=j->aJ s j t=false:=by
 unfold fnd at h
 split at h
 ·rename_i hn
  rcases Lib.index_spec (s.data.toList.drop k) t with⟨-,h1⟩ | ⟨i,h1,h2,h3,h4⟩
  ·intro j hj
   rcases Nat.lt_or_ge j (s.size+1) with g | g
   ·have:=h1 (j - k) (by rw [List.length_drop,bN];omega)
    rw [pS,show k+(j - k)=j by omega] at this
    exact this
   ·cases hs:aJ s j t with
    | false=>rfl
    | true=>have:=bE hs ht;omega
  ·rw [h1] at hn;omega
 ·cases h
theorem bF6{s:ByteArray}{t:List UInt8}{k e:Nat}(ht:t≠[])(h1:k<=e)(h2:aJ s e t=true)(h3:∀ j,k<=j->j < e->aJ s j t=false):fnd s t k=some e:=by
 cases h:fnd s t k with
 | none=>rw [aO6 h ht e h1] at h2;cases h2
 | some x=>
  obtain⟨q1,q2,q3⟩:=eG h
  rcases Nat.lt_trichotomy x e with g | g | g
  ·rw [h3 x q1 g] at q2;cases q2
  ·rw [g]
  ·rw [q3 e h1 g] at h2;cases h2
theorem qD{s:ByteArray}{t:List UInt8}{k:Nat}(h3:∀ j,k<=j->aJ s j t=false):fnd s t k=none:=by
 cases h:fnd s t k with
 | none=>rfl
 | some x=>
  obtain⟨q1,q2,-⟩:=eG h
  rw [h3 x q1] at q2;cases q2
theorem lH(m:Md)(s:ByteArray)(p:Nat)(h:p < s.size):1<=(un m s p).2/\p+(un m s p).2<=s.size:=by
 unfold un
 split
 ·exact⟨bC6 s p,(bH0 s p h).2⟩
 ·simp only;omega
theorem bB3(m:Md)(s:ByteArray)(p:Nat):-1<=(un m s p).1/\(un m s p).1<=1114111:=by
 unfold un
 split
 ·simp only [ch]
  have:=aP5 s p
  split <;> omega
 ·have:=fW s p
  simp only;omega
def Rng{α:Type}(s:ByteArray)(p:Nat)(f:α->Nat)(r:Rs α):Prop:=match r with
 | .error (c,a)=>(c=20\/30<=c/\c<=38)/\a<=s.size
 | .ok x=>p < f x/\f x<=s.size
theorem tM(m:Md)(s:ByteArray)(p:Nat)(h:p < s.size):Rng s p Prod.snd (chr m s p):=by
 unfold chr
 have:=lH m s p h
 split
 ·exact⟨.inl rfl,by omega⟩
 ·exact⟨by simp only;omega,by simp only;omega⟩
theorem aH9{s:ByteArray}{o p k e:Nat}(h:wit s o p k=.ok e):p+2+min k (s.size - (p+2))<=e/\e+2<=s.size:=by
 unfold wit at h
 split at h
 ·cases h
 ·rename_i x hx
  cases h
  obtain⟨h1,h2,-⟩:=eG hx
  have:=bE h2 (by simp)
  simp at this
  omega
theorem zG(s:ByteArray)(o p k:Nat)(ho:o<=s.size):Rng s p (fun e=>e+2) (wit s o p k):=by
 cases h:wit s o p k with
 | error e=>
  unfold wit at h
  split at h
  ·cases h;exact⟨.inr (by omega),ho⟩
  ·cases h
 | ok e=>have:=aH9 h;exact⟨by simp only;omega,by simp only;omega⟩
theorem qG(m:Md)(s:ByteArray)(o p:Nat)(ho:o<=s.size)(hp:p<=s.size):Rng s p Prod.snd (jX m s o p):=by
 have:=zG s o p 1 ho
 unfold jX
 split
 ·rename_i e he;rw [he] at this;exact this
 ·rename_i e he
  rw [he] at this
  split
  ·exact⟨.inr (by omega),hp⟩
  ·exact⟨this.1,this.2⟩
theorem qE(m:Md)(s:ByteArray)(o p:Nat)(ho:o<=s.size)(hp:p<=s.size):Rng s p Prod.snd (jD m s o p):=by
 unfold jD
 split
 ·exact⟨.inr (by omega),ho⟩
 split
 ·exact qG m s o p ho hp
 ·exact tM m s p (by omega)
theorem aS9(m:Md)(s:ByteArray)(o p:Nat)(ho:o<=s.size)(hp:p<=s.size):Rng s p Prod.snd (spn m s o p):=by
 have h1:=qE m s o p ho hp
 unfold spn
 split
 ·rename_i e he;rw [he] at h1;exact h1
 ·rename_i lo q he
  rw [he] at h1
  split
  ·exact h1
  ·rename_i hq
   have hs:aJ s q [45]=true:=by
    cases hx:aJ s q [45] with
    | true=>rfl
    | false=>simp [hx] at hq
   have hl:=bE hs (by simp)
   simp at hl
   split
   ·exact⟨.inr (by omega),hp⟩
   ·have h2:=qE m s o (q+1) ho (by omega)
    split
    ·rename_i e hf;rw [hf] at h2;exact h2
    ·rename_i hi r hf
     rw [hf] at h2
     split
     ·exact⟨.inr (by omega),hp⟩
     ·exact⟨by have:=h1.1;have:=h2.1;simp only at *;omega,h2.2⟩
theorem zZ(s:ByteArray)(o p:Nat)(ho:o<=s.size)(hp:p<=s.size):Rng s p Prod.snd (nam s o p):=by
 have:=zG s o p 0 ho
 unfold nam
 split
 ·rename_i e he;rw [he] at this;exact this
 ·rename_i e he
  rw [he] at this
  split
  ·exact⟨this.1,this.2⟩
  ·exact⟨.inr (by omega),hp⟩
theorem mD(m:Md)(s:ByteArray)(o p:Nat)(ho:o<=s.size)(hp:p<=s.size):Rng s p Prod.snd (sgl m s o p):=by
 unfold sgl
 split
 ·exact zZ s o p ho hp
 split
 ·have h1:=qG m s o p ho hp
  split
  ·rename_i e he;rw [he] at h1;exact h1
  ·rename_i c q he;rw [he] at h1;exact h1
 ·exact aS9 m s o p ho hp
theorem tH(m:Md)(s:ByteArray)(o p:Nat)(ho:o<=s.size)(hp:p<=s.size):Rng s p Prod.snd (itm m s o p):=by
 unfold itm
 split
 ·exact mD m s o p ho hp
 split
 ·exact⟨.inr (by omega),ho⟩
 ·exact⟨.inr (by omega),hp⟩
theorem aA4(m:Md)(s:ByteArray)(o:Nat)(ho:o<=s.size):∀ (f p:Nat) (l:List (Int × Int)),p<=s.size->Rng s p Prod.snd (its m s o f p l)
 | 0,p,l,hp=>⟨.inr (by omega),ho⟩
 | f+1,p,l,hp=>by
  unfold its
  split
  ·rename_i h
   have:=bE h (by simp)
   simp at this
   exact⟨by simp only;omega,by simp only;omega⟩
  ·have h1:=tH m s o p ho hp
   split
   ·rename_i e he;rw [he] at h1;exact h1
   ·rename_i l' q he
    rw [he] at h1
    have h2:=aA4 m s o ho f q (l ++ l') h1.2
    cases hx:its m s o f q (l ++ l') with
    | error e=>rw [hx] at h2;exact h2
    | ok r=>rw [hx] at h2;exact⟨by have:=h1.1;have:=h2.1;simp only at *;omega,h2.2⟩
theorem aZ8(m:Md)(s:ByteArray)(p:Nat)(hp:p < s.size):Rng s p Prod.snd (brk m s p):=by
 unfold brk
 have hq:p < (if aJ s (p+1) [94] then p+2 else p+1)/\(if aJ s (p+1) [94] then p+2 else p+1)<=s.size:=by
  split
  ·rename_i h
   have:=bE h (by simp)
   simp at this
   omega
  ·omega
 have h1:=mD m s p _ (by omega) hq.2
 split
 ·rename_i e he;rw [he] at h1;exact h1
 ·rename_i l r he
  rw [he] at h1
  have h2:=aA4 m s p (by omega) (s.size+1) r l h1.2
  split
  ·rename_i e hf;rw [hf] at h2;exact h2
  ·rename_i l2 r2 hf
   rw [hf] at h2
   exact⟨by have:=h1.1;have:=h2.1;simp only at *;omega,h2.2⟩
theorem lC(s:ByteArray)(p:Nat)(h:p<=s.size):p+(bQ s p).length<=s.size:=by
 have:=(List.takeWhile_prefix dig (l:=s.data.toList.drop p)).length_le
 rw [List.length_drop,bN] at this
 unfold bQ
 omega
theorem bF0(s:ByteArray)(p:Nat):p+2<=ivR s p:=by
 unfold ivR ivQ
 split <;> omega
theorem aO1(s:ByteArray)(p:Nat)(h:p+1 < s.size):Rng s p Prod.snd (dY s p):=by
 unfold dY
 split
 ·exact⟨.inr (by omega),by omega⟩
 split
 ·exact⟨.inr (by omega),by omega⟩
 ·rename_i h1 _
  have h2:aJ s (ivR s p) [92,125]=true:=by
   cases hx:aJ s (ivR s p) [92,125] with
   | true=>rfl
   | false=>exact absurd (.inr hx) h1
  have h3:=bE h2 (by simp)
  have h4:=bF0 s p
  simp only [List.length_cons,List.length_nil] at h3
  exact⟨by simp only;omega,by simpa using h3⟩
theorem aY9(m:Md)(s:ByteArray)(p last:Nat)(h:p < s.size):Rng s p Prod.snd (esc m s p last):=by
 unfold esc
 split
 ·exact⟨.inr (by omega),by omega⟩
 have h2:∀ t:Tk,Rng s p Prod.snd (.ok (t,p+2):Rs (Tk × Nat)):=fun t=>⟨by simp only;omega,by simp only;omega⟩
 have h3:∀ c,30<=c->c<=38->Rng s p Prod.snd (.error (c,p):Rs (Tk × Nat)):=fun c h1 h2=>⟨.inr ⟨h1,h2⟩,by omega⟩
 have h4:=aO1 s p (by omega)
 repeat' split
 all_goals first | exact h2 _ | exact h4 | exact h3 _ (by omega) (by omega)
theorem lZ(m:Md)(s:ByteArray)(p last:Nat)(h:p < s.size):Rng s p Prod.snd (tok m s p last):=by
 unfold tok
 have h2:∀ t:Tk,Rng s p Prod.snd (.ok (t,p+1):Rs (Tk × Nat)):=fun t=>⟨by simp only;omega,by simp only;omega⟩
 split
 ·exact aY9 m s p last h
 split
 ·exact h2 _
 split
 ·exact h2 _
 split
 ·exact h2 _
 split
 ·exact h2 _
 split
 ·exact aZ8 m s p h
 ·have h5:=tM m s p h
  split
  ·rename_i e he;rw [he] at h5;exact h5
  ·rename_i c q he;rw [he] at h5;exact h5
end
end Go.Proofs.YtpfdapnfkghgkaaGreatDoor
